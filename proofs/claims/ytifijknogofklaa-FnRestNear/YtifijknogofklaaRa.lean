/- At rest: what a load asks for and what is near it: the program's helpers. -/
import Derived.Test.YtifijknogofklaaU
import Derived.Test.YtifijknogofklaaKeep
namespace Go.Proofs.Ytifijknogofklaa
open Go.RowKit

def ceilI (l t : Int) : Int := (l + t - 1) / t
def wantI (x : Wk) (l : Int) : Int := maxI x.min (minI (ceilI l x.target) x.max)
def nearI (x : Wk) (l p : Int) : Bool := decide (1000 * maxI (l - p * x.target) (p * x.target - l) ≤ x.tol * (p * x.target))
def rightI (x : Wk) (l p : Int) : Bool := inB p x.min x.max && (decide (p = wantI x l) || nearI x l p)
def isAt (k n : Int) : Bool := decide (0 ≤ k) && decide (k < n)

theorem ceil_bd {l t : Int} (h1 : 0 ≤ l) (h2 : l ≤ 1000001) (h3 : 1 ≤ t) : 0 ≤ ceilI l t ∧ ceilI l t ≤ 1000001 := by
  unfold ceilI
  refine ⟨Int.ediv_nonneg (by omega) (by omega), ?_⟩
  have h4 : (l + t - 1) / t ≤ (l * t + (t - 1)) / t := Int.ediv_le_ediv (by omega) (by
    have : l * 1 ≤ l * t := Int.mul_le_mul_of_nonneg_left h3 h1
    omega)
  have h5 : (l * t + (t - 1)) / t = l := by
    rw [Int.add_comm, Int.add_mul_ediv_right _ _ (by omega), Int.ediv_eq_zero_of_lt (by omega) (by omega)]; omega
  omega

theorem mul_bd3 (a b A B : Int) (h0 : 0 ≤ a) (h1 : a ≤ A) (h2 : 0 ≤ b) (h3 : b ≤ B) : 0 ≤ a * b ∧ a * b ≤ A * B :=
  ⟨Int.mul_nonneg h0 h2, Int.mul_le_mul h1 h3 h2 (by omega)⟩

set_option maxHeartbeats 400000 in
theorem isPlace_any (a : Option Addr) (len cap : Nat) (k : Int) (w : World) :
    Calls Try.prog 56 #[.slice a len cap, .int .i64 k] w fun e w' => e = .returned (.bool (isAt k len)) ∧ w' = w := by
  by_cases h0 : 0 ≤ k
  · by_cases h1 : k < (len : Int)
    · go_enter Try.func56, Try.ntmps56
      go_wp2
      all_goals go_ret
      all_goals exact ⟨ret_bool (by simp [isAt, h0, h1]), rfl⟩
    · go_enter Try.func56, Try.ntmps56
      go_wp2
      all_goals go_ret
      all_goals exact ⟨ret_bool (by simp [isAt, h1]), rfl⟩
  · go_enter Try.func56, Try.ntmps56
    go_wp2
    all_goals go_ret
    all_goals exact ⟨ret_bool (by simp [isAt]; omega), rfl⟩

set_option maxHeartbeats 400000 in
theorem clamp_any (n lo hi : Int) (w : World) :
    Calls Try.prog 59 #[.int .i64 n, .int .i64 lo, .int .i64 hi] w fun e w' => e = .returned (.int .i64 (maxI lo (minI n hi))) ∧ w' = w := by
  go_enter Try.func59, Try.ntmps59
  go_wp2_with (first | (go_at_call 84; refine (lesser_any _ _ _).mono ?_; rintro e w' ⟨rfl, rfl⟩) | (go_at_call 83; refine (greater_any _ _ _).mono ?_; rintro e w' ⟨rfl, rfl⟩))
  all_goals go_ret
  all_goals exact ⟨rfl, rfl⟩

set_option maxRecDepth 100000 in
set_option maxHeartbeats 1000000 in
theorem podsFor_any (x : Wk) (l : Int) (w : World) (h1 : 0 ≤ l) (h2 : l ≤ 1000001) (h3 : 1 ≤ x.target) (h4 : x.target ≤ 10000) :
    Calls Try.prog 25 #[x.v, .int .i64 l] w fun e w' => e = .returned (.int .i64 (wantI x l)) ∧ Below w.heap.size w w' := by
  have h5 : 0 < x.target := by omega
  have h6 : ¬ x.target = 0 := by omega
  have w1 : IntKind.i64.wrap (l + x.target) = l + x.target := by rw [IntKind.wrap_i64]; omega
  have w2 : IntKind.i64.wrap (l + x.target - 1) = l + x.target - 1 := by rw [IntKind.wrap_i64]; omega
  have w3 : (0 : Int) ≤ l + x.target - 1 := by omega
  obtain ⟨q0, q1⟩ := ceil_bd h1 h2 h3
  unfold wantI
  unfold ceilI at q0 q1 ⊢
  have w4 : Int.tdiv (l + x.target - 1) x.target = (l + x.target - 1) / x.target := Int.tdiv_eq_ediv_of_nonneg w3
  have w5 : IntKind.i64.wrap ((l + x.target - 1) / x.target) = (l + x.target - 1) / x.target := by rw [IntKind.wrap_i64]; omega
  have w6 : IntKind.i64.wrap (Int.tdiv (l + x.target - 1) x.target) = (l + x.target - 1) / x.target := by rw [w4, w5]
  go_enter Try.func25, Try.ntmps25
  go_wp2
  go_region_held3 (fun w' => w'.cell? ⟨w.heap.size, 4, none⟩ = some (.int .i64 x.target) ∧ w'.cell? ⟨w.heap.size, 2, none⟩ = some (.int .i64 x.min) ∧ w'.cell? ⟨w.heap.size, 3, none⟩ = some (.int .i64 x.max)) (go_keep)
    (first | (go_at_call 59; refine (clamp_any _ _ _ _).mono ?_; rintro e w' ⟨rfl, rfl⟩))
  all_goals go_wp2
  all_goals go_ret
  all_goals exact ⟨rfl, by go_grown⟩

set_option maxRecDepth 100000 in
set_option maxHeartbeats 1000000 in
theorem isNear_any (x : Wk) (l p : Int) (w : World) (h1 : 0 ≤ l) (h2 : l ≤ 1000001) (h3 : 0 ≤ x.target) (h4 : x.target ≤ 10000) (h5 : 0 ≤ p) (h6 : p ≤ 8) (h7 : 0 ≤ x.tol) (h8 : x.tol ≤ 500) :
    Calls Try.prog 58 #[x.v, .int .i64 l, .int .i64 p] w fun e w' => e = .returned (.bool (nearI x l p)) ∧ Below w.heap.size w w' := by
  obtain ⟨m0, m1⟩ := mul_bd3 p x.target 8 10000 h5 h6 h3 h4
  obtain ⟨n0, n1⟩ := mul_bd3 x.tol (p * x.target) 500 80000 h7 h8 m0 (by omega)
  replace m1 : p * x.target ≤ 80000 := by omega
  replace n1 : x.tol * (p * x.target) ≤ 40000000 := by omega
  have k0 : 0 ≤ maxI (l - p * x.target) (p * x.target - l) ∧ maxI (l - p * x.target) (p * x.target - l) ≤ 1100000 := by unfold maxI; split <;> omega
  obtain ⟨k0, k1⟩ := k0
  unfold nearI
  go_enter Try.func58, Try.ntmps58
  go_wp2_with (first | (go_at_call 83; refine (greater_any _ _ _).mono ?_; rintro e w' ⟨rfl, rfl⟩))
  all_goals go_ret
  all_goals exact ⟨rfl, by go_grown⟩
end Go.Proofs.Ytifijknogofklaa
