/- What is asked, whole: the document's conditions. -/
import Derived.Test.YtoceohacplmgnaaGreatDoorX
namespace Go.Proofs.YtoceohacplmgnaaGreatDoor
open Go.RowKit

set_option maxHeartbeats 400000 in
theorem sWait_any (n : Int) (w : World) :
    Calls Tryz.prog 67 #[.int .i64 n] w fun e w' => e = .returned (.bool (inB n 1 8)) ∧ w' = w := by
  go_enter Tryz.func67, Tryz.ntmps67
  go_wp2
  all_goals go_ret
  all_goals exact ⟨ret_bool (by simp [inB, *] <;> omega), rfl⟩

theorem wOk_iff (x : Wk) : wOk x = true ↔ okB x.cpu x.mem = true ∧ ¬ (x.cpu = 0 ∧ x.mem = 0) ∧ 1 ≤ x.min ∧ x.min ≤ x.max ∧ x.max ≤ 8 ∧ 1 ≤ x.target ∧ x.target < x.limit ∧ x.limit ≤ 10000 ∧ 0 ≤ x.tol ∧ x.tol ≤ 500 ∧ x.tol * x.target < 1000 * (x.limit - x.target) ∧ 0 ≤ x.rank ∧ x.rank ≤ 9 := by
  unfold wOk wSize wCount wLoad wTol wRank notB
  simp only [Bool.and_eq_true, in_iff, Bool.not_eq_true', decide_eq_false_iff_not, decide_eq_true_eq]
  generalize x.tol * x.target = z
  constructor
  · rintro ⟨⟨⟨⟨⟨h1, h2⟩, h3, h4⟩, h5, h6⟩, h7, h8⟩, h9⟩
    exact ⟨h1, h2, by omega, by omega, by omega, by omega, by omega, by omega, by omega, by omega, by omega, by omega, by omega⟩
  · rintro ⟨h1, h2, h3, h4, h5, h6, h7, h8, h9, h10, h11, h12, h13⟩
    exact ⟨⟨⟨⟨⟨h1, h2⟩, h3, by omega⟩, by omega, by omega⟩, by omega, h11⟩, by omega⟩
theorem gOk_iff (x : Gp) : gOk x = true ↔ okB x.cpu x.mem = true ∧ 0 ≤ x.min ∧ x.min ≤ x.max ∧ x.max ≤ 8 ∧ 1 ≤ x.boot ∧ x.boot ≤ 8 := by
  unfold gOk gCount gBoot
  simp only [Bool.and_eq_true, in_iff, decide_eq_true_eq]
  constructor
  · rintro ⟨⟨h1, h2, h3⟩, h4⟩
    exact ⟨h1, by omega, by omega, by omega, by omega, by omega⟩
  · rintro ⟨h1, h2, h3, h4, h5, h6⟩
    exact ⟨⟨h1, h2, by omega⟩, by omega⟩
theorem eq_wOk {x : Wk} {b : Bool} (h : b = true ↔ (okB x.cpu x.mem = true ∧ ¬ (x.cpu = 0 ∧ x.mem = 0) ∧ 1 ≤ x.min ∧ x.min ≤ x.max ∧ x.max ≤ 8 ∧ 1 ≤ x.target ∧ x.target < x.limit ∧ x.limit ≤ 10000 ∧ 0 ≤ x.tol ∧ x.tol ≤ 500 ∧ x.tol * x.target < 1000 * (x.limit - x.target) ∧ 0 ≤ x.rank ∧ x.rank ≤ 9)) : b = wOk x := by
  rw [Bool.eq_iff_iff, wOk_iff]; exact h
theorem eq_gOk {x : Gp} {b : Bool} (h : b = true ↔ (okB x.cpu x.mem = true ∧ 0 ≤ x.min ∧ x.min ≤ x.max ∧ x.max ≤ 8 ∧ 1 ≤ x.boot ∧ x.boot ≤ 8)) : b = gOk x := by
  rw [Bool.eq_iff_iff, gOk_iff]; exact h

set_option maxRecDepth 100000 in
set_option maxHeartbeats 1000000 in
theorem sGroup_any (x : Gp) (w : World) :
    Calls Tryz.prog 69 #[x.v] w fun e w' => e = .returned (.bool (gOk x)) ∧ Below w.heap.size w w' := by
  cases h1 : okB x.cpu x.mem
  all_goals
    go_enter Tryz.func69, Tryz.ntmps69
    go_wp2_with (first | (go_at_call 79; refine (specOk_any _ _ _).mono ?_; rintro e w1 ⟨rfl, hb⟩; obtain ⟨hc, hf⟩ := bcell hb))
    all_goals go_ret
    all_goals refine ⟨ret_bool (eq_gOk ?_), bel_trans (by go_grown) hb⟩
    all_goals simp only [h1, decide_eq_true_eq, Bool.false_eq_true, true_and, false_and]
    all_goals (refine ⟨fun hh => ?_, fun hh => ?_⟩ <;> first | exact hh.elim | omega)

end Go.Proofs.YtoceohacplmgnaaGreatDoor
