/- Contracts of the size functions, fourth part: slots. -/
import Derived.Test.YtifijknogofklaaC
namespace Go.Proofs.Ytifijknogofklaa
open Go.RowKit

theorem after2 {W w1 : World} (hb : Below W.heap.size W w1) (N : Nat) (h : N + 2 ≤ W.heap.size) :
    (∀ b o, b < W.heap.size → w1.cell? ⟨b, o, none⟩ = W.cell? ⟨b, o, none⟩) ∧ (∀ b o, b < W.heap.size → w1.frozen? ⟨b, o, none⟩ = W.frozen? ⟨b, o, none⟩) ∧ N < w1.heap.size ∧ N + 1 < w1.heap.size :=
  ⟨(bcell hb).1, (bcell hb).2, by have := hb.size; omega, by have := hb.size; omega⟩

def notB (a b : Int) : Bool := decide (a = 0 ∧ b = 0)
def slotsI (a b c d : Int) : Int := if okB a b && okB c d && !notB a b then minI (slotI a c) (slotI b d) else 0

theorem isNothing_any' (a b : Int) (w : World) :
    Calls Try.prog 107 #[.agg #[.int .i64 a, .int .i64 b]] w fun e w' => e = .returned (.bool (notB a b)) ∧ Below w.heap.size w w' := isNothing_any a b w

theorem div_le_tt (a c : Int) (h1 : 0 < a) (h2 : 0 ≤ c) (h3 : c ≤ 10000) : c / a ≤ 10000 ∧ 0 ≤ c / a :=
  ⟨Int.le_trans (Int.ediv_le_self _ h2) h3, Int.ediv_nonneg h2 (by omega)⟩

set_option maxHeartbeats 1000000 in
theorem specSlots_any (a b c d : Int) (w : World) :
    Calls Try.prog 97 #[.agg #[.int .i64 a, .int .i64 b], .agg #[.int .i64 c, .int .i64 d]] w fun e w' => e = .returned (.int .i64 (slotsI a b c d)) ∧ Below w.heap.size w w' := by
  by_cases h1 : okB a b = true
  · by_cases h2 : okB c d = true
    · obtain ⟨p1, p2, p3, p4⟩ := ok_iff.1 h1
      obtain ⟨q1, q2, q3, q4⟩ := ok_iff.1 h2
      by_cases ha : a = 0
      · subst ha
        by_cases hb0 : b = 0
        · subst hb0
          have e1 : slotsI 0 0 c d = 0 := by simp [slotsI, notB]
          rw [e1]; clear e1
          go_enter Try.func97, Try.ntmps97
          go_wp2_with (first | (go_at_call 85; refine (specOk_any _ _ _).mono ?_; rintro e w1 ⟨rfl, hb⟩; obtain ⟨hc, hf, z0, z1⟩ := after2 hb w.heap.size (by go_size)) | (go_at_call 64; refine (l1Min_any _ _ _).mono ?_; rintro e w1 ⟨rfl, rfl⟩))
          go_ret
          refine ⟨rfl, ?_⟩
          repeat (first | exact Below.refl _ _ | refine Below.setCell ?_ (by go_size) _ | refine Below.alloc ?_ (by go_size) _ | refine Below.drew ?_ | refine bel_trans ?_ (by assumption))
        · have hbp : 0 < b := by omega
          have hd := div_le_tt b d hbp q3 q4
          have e1 : slotsI 0 b c d = minI 10000 (d / b) := by simp [slotsI, notB, slotI, hb0, h1, h2]
          rw [e1]; clear e1
          have hbne : (b == 0) = false := by simpa using hb0
          clear hb0
          go_enter Try.func97, Try.ntmps97
          go_wp2_with (first | (go_at_call 85; refine (specOk_any _ _ _).mono ?_; rintro e w1 ⟨rfl, hb⟩; obtain ⟨hc, hf, z0, z1⟩ := after2 hb w.heap.size (by go_size)) | (go_at_call 64; refine (l1Min_any _ _ _).mono ?_; rintro e w1 ⟨rfl, rfl⟩))
          all_goals go_ret
          all_goals refine ⟨rfl, ?_⟩
          all_goals repeat (first | exact Below.refl _ _ | refine Below.setCell ?_ (by go_size) _ | refine Below.alloc ?_ (by go_size) _ | refine Below.drew ?_ | refine bel_trans ?_ (by assumption))
      · have hap : 0 < a := by omega
        have hc0 := div_le_tt a c hap q1 q2
        have hane : (a == 0) = false := by simpa using ha
        by_cases hb0 : b = 0
        · subst hb0
          have e1 : slotsI a 0 c d = minI 10000 (c / a) := by simp [slotsI, notB, slotI, ha, h1, h2]; unfold minI; split <;> split <;> omega
          rw [e1]; clear e1 ha
          go_enter Try.func97, Try.ntmps97
          go_wp2_with (first | (go_at_call 85; refine (specOk_any _ _ _).mono ?_; rintro e w1 ⟨rfl, hb⟩; obtain ⟨hc, hf, z0, z1⟩ := after2 hb w.heap.size (by go_size)) | (go_at_call 64; refine (l1Min_any _ _ _).mono ?_; rintro e w1 ⟨rfl, rfl⟩))
          all_goals go_ret
          all_goals refine ⟨rfl, ?_⟩
          all_goals repeat (first | exact Below.refl _ _ | refine Below.setCell ?_ (by go_size) _ | refine Below.alloc ?_ (by go_size) _ | refine Below.drew ?_ | refine bel_trans ?_ (by assumption))
        · have hbp : 0 < b := by omega
          have hd := div_le_tt b d hbp q3 q4
          have e1 : slotsI a b c d = minI (minI 10000 (c / a)) (d / b) := by simp [slotsI, notB, slotI, ha, hb0, h1, h2]; unfold minI; split <;> split <;> (try split) <;> omega
          rw [e1]; clear e1 ha
          have hbne : (b == 0) = false := by simpa using hb0
          clear hb0
          go_enter Try.func97, Try.ntmps97
          go_wp2_with (first | (go_at_call 85; refine (specOk_any _ _ _).mono ?_; rintro e w1 ⟨rfl, hb⟩; obtain ⟨hc, hf, z0, z1⟩ := after2 hb w.heap.size (by go_size)) | (go_at_call 64; refine (l1Min_any _ _ _).mono ?_; rintro e w1 ⟨rfl, rfl⟩))
          all_goals go_ret
          all_goals refine ⟨rfl, ?_⟩
          all_goals repeat (first | exact Below.refl _ _ | refine Below.setCell ?_ (by go_size) _ | refine Below.alloc ?_ (by go_size) _ | refine Below.drew ?_ | refine bel_trans ?_ (by assumption))
    · have h2' : okB c d = false := by simpa using h2
      clear h2
      have e1 : slotsI a b c d = 0 := by simp [slotsI, *]
      rw [e1]; clear e1
      go_enter Try.func97, Try.ntmps97
      go_wp2_with (first | (go_at_call 85; refine (specOk_any _ _ _).mono ?_; rintro e w1 ⟨rfl, hb⟩; obtain ⟨hc, hf, z0, z1⟩ := after2 hb w.heap.size (by go_size)) | (go_at_call 64; refine (l1Min_any _ _ _).mono ?_; rintro e w1 ⟨rfl, rfl⟩))
      go_ret
      refine ⟨rfl, ?_⟩
      repeat (first | exact Below.refl _ _ | refine Below.setCell ?_ (by go_size) _ | refine Below.alloc ?_ (by go_size) _ | refine Below.drew ?_ | refine bel_trans ?_ (by assumption))
  · have h1' : okB a b = false := by simpa using h1
    clear h1
    have e1 : slotsI a b c d = 0 := by simp [slotsI, *]
    rw [e1]; clear e1
    go_enter Try.func97, Try.ntmps97
    go_wp2_with (first | (go_at_call 85; refine (specOk_any _ _ _).mono ?_; rintro e w1 ⟨rfl, hb⟩; obtain ⟨hc, hf, z0, z1⟩ := after2 hb w.heap.size (by go_size)) | (go_at_call 64; refine (l1Min_any _ _ _).mono ?_; rintro e w1 ⟨rfl, rfl⟩))
    go_ret
    refine ⟨rfl, ?_⟩
    repeat (first | exact Below.refl _ _ | refine Below.setCell ?_ (by go_size) _ | refine Below.alloc ?_ (by go_size) _ | refine Below.drew ?_ | refine bel_trans ?_ (by assumption))

end Go.Proofs.Ytifijknogofklaa
