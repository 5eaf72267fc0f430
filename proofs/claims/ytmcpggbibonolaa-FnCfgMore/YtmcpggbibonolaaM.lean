/- Plain facts on sizes, and the size functions' contracts case by case. -/
import Derived.Test.YtmcpggbibonolaaL
namespace Go.Proofs.Ytmcpggbibonolaa
open Go.RowKit

theorem bel_box {W w1 : World} (hb : Below W.heap.size W w1) {b : Nat} {x y : Value} (hl : b < W.heap.size) (h0 : W.cell? ⟨b, 0, none⟩ = some x) (h1 : W.cell? ⟨b, 1, none⟩ = some y) :
    b < w1.heap.size ∧ w1.cell? ⟨b, 0, none⟩ = some x ∧ w1.cell? ⟨b, 1, none⟩ = some y :=
  ⟨Nat.lt_of_lt_of_le hl hb.size, by rw [(bcell hb).1 _ _ hl]; exact h0, by rw [(bcell hb).1 _ _ hl]; exact h1⟩

theorem addOk_left {a b c d : Int} (h : okB a b = false) : addOk a b c d = false := by simp [addOk, h]
theorem addOk_right {a b c d : Int} (h : okB c d = false) : addOk a b c d = false := by simp [addOk, h]
theorem add_no {a b c d : Int} (h : addOk a b c d = false) : addC a b c d = 0 ∧ addM a b c d = 0 := by simp [addC, addM, h]
theorem add_yes {a b c d : Int} (h : addOk a b c d = true) : addC a b c d = a + c ∧ addM a b c d = b + d := by simp [addC, addM, h]
theorem add_yes_ok {a b c d : Int} (h : addOk a b c d = true) : okB a b = true ∧ okB c d = true ∧ okB (a + c) (b + d) = true := by simpa [addOk, and_assoc] using h
theorem less_back {a b c d : Int} (h : addOk a b c d = true) : lessOk (a + c) (b + d) c d = true ∧ lessC (a + c) (b + d) c d = a ∧ lessM (a + c) (b + d) c d = b := by
  obtain ⟨h1, h2, h3⟩ := add_yes_ok h
  obtain ⟨p1, p2, p3, p4⟩ := ok_iff.1 h1
  have hf : fitB c d (a + c) (b + d) = true := fit_iff.2 (by omega)
  have hl : lessOk (a + c) (b + d) c d = true := by simp [lessOk, h2, h3, hf]
  exact ⟨hl, by simp [lessC, hl], by simp [lessM, hl]⟩

theorem maxI_l (a b : Int) : a ≤ maxI a b ∧ b ≤ maxI a b ∧ (maxI a b = a ∨ maxI a b = b) := by unfold maxI; split <;> omega
theorem fit_most (a b c d : Int) : fitB a b (maxI a c) (maxI b d) = true ∧ fitB c d (maxI a c) (maxI b d) = true := by
  have h1 := maxI_l a c
  have h2 := maxI_l b d
  exact ⟨fit_iff.2 (by omega), fit_iff.2 (by omega)⟩

theorem slots_left {a b c d : Int} (h : okB a b = false) : slotsI a b c d = 0 := by simp [slotsI, h]
theorem slots_right {a b c d : Int} (h : okB c d = false) : slotsI a b c d = 0 := by simp [slotsI, h]
theorem slots_none {a b c d : Int} (h : notB a b = true) : slotsI a b c d = 0 := by simp [slotsI, h]

theorem slotI_mul {a c : Int} (h0 : 0 ≤ a) (h2 : 0 ≤ c) (h3 : c ≤ 10000) : 0 ≤ slotI a c ∧ slotI a c ≤ 10000 ∧ (0 < a → slotI a c * a ≤ c ∧ c < slotI a c * a + a) := by
  unfold slotI
  split
  · rename_i h; subst h; exact ⟨by omega, by omega, by omega⟩
  · have hp : 0 < a := by omega
    have hd := div_le_tt a c hp h2 h3
    refine ⟨hd.2, hd.1, fun _ => ?_⟩
    have e := Int.emod_add_mul_ediv c a
    have e1 := Int.emod_nonneg c (b := a) (by omega)
    have e2 := Int.emod_lt_of_pos c hp
    have e3 : a * (c / a) = c / a * a := Int.mul_comm _ _
    omega

/-- As many as there are slots have room, one more has not. -/
theorem slots_fit {a b c d : Int} (h1 : okB a b = true) (h2 : okB c d = true) (h3 : notB a b = false) :
    0 ≤ slotsI a b c d ∧ slotsI a b c d ≤ 10000 ∧ 0 ≤ slotsI a b c d * a ∧ slotsI a b c d * a ≤ c ∧ 0 ≤ slotsI a b c d * b ∧ slotsI a b c d * b ≤ d ∧ ¬ (slotsI a b c d * a + a ≤ c ∧ slotsI a b c d * b + b ≤ d) := by
  obtain ⟨p1, p2, p3, p4⟩ := ok_iff.1 h1
  obtain ⟨q1, q2, q3, q4⟩ := ok_iff.1 h2
  have e : slotsI a b c d = minI (slotI a c) (slotI b d) := by simp [slotsI, h1, h2, h3]
  rw [e]
  obtain ⟨x1, x2, x3⟩ := slotI_mul p1 q1 q2
  obtain ⟨y1, y2, y3⟩ := slotI_mul p3 q3 q4
  have hn : ¬ (a = 0 ∧ b = 0) := by simpa [notB] using h3
  generalize hn1 : slotI a c = s at *
  generalize hn2 : slotI b d = t at *
  have hm : minI s t ≤ s ∧ minI s t ≤ t ∧ (minI s t = s ∨ minI s t = t) ∧ 0 ≤ minI s t := by unfold minI; split <;> omega
  generalize minI s t = n at *
  obtain ⟨m1, m2, m3, m4⟩ := hm
  have a1 : n * a ≤ s * a := Int.mul_le_mul_of_nonneg_right m1 p1
  have b1 : n * b ≤ t * b := Int.mul_le_mul_of_nonneg_right m2 p3
  have a0 : 0 ≤ n * a := Int.mul_nonneg m4 p1
  have b0 : 0 ≤ n * b := Int.mul_nonneg m4 p3
  have ha : n * a ≤ c := by
    by_cases ha : a = 0
    · subst ha; simp; omega
    · have := (x3 (by omega)).1; omega
  have hb : n * b ≤ d := by
    by_cases hb : b = 0
    · subst hb; simp; omega
    · have := (y3 (by omega)).1; omega
  refine ⟨m4, by omega, a0, ha, b0, hb, ?_⟩
  rintro ⟨u, v⟩
  rcases m3 with rfl | rfl
  · by_cases ha : a = 0
    · have hbp : 0 < b := by omega
      have hs : n = 10000 := by rw [← hn1, ha]; simp [slotI]
      have ht : n = t := by omega
      subst ht
      have := (y3 hbp).2
      omega
    · have := (x3 (by omega)).2; omega
  · by_cases hb : b = 0
    · have hap : 0 < a := by omega
      have hs : n = 10000 := by rw [← hn2, hb]; simp [slotI]
      have ht : n = s := by omega
      subst ht
      have := (x3 hap).2
      omega
    · have := (y3 (by omega)).2; omega

theorem slots_pos (a b c d : Int) : 0 ≤ slotsI a b c d := by
  cases h1 : okB a b
  · rw [slots_left h1]; exact Int.le_refl _
  · cases h2 : okB c d
    · rw [slots_right h2]; exact Int.le_refl _
    · cases h3 : notB a b
      · exact (slots_fit h1 h2 h3).1
      · rw [slots_none h3]; exact Int.le_refl _
end Go.Proofs.Ytmcpggbibonolaa
