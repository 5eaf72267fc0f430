/- Plain facts: a node with fewer pods than it has slots has room for one more; the bound grows with what it hangs on. -/
import Derived.Test.YtmcpggbibonolaaFa
import Derived.Test.YtmcpggbibonolaaM
namespace Go.Proofs.Ytmcpggbibonolaa

theorem slots_cap (a b c d : Int) (h2 : okB c d = true) : slotsI a b c d * a ≤ c ∧ slotsI a b c d * b ≤ d := by
  have q := ok_iff.1 h2
  cases h1 : okB a b
  · rw [slots_left h1, Int.zero_mul, Int.zero_mul]; omega
  · cases h3 : notB a b
    · have := slots_fit h1 h2 h3
      exact ⟨this.2.2.2.1, this.2.2.2.2.2.1⟩
    · rw [slots_none h3, Int.zero_mul, Int.zero_mul]; omega

/-- What is left of a node behind i pods, each at most the greatest. -/
def SlotInv (n mc mm : Int) (i : Nat) (lc lm : Int) : Prop := okB lc lm = true ∧ (n - i) * mc ≤ lc ∧ (n - i) * mm ≤ lm

theorem SlotInv.zero {mc mm c d : Int} (h : okB c d = true) : SlotInv (slotsI mc mm c d) mc mm 0 c d := by
  have := slots_cap mc mm c d h
  exact ⟨h, by simpa using this.1, by simpa using this.2⟩
theorem times_one {t a : Int} (h : 1 ≤ t) (ha : 0 ≤ a) : a ≤ t * a := by
  have := Int.mul_le_mul_of_nonneg_right h ha
  omega
theorem SlotInv.fits {n mc mm lc lm wc wm : Int} {i : Nat} (h : SlotInv n mc mm i lc lm) (hi : (i : Int) + 1 ≤ n) (hok : okB wc wm = true) (hf : fitB wc wm mc mm = true) : fitB wc wm lc lm = true := by
  obtain ⟨h1, h2, h3⟩ := h
  have a := ok_iff.1 hok
  have b := fit_iff.1 hf
  have c1 := times_one (t := n - i) (a := mc) (by omega) (by omega)
  have c2 := times_one (t := n - i) (a := mm) (by omega) (by omega)
  exact fit_iff.2 ⟨by omega, by omega⟩
theorem SlotInv.step {n mc mm lc lm wc wm : Int} {i : Nat} (h : SlotInv n mc mm i lc lm) (hi : (i : Int) + 1 < n) (hok : okB wc wm = true) (hf : fitB wc wm mc mm = true) :
    SlotInv n mc mm (i + 1) (lessC lc lm wc wm) (lessM lc lm wc wm) := by
  have hfit := h.fits (by omega) hok hf
  obtain ⟨h1, h2, h3⟩ := h
  have hl : lessOk lc lm wc wm = true := by simp [lessOk, h1, hok, hfit]
  have a := ok_iff.1 hok
  have b := fit_iff.1 hf
  have o := ok_iff.1 h1
  have e := fit_iff.1 hfit
  have e1 : (n - ((i + 1 : Nat) : Int)) * mc = (n - i) * mc - mc := by
    have : n - ((i + 1 : Nat) : Int) = (n - i) - 1 := by omega
    rw [this, Int.sub_mul, Int.one_mul]
  have e2 : (n - ((i + 1 : Nat) : Int)) * mm = (n - i) * mm - mm := by
    have : n - ((i + 1 : Nat) : Int) = (n - i) - 1 := by omega
    rw [this, Int.sub_mul, Int.one_mul]
  refine ⟨ok_iff.2 ?_, ?_, ?_⟩
  · simp only [lessC, lessM, hl, if_true]; omega
  · rw [e1]; simp only [lessC, hl, if_true]; omega
  · rw [e2]; simp only [lessM, hl, if_true]; omega
theorem work_size {c : Cf} (h : cfgOk c = true) (i : Nat) (hi : i < c.works.length) : okB c.works[i].cpu c.works[i].mem = true := by
  have h1 := all_at (ok_of_works h).1 i hi
  simp only [wOk, wSize, Bool.and_eq_true] at h1
  exact h1.1.1.1.1.1
theorem group_size {c : Cf} (h : cfgOk c = true) (i : Nat) (hi : i < c.groups.length) : okB c.groups[i].cpu c.groups[i].mem = true := by
  have h1 := all_at (ok_of_groups h).1 i hi
  simp only [gOk, Bool.and_eq_true] at h1
  exact h1.1.1
theorem most_no (c : Cf) (h : cfgOk c = false) : mostOfC c = 0 ∧ mostOfM c = 0 := by simp [mostOfC, mostOfM, h]
theorem byte_mod (a : Int) (n : Nat) (h : 1 ≤ n) : ∃ q : Nat, a % (n : Int) = (q : Int) ∧ q < n := by
  have h0 := Int.emod_nonneg a (b := (n : Int)) (by omega)
  have h1 := Int.emod_lt_of_pos a (b := (n : Int)) (by omega)
  exact ⟨(a % (n : Int)).toNat, by omega, by omega⟩
end Go.Proofs.Ytmcpggbibonolaa
