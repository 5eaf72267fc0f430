/- Texts: what is written is read (plain). -/
import Derived.Test.YthdlkpgialmlfaaGreatDoorTi
namespace Go.Proofs.YthdlkpgialmlfaaGreatDoor
open Go.RowKit

theorem dig_toNat {n : Nat} (h : n < 10) : (UInt8.ofNat (48 + n)).toNat = 48 + n := by
  rw [UInt8.toNat_ofNat']
  omega
theorem digsN_digs : ∀ (k n : Nat), n < 10 ^ k → 0 < k → (digsN n).all isDig = true ∧ valN (digsN n) = n
  | 0, _, _, h => by omega
  | k + 1, n, hn, _ => by
    by_cases h : n < 10
    · rw [digsN_small h]
      simp only [List.all_cons, List.all_nil, Bool.and_true, isDig, valN, List.foldl_cons, List.foldl_nil, dig_toNat h, decide_eq_true_eq]
      omega
    · rw [digsN_step h]
      have h2 : n / 10 < 10 ^ k := by rw [Nat.div_lt_iff_lt_mul (by omega), ← Nat.pow_succ]; exact hn
      have hk : 0 < k := by
        cases k with
        | zero => simp at hn; omega
        | succ k => omega
      obtain ⟨i1, i2⟩ := digsN_digs k _ h2 hk
      have h3 : n % 10 < 10 := Nat.mod_lt _ (by omega)
      rw [List.all_append, i1, valN_snoc, i2]
      simp only [List.all_cons, List.all_nil, Bool.and_true, Bool.true_and, isDig, dig_toNat h3, decide_eq_true_eq]
      omega
theorem digsN_head : ∀ (k n : Nat), n < 10 ^ k → 0 < n → (digsN n).head? ≠ some 48
  | 0, n, h, h2 => by simp at h; omega
  | k + 1, n, hn, h0 => by
    by_cases h : n < 10
    · rw [digsN_small h]
      simp only [List.head?_cons, ne_eq, Option.some.injEq]
      intro e
      have := congrArg UInt8.toNat e
      rw [dig_toNat h] at this
      simp at this
      omega
    · rw [digsN_step h]
      have h2 : n / 10 < 10 ^ k := by rw [Nat.div_lt_iff_lt_mul (by omega), ← Nat.pow_succ]; exact hn
      have ih := digsN_head k (n / 10) h2 (by omega)
      cases hd : digsN (n / 10) with
      | nil =>
        have := digsN_digs (k + 1) (n / 10) (by rw [Nat.pow_succ]; omega) (by omega)
        rw [hd] at this
        simp [valN] at this
        omega
      | cons a r =>
        rw [hd] at ih
        simpa using ih
theorem digsN_ne (n : Nat) : digsN n ≠ [] := by
  intro e
  by_cases h9 : n < 10
  · rw [digsN_small h9] at e; simp at e
  · rw [digsN_step h9] at e; simp at e
theorem dig_not {l : List UInt8} (h : l.all isDig = true) {b : UInt8} (hb : isDig b = false) : b ∉ l := by
  intro hm
  rw [List.all_eq_true] at h
  rw [h b hm] at hb
  cases hb
theorem abs_digs (neg : Bool) (n : Nat) (h : n ≤ 1000000) (hn : neg = true → 0 < n) : absOf neg (digsN n) = some n := by
  obtain ⟨i1, i2⟩ := digsN_digs 7 n (by omega) (by omega)
  have hl := digsN_length 7 n (by omega) (by omega)
  have hb : badN neg (digsN n) = false := by
    unfold badN
    have hne := digsN_ne n
    by_cases h0 : n = 0
    · subst h0
      have : neg = false := by cases neg <;> simp_all
      subst this
      simp [digsN_small (show 0 < 10 by omega)]
    · have hh := digsN_head 7 n (by omega) (by omega)
      simp [hne, hh]
      omega
  rw [absOf, hb, i1, i2]
  rfl
theorem num_dec {n : Int} (h : inM n = true) : numOf (decB n) = some n := by
  simp only [inM, decide_eq_true_eq] at h
  unfold decB
  split
  · rename_i hn
    have := abs_digs true (-n).toNat (by omega) (by omega)
    simp only [numOf, List.head?_cons, if_true, List.tail_cons, this, Option.map_some]
    congr 1
    omega
  · rename_i hn
    have hd := abs_digs false n.toNat (by omega) (by simp)
    have hh : (digsN n.toNat).head? ≠ some 45 := by
      intro e
      have i1 := (digsN_digs 7 n.toNat (by omega) (by omega)).1
      have := dig_not i1 (b := 45) (by decide)
      exact this (List.mem_of_mem_head? (by simp [e]))
    rw [numOf, if_neg hh, hd]
    simp only [Option.map_some]
    congr 1
    omega
theorem dec_blank {n : Int} (h : I64 n) : (32 : UInt8) ∉ decB n := by
  have hd : ∀ m : Nat, m < 10 ^ 19 → (32 : UInt8) ∉ digsN m := fun m hm => dig_not (digsN_digs 19 m hm (by omega)).1 (by decide)
  unfold decB
  obtain ⟨h1, h2⟩ := h
  split
  · intro hm
    simp only [List.mem_cons] at hm
    rcases hm with hm | hm
    · exact absurd hm (by decide)
    · exact hd _ (by omega) hm
  · exact hd _ (by omega)
theorem dec_line {n : Int} (h : I64 n) : (10 : UInt8) ∉ decB n := by
  have hd : ∀ m : Nat, m < 10 ^ 19 → (10 : UInt8) ∉ digsN m := fun m hm => dig_not (digsN_digs 19 m hm (by omega)).1 (by decide)
  unfold decB
  obtain ⟨h1, h2⟩ := h
  split
  · intro hm
    simp only [List.mem_cons] at hm
    rcases hm with hm | hm
    · exact absurd hm (by decide)
    · exact hd _ (by omega) hm
  · exact hd _ (by omega)

theorem numsP_cons (x : Int) (l : List Int) : ∀ k, numsP (x :: l) (k + 1) = decB x ++ (if k = 0 then [] else 32 :: numsP l k)
  | 0 => by simp [numsP]
  | k + 1 => by
    rw [numsP, numsP_cons x l k]
    by_cases h : k = 0
    · subst h
      simp [numsP]
    · simp [h, numsP]
theorem numsB_cons (x y : Int) (l : List Int) : numsB (x :: y :: l) = decB x ++ 32 :: numsB (y :: l) := by
  rw [numsB, List.length_cons, numsP_cons, if_neg (by simp)]
  rfl
theorem cut_nums : ∀ (x : Int) (l : List Int), (∀ n ∈ x :: l, I64 n) → cutB 32 (numsB (x :: l)) = (x :: l).map decB
  | x, [], h => by
    have : numsB [x] = decB x := by simp [numsB, numsP]
    rw [this, cut_none (dec_blank (h x (by simp)))]
    rfl
  | x, y :: l, h => by
    rw [numsB_cons, cut_some _ (dec_blank (h x (by simp))), cut_nums y l (fun n hn => h n (by simp [List.mem_cons] at hn ⊢; exact .inr hn))]
    rfl
theorem readP_dec : ∀ l : List Int, (∀ n ∈ l, inM n = true) → readP (l.map decB) = some l
  | [], _ => rfl
  | x :: l, h => by
    have h1 : numIn (decB x) = some x := by
      simp [numIn, num_dec (h x (by simp)), h x (by simp)]
    simp [readP, h1, readP_dec l (fun n hn => h n (by simp [hn]))]
/-- What is read of a text is what is written so. -/
theorem readB_iff {t : List UInt8} {n : Nat} {xs : List Int} (hn : 0 < n) : readB t n = some xs ↔ xs.length = n ∧ (∀ x ∈ xs, inM x = true) ∧ numsB xs = t := by
  constructor
  · intro h
    unfold readB at h
    split at h
    · rename_i hl
      split at h
      · rename_i ys hy
        split at h
        · rename_i he
          cases h
          exact ⟨by rw [readP_length _ _ hy, hl], readP_in _ _ hy, he⟩
        · cases h
      · cases h
    · cases h
  · rintro ⟨h1, h2, h3⟩
    cases xs with
    | nil => simp at h1; omega
    | cons x l =>
      have hc : cutB 32 t = (x :: l).map decB := by rw [← h3]; exact cut_nums x l (fun n hn => inM_i64 (h2 n hn))
      rw [readB, hc, if_pos (by simpa using h1), readP_dec _ h2]
      simp [h3]
end Go.Proofs.YthdlkpgialmlfaaGreatDoor
