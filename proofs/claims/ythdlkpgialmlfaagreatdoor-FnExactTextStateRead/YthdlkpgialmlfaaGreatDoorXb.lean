/- Texts: cutting at blanks, as the library does it, in the document's words. -/
import Derived.Test.YthdlkpgialmlfaaGreatDoorXa
import Derived.Test.YthdlkpgialmlfaaGreatDoorTj
import Derived.Lib.Split
namespace Go.Proofs.YthdlkpgialmlfaaGreatDoor
open Go.RowKit

theorem idx_one (c : UInt8) : ∀ l : List UInt8, (c ∉ l ∧ Lib.index l [c] = -1) ∨ ∃ p q, l = p ++ c :: q ∧ c ∉ p ∧ Lib.index l [c] = (p.length : Int)
  | [] => .inl ⟨by simp, rfl⟩
  | b :: l => by
    by_cases h : b = c
    · subst h
      refine .inr ⟨[], l, rfl, by simp, ?_⟩
      rw [Lib.index, if_pos (by simp)]
      rfl
    · have hp : ([c] : List UInt8).isPrefixOf (b :: l) = false := by simp [List.isPrefixOf]; exact fun e => h e.symm
      rcases idx_one c l with ⟨h1, h2⟩ | ⟨p, q, h1, h2, h3⟩
      · refine .inl ⟨by simp [h1]; exact fun e => h e.symm, ?_⟩
        rw [Lib.index, hp, h2]
        rfl
      · refine .inr ⟨b :: p, q, by rw [h1]; rfl, by simp [h2]; exact fun e => h e.symm, ?_⟩
        rw [Lib.index, hp, h3]
        have : ((p.length : Int) == -1) = false := by rw [beq_eq_false_iff_ne]; omega
        simp [this]
theorem splitK_one (c : UInt8) : ∀ (k : Nat) (l : List UInt8), ((cutB c l).length ≤ k + 1 → Lib.splitK [c] 0 k l = cutB c l) ∧ (k + 1 < (cutB c l).length → (Lib.splitK [c] 0 k l).length = k + 1)
  | 0, l => by
    rw [Lib.splitK]
    refine ⟨fun h => ?_, fun _ => rfl⟩
    rcases idx_one c l with ⟨h1, _⟩ | ⟨p, q, h1, h2, _⟩
    · rw [cut_none h1]
    · rw [h1, cut_some q h2] at h
      have := cut_pos c q
      simp only [List.length_cons] at h
      omega
  | k + 1, l => by
    rw [Lib.splitK]
    rcases idx_one c l with ⟨h1, h2⟩ | ⟨p, q, h1, h2, h3⟩
    · rw [h2, if_pos (by decide), cut_none h1]
      exact ⟨fun _ => rfl, fun h => by simp at h⟩
    · have hn : ¬ (Lib.index l [c] == -1) = true := by rw [h3]; simp
      rw [if_neg hn, h3]
      have e1 : l.take ((p.length : Int).toNat + 0) = p := by rw [h1]; simp
      have e2 : l.drop ((p.length : Int).toNat + [c].length) = q := by
        rw [h1]
        simp
      rw [e1, e2, h1, cut_some q h2]
      obtain ⟨i1, i2⟩ := splitK_one c k q
      refine ⟨fun h => ?_, fun h => ?_⟩
      · rw [i1 (by simp at h; omega)]
      · simp only [List.length_cons] at h ⊢
        rw [i2 (by omega)]
/-- What the library's SplitN of one more piece than wanted tells. -/
theorem splitN_one (l : List UInt8) (m : Nat) :
    (Lib.splitK [32] 0 (min (m + 1) (l.length + 1) - 1) l).length = m ↔ (cutB 32 l).length = m ∧ Lib.splitK [32] 0 (min (m + 1) (l.length + 1) - 1) l = cutB 32 l := by
  obtain ⟨h1, h2⟩ := splitK_one 32 (min (m + 1) (l.length + 1) - 1) l
  have h3 := cut_length 32 l
  constructor
  · intro h
    by_cases h4 : (cutB 32 l).length ≤ min (m + 1) (l.length + 1) - 1 + 1
    · have h5 := h1 h4
      rw [h5] at h
      exact ⟨h, h5⟩
    · have h5 := h2 (by omega)
      omega
  · rintro ⟨h4, h5⟩
    rw [h5, h4]
theorem splitN_eq {l : List UInt8} {m : Nat} (h : (cutB 32 l).length = m) : Lib.splitK [32] 0 (min (m + 1) (l.length + 1) - 1) l = cutB 32 l := by
  have h3 := cut_length 32 l
  exact (splitK_one 32 _ l).1 (by omega)
theorem cut_lib (l : List UInt8) : Lib.cut l [32] = if (32 : UInt8) ∈ l then ((cutB 32 l).headD [], l.drop (((cutB 32 l).headD []).length + 1), true) else (l, [], false) := by
  rcases idx_one 32 l with ⟨h1, h2⟩ | ⟨p, q, h1, h2, h3⟩
  · rw [if_neg h1, Lib.cut, h2]
    rfl
  · have hm : (32 : UInt8) ∈ l := by rw [h1]; simp
    rw [if_pos hm, Lib.cut, h3, if_pos (by omega), h1, cut_some q h2]
    simp
theorem inter32_cut : ∀ l : List UInt8, [32].intercalate (cutB 32 l) = l
  | [] => rfl
  | b :: l => by
    have ih := inter32_cut l
    by_cases h : b = 32
    · subst h
      rw [cutB, if_pos rfl]
      obtain ⟨p, ps, hp⟩ : ∃ p ps, cutB 32 l = p :: ps := by
        cases hc : cutB 32 l with
        | nil => have := cut_pos 32 l; rw [hc] at this; simp at this
        | cons p ps => exact ⟨p, ps, rfl⟩
      rw [hp] at ih ⊢
      have e : [32].intercalate ([] :: p :: ps) = 32 :: [32].intercalate (p :: ps) := by simp [List.intercalate, List.intersperse]
      rw [e, ih]
    · rw [cutB, if_neg h]
      cases hc : cutB 32 l with
      | nil => have := cut_pos 32 l; rw [hc] at this; simp at this
      | cons p ps =>
        rw [hc] at ih
        cases ps with
        | nil => simpa [List.intercalate] using ih
        | cons q qs =>
          have e1 : [32].intercalate (p :: q :: qs) = p ++ 32 :: [32].intercalate (q :: qs) := by simp [List.intercalate, List.intersperse]
          have e2 : [32].intercalate ((b :: p) :: q :: qs) = b :: p ++ 32 :: [32].intercalate (q :: qs) := by simp [List.intercalate, List.intersperse]
          rw [e2]
          rw [e1] at ih
          simp only [List.cons_append]
          rw [ih]
theorem inter32_nums : ∀ (x : Int) (l : List Int), [32].intercalate ((x :: l).map decB) = numsB (x :: l)
  | x, [] => by simp [List.intercalate, numsB, numsP]
  | x, y :: l => by
    have e : [32].intercalate ((x :: y :: l).map decB) = decB x ++ 32 :: [32].intercalate ((y :: l).map decB) := by simp [List.intercalate]
    rw [e, inter32_nums y l, numsB_cons]
/-- What is read as numbers, piece by piece. -/
theorem readB_pieces {t : List UInt8} {m : Nat} {ns : List Int} (hm : 0 < m) : readB t m = some ns ↔ (cutB 32 t).length = m ∧ ns.map decB = cutB 32 t ∧ ∀ n ∈ ns, inM n = true := by
  rw [readB_iff hm]
  constructor
  · rintro ⟨h1, h2, h3⟩
    obtain ⟨x, l, rfl⟩ : ∃ x l, ns = x :: l := by
      cases ns with
      | nil => simp at h1; omega
      | cons x l => exact ⟨x, l, rfl⟩
    have h4 := cut_nums x l (fun n hn => inM_i64 (h2 n hn))
    rw [h3] at h4
    rw [h4]
    exact ⟨by simpa using h1, rfl, h2⟩
  · rintro ⟨h1, h2, h3⟩
    have h4 : ns.length = m := by rw [← h1, ← h2, List.length_map]
    refine ⟨h4, h3, ?_⟩
    obtain ⟨x, l, rfl⟩ : ∃ x l, ns = x :: l := by
      cases ns with
      | nil => simp at h4; omega
      | cons x l => exact ⟨x, l, rfl⟩
    rw [← inter32_nums, h2, inter32_cut]
end Go.Proofs.YthdlkpgialmlfaaGreatDoor
