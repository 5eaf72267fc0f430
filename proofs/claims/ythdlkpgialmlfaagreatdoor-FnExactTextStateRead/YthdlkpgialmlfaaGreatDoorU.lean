/- What is asked, whole: the program's counts. -/
import Derived.Test.YthdlkpgialmlfaaGreatDoorT
namespace Go.Proofs.YthdlkpgialmlfaaGreatDoor
open Go.RowKit

def sumMax (l : List Wk) : Int := (l.map Wk.max).sum
def sumMaxG (l : List Gp) : Int := (l.map Gp.max).sum
def sumTurns (l : List Wk) : Int := (l.map fun x => x.max - x.min + 2).sum
def mostC (l : List Wk) : Int := l.foldl (fun m x => maxI m x.cpu) 0
def mostM (l : List Wk) : Int := l.foldl (fun m x => maxI m x.mem) 0
def mostBoot (l : List Gp) : Int := l.foldl (fun m x => maxI m x.boot) 0

theorem ok_of_works {c : Cf} (h : cfgOk c = true) : c.works.all wOk = true ∧ 1 ≤ c.works.length ∧ c.works.length ≤ 3 := by
  unfold cfgOk worksB at h
  simp only [Bool.and_eq_true, in_iff] at h
  obtain ⟨⟨⟨⟨h1, h2⟩, h3⟩, _⟩, _⟩ := h
  exact ⟨h3, by omega, by omega⟩
theorem ok_of_groups {c : Cf} (h : cfgOk c = true) : c.groups.all gOk = true ∧ 1 ≤ c.groups.length ∧ c.groups.length ≤ 3 := by
  unfold cfgOk groupsB at h
  simp only [Bool.and_eq_true, in_iff] at h
  obtain ⟨⟨_, ⟨h1, h2⟩, h3⟩, _⟩ := h
  exact ⟨h3, by omega, by omega⟩
theorem ok_of_waits {c : Cf} (h : cfgOk c = true) : (1 ≤ c.start ∧ c.start ≤ 8) ∧ (1 ≤ c.calm ∧ c.calm ≤ 8) ∧ (1 ≤ c.back ∧ c.back ≤ 8) ∧ (2 ≤ c.idle ∧ c.idle ≤ 8) := by
  unfold cfgOk waitsB at h
  simp only [Bool.and_eq_true, in_iff] at h
  obtain ⟨_, ⟨⟨h1, h2⟩, h3⟩, h4⟩ := h
  exact ⟨h1, h2, h3, h4⟩
theorem wOk_bd {x : Wk} (h : wOk x = true) : 0 ≤ x.cpu ∧ x.cpu ≤ 10000 ∧ 0 ≤ x.mem ∧ x.mem ≤ 10000 ∧ 1 ≤ x.min ∧ x.min ≤ x.max ∧ x.max ≤ 8 ∧ 1 ≤ x.target ∧ x.target < x.limit ∧ x.limit ≤ 10000 ∧ 0 ≤ x.tol ∧ x.tol ≤ 500 ∧ 0 ≤ x.rank ∧ x.rank ≤ 9 ∧ ¬ (x.cpu = 0 ∧ x.mem = 0) := by
  unfold wOk wSize wCount wLoad wTol wRank at h
  simp only [Bool.and_eq_true, in_iff, ok_iff, decide_eq_true_eq] at h
  obtain ⟨⟨⟨⟨⟨h1, h2⟩, h3, h4⟩, h5, h6⟩, h7, h8⟩, h9⟩ := h
  refine ⟨h1.1, h1.2.1, h1.2.2.1, h1.2.2.2, h3, h4.1, h4.2, h6.1, by omega, h5.2, h7.1, h7.2, h9.1, h9.2, ?_⟩
  rintro ⟨ha, hb⟩
  simp [notB, ha, hb] at h2
theorem gOk_bd {x : Gp} (h : gOk x = true) : 0 ≤ x.cpu ∧ x.cpu ≤ 10000 ∧ 0 ≤ x.mem ∧ x.mem ≤ 10000 ∧ 0 ≤ x.min ∧ x.min ≤ x.max ∧ x.max ≤ 8 ∧ 1 ≤ x.boot ∧ x.boot ≤ 8 := by
  unfold gOk gCount gBoot at h
  simp only [Bool.and_eq_true, in_iff, ok_iff, decide_eq_true_eq] at h
  obtain ⟨⟨h1, h2, h3⟩, h4⟩ := h
  exact ⟨h1.1, h1.2.1, h1.2.2.1, h1.2.2.2, h2, h3.1, h3.2, h4.1, h4.2⟩

theorem all_at {α : Type} {p : α → Bool} {l : List α} (h : l.all p = true) (i : Nat) (hi : i < l.length) : p l[i] = true :=
  List.all_eq_true.1 h _ (List.getElem_mem hi)
theorem take_sum {α : Type} (f : α → Int) (l : List α) (i : Nat) (h : i < l.length) : ((l.take (i + 1)).map f).sum = ((l.take i).map f).sum + f l[i] := by
  rw [List.take_succ_eq_append_getElem h, List.map_append, List.sum_append]; simp only [List.map_cons, List.map_nil, List.sum_cons, List.sum_nil, Int.add_zero]
theorem take_foldl {α β : Type} (f : β → α → β) (z : β) (l : List α) (i : Nat) (h : i < l.length) : (l.take (i + 1)).foldl f z = f ((l.take i).foldl f z) l[i] := by
  rw [List.take_succ_eq_append_getElem h, List.foldl_append]; rfl

theorem sumMax_bd (l : List Wk) (h : l.all wOk = true) (i : Nat) : 0 ≤ sumMax (l.take i) ∧ sumMax (l.take i) ≤ 8 * i := by
  induction i with
  | zero => simp [sumMax]
  | succ i ih =>
    by_cases hi : i < l.length
    · have hb := wOk_bd (all_at h i hi)
      unfold sumMax at *
      rw [take_sum _ _ _ hi]; omega
    · rw [List.take_of_length_le (by omega)] at *; omega
theorem sumTurns_bd (l : List Wk) (h : l.all wOk = true) (i : Nat) : 0 ≤ sumTurns (l.take i) ∧ sumTurns (l.take i) ≤ 9 * i := by
  induction i with
  | zero => simp [sumTurns]
  | succ i ih =>
    by_cases hi : i < l.length
    · have hb := wOk_bd (all_at h i hi)
      unfold sumTurns at *
      rw [take_sum _ _ _ hi]; omega
    · rw [List.take_of_length_le (by omega)] at *; omega
theorem sumMaxG_bd (l : List Gp) (h : l.all gOk = true) (i : Nat) : 0 ≤ sumMaxG (l.take i) ∧ sumMaxG (l.take i) ≤ 8 * i := by
  induction i with
  | zero => simp [sumMaxG]
  | succ i ih =>
    by_cases hi : i < l.length
    · have hb := gOk_bd (all_at h i hi)
      unfold sumMaxG at *
      rw [take_sum _ _ _ hi]; omega
    · rw [List.take_of_length_le (by omega)] at *; omega
theorem mostBoot_bd (l : List Gp) (h : l.all gOk = true) (i : Nat) : 0 ≤ mostBoot (l.take i) ∧ mostBoot (l.take i) ≤ 8 := by
  induction i with
  | zero => simp [mostBoot]
  | succ i ih =>
    by_cases hi : i < l.length
    · have hb := gOk_bd (all_at h i hi)
      unfold mostBoot at *
      rw [take_foldl _ _ _ _ hi]; unfold maxI at *; split <;> omega
    · rw [List.take_of_length_le (by omega)] at *; omega
theorem most_bd (l : List Wk) (h : l.all wOk = true) (i : Nat) : 0 ≤ mostC (l.take i) ∧ mostC (l.take i) ≤ 10000 ∧ 0 ≤ mostM (l.take i) ∧ mostM (l.take i) ≤ 10000 := by
  induction i with
  | zero => simp [mostC, mostM]
  | succ i ih =>
    by_cases hi : i < l.length
    · have hb := wOk_bd (all_at h i hi)
      unfold mostC mostM at *
      rw [take_foldl _ _ _ _ hi, take_foldl _ _ _ _ hi]; generalize List.foldl _ _ _ = A at *; generalize List.foldl _ _ _ = B at *; unfold maxI at *; split <;> split <;> omega
    · rw [List.take_of_length_le (by omega)] at *; omega

end Go.Proofs.YthdlkpgialmlfaaGreatDoor
