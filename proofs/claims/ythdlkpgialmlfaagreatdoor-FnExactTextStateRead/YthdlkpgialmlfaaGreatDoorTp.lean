/- Texts: what is asked, read from a text: just what is written so (plain). -/
import Derived.Test.YthdlkpgialmlfaaGreatDoorTk
import Derived.Test.YthdlkpgialmlfaaGreatDoorTc
namespace Go.Proofs.YthdlkpgialmlfaaGreatDoor
open Go.RowKit

def wkL (xs : List Int) : Wk := ⟨xs.getD 0 0, xs.getD 1 0, xs.getD 2 0, xs.getD 3 0, xs.getD 4 0, xs.getD 5 0, xs.getD 6 0, xs.getD 7 0⟩
def gpL (xs : List Int) : Gp := ⟨xs.getD 0 0, xs.getD 1 0, xs.getD 2 0, xs.getD 3 0, xs.getD 4 0⟩
/-- The numbers behind a word. -/
def lineN (wd : List UInt8) (n : Nat) (line : List UInt8) : Option (List Int) := match restB line wd with
  | some a => readB a n
  | none => none
def lineC (c : Cf) (line : List UInt8) : Option Cf := match lineN [119, 111, 114, 107] 8 line with
  | some xs => some { c with works := c.works ++ [wkL xs] }
  | none => match lineN [103, 114, 111, 117, 112] 5 line with
    | some xs => some { c with groups := c.groups ++ [gpL xs] }
    | none => none
def linesC : Cf → List (List UInt8) → Option Cf
  | c, [] => some c
  | c, l :: ls => match lineC c l with
    | some c' => linesC c' ls
    | none => none
def headC (line : List UInt8) : Option Cf := match lineN [99, 102, 103] 4 line with
  | some xs => some ⟨[], [], xs.getD 0 0, xs.getD 1 0, xs.getD 2 0, xs.getD 3 0⟩
  | none => none
/-- What the document reads of a text. -/
def cfgR (t : List UInt8) : Option Cf := if t.length ≤ 4000 then match cutB 10 t with
    | h :: ls => match headC h with
      | some c => match linesC c ls with
        | some c' => if cfgB c' = t then some c' else none
        | none => none
      | none => none
    | [] => none
  else none

theorem lineN_yes {wd : List UInt8} {n : Nat} {xs : List Int} (hn : 0 < n) (h1 : xs.length = n) (h2 : ∀ x ∈ xs, inM x = true) : lineN wd n (wd ++ 32 :: numsB xs) = some xs := by
  rw [lineN, restB_iff.2 rfl]
  exact (readB_iff hn).2 ⟨h1, h2, rfl⟩
theorem restB_no {l wd : List UInt8} (h : l.take wd.length ≠ wd) : restB l wd = none := by simp [restB, h]
theorem cut_lines : ∀ (h : List UInt8) (ls : List (List UInt8)), (10 : UInt8) ∉ h → (∀ l ∈ ls, (10 : UInt8) ∉ l) → cutB 10 (h ++ (ls.map (fun l => 10 :: l)).flatten) = h :: ls
  | h, [], h1, _ => by simp [cut_none h1]
  | h, l :: ls, h1, h2 => by
    have := cut_lines l ls (h2 l (by simp)) (fun x hx => h2 x (by simp [hx]))
    simp only [List.map_cons, List.flatten_cons, List.cons_append]
    rw [cut_some _ h1, this]
theorem numsP_line (l : List Int) (h : ∀ x ∈ l, I64 x) : ∀ k, k ≤ l.length → (10 : UInt8) ∉ numsP l k
  | 0, _ => by simp [numsP]
  | k + 1, hk => by
    have h1 := numsP_line l h k (by omega)
    have h2 := dec_line (h l[k] (List.getElem_mem (by omega)))
    have h3 : l[k]?.getD 0 = l[k] := by simp [show k < l.length by omega]
    simp only [numsP, h3, List.mem_append, not_or]
    refine ⟨⟨h1, ?_⟩, h2⟩
    split <;> simp
theorem numsB_line {l : List Int} (h : ∀ x ∈ l, inM x = true) : (10 : UInt8) ∉ numsB l := numsP_line l (fun x hx => inM_i64 (h x hx)) _ (Nat.le_refl _)

def wkN (x : Wk) : List Int := [x.cpu, x.mem, x.min, x.max, x.target, x.limit, x.tol, x.rank]
def gpN (x : Gp) : List Int := [x.cpu, x.mem, x.min, x.max, x.boot]
theorem wkN_in {x : Wk} (h : wOk x = true) : ∀ n ∈ wkN x, inM n = true := by
  obtain ⟨h1, h2, h3, h4, h5, h6, h7, h8, h9, h10, h11, h12, h13, h14, _⟩ := wOk_bd h
  intro n hn
  simp only [wkN, List.mem_cons, List.not_mem_nil, or_false] at hn
  simp only [inM, decide_eq_true_eq]
  rcases hn with rfl | rfl | rfl | rfl | rfl | rfl | rfl | rfl <;> omega
theorem gpN_in {x : Gp} (h : gOk x = true) : ∀ n ∈ gpN x, inM n = true := by
  obtain ⟨h1, h2, h3, h4, h5, h6, h7, h8, h9⟩ := gOk_bd h
  intro n hn
  simp only [gpN, List.mem_cons, List.not_mem_nil, or_false] at hn
  simp only [inM, decide_eq_true_eq]
  rcases hn with rfl | rfl | rfl | rfl | rfl <;> omega
theorem hdN_in {c : Cf} (h : cfgOk c = true) : ∀ n ∈ [c.start, c.calm, c.idle, c.back], inM n = true := by
  obtain ⟨⟨s1, s2⟩, ⟨k1, k2⟩, ⟨g1, g2⟩, ⟨i1, i2⟩⟩ := ok_of_waits h
  intro n hn
  simp only [List.mem_cons, List.not_mem_nil, or_false] at hn
  simp only [inM, decide_eq_true_eq]
  rcases hn with rfl | rfl | rfl | rfl <;> omega
def wkLine (x : Wk) : List UInt8 := [119, 111, 114, 107] ++ 32 :: numsB (wkN x)
def gpLine (x : Gp) : List UInt8 := [103, 114, 111, 117, 112] ++ 32 :: numsB (gpN x)
theorem lineC_work {c : Cf} {x : Wk} (h : wOk x = true) : lineC c (wkLine x) = some { c with works := c.works ++ [x] } := by
  rw [lineC, wkLine, lineN_yes (n := 8) (by omega) rfl (wkN_in h)]
  rfl
theorem lineC_group {c : Cf} {x : Gp} (h : gOk x = true) : lineC c (gpLine x) = some { c with groups := c.groups ++ [x] } := by
  have h1 : lineN [119, 111, 114, 107] 8 (gpLine x) = none := by
    rw [lineN, restB_no (by simp [gpLine])]
  rw [lineC, h1, gpLine, lineN_yes (n := 5) (by omega) rfl (gpN_in h)]
  rfl
theorem linesC_works : ∀ (ws : List Wk) (c : Cf) (r : List (List UInt8)), ws.all wOk = true → linesC c (ws.map wkLine ++ r) = linesC { c with works := c.works ++ ws } r
  | [], c, r, _ => by simp
  | x :: ws, c, r, h => by
    rw [List.all_cons, Bool.and_eq_true] at h
    rw [List.map_cons, List.cons_append, linesC, lineC_work h.1]
    simp only
    rw [linesC_works ws _ r h.2]
    simp
theorem linesC_groups : ∀ (gs : List Gp) (c : Cf), gs.all gOk = true → linesC c (gs.map gpLine) = some { c with groups := c.groups ++ gs }
  | [], c, _ => by simp [linesC]
  | x :: gs, c, h => by
    rw [List.all_cons, Bool.and_eq_true] at h
    rw [List.map_cons, linesC, lineC_group h.1]
    simp only
    rw [linesC_groups gs _ h.2]
    simp
theorem cfgB_lines {c : Cf} (h : cfgOk c = true) : cfgB c = ([99, 102, 103] ++ 32 :: numsB [c.start, c.calm, c.idle, c.back]) ++ ((c.works.map wkLine ++ c.groups.map gpLine).map (fun l => 10 :: l)).flatten := by
  rw [cfgB, if_pos h, cfgP, worksP, headB, List.take_length, List.take_length]
  simp only [List.map_append, List.flatten_append, List.map_map, List.append_assoc]
  rfl
/-- What is read is what is written so. -/
theorem cfgR_iff {t : List UInt8} {c : Cf} : cfgR t = some c ↔ t.length ≤ 4000 ∧ cfgOk c = true ∧ cfgB c = t := by
  constructor
  · intro h
    unfold cfgR at h
    split at h
    · rename_i hl
      split at h
      · rename_i hd ls hc
        split at h
        · split at h
          · split at h
            · rename_i he
              cases h
              refine ⟨hl, ?_, he⟩
              cases hok : cfgOk c
              · rename_i hh _ _
                rw [cfgB, hok] at he
                simp only [Bool.false_eq_true, if_false] at he
                subst he
                simp only [cutB, List.cons.injEq] at hc
                obtain ⟨rfl, _⟩ := hc
                simp [headC, lineN, restB] at hh
              · rfl
            · cases h
          · cases h
        · cases h
      · cases h
    · cases h
  · rintro ⟨h1, h2, h3⟩
    have hw := (ok_of_works h2).1
    have hg := (ok_of_groups h2).1
    have hcut : cutB 10 t = ([99, 102, 103] ++ 32 :: numsB [c.start, c.calm, c.idle, c.back]) :: (c.works.map wkLine ++ c.groups.map gpLine) := by
      rw [← h3, cfgB_lines h2]
      refine cut_lines _ _ ?_ ?_
      · have := numsB_line (hdN_in h2)
        simp [this]
      · intro l hl
        rw [List.mem_append, List.mem_map, List.mem_map] at hl
        rcases hl with ⟨x, hx, rfl⟩ | ⟨x, hx, rfl⟩
        · have := numsB_line (wkN_in (List.all_eq_true.1 hw x hx))
          simp [wkLine, this]
        · have := numsB_line (gpN_in (List.all_eq_true.1 hg x hx))
          simp [gpLine, this]
    have hh : headC ([99, 102, 103] ++ 32 :: numsB [c.start, c.calm, c.idle, c.back]) = some ⟨[], [], c.start, c.calm, c.idle, c.back⟩ := by
      rw [headC, lineN_yes (n := 4) (by omega) rfl (hdN_in h2)]
      rfl
    have hls : linesC ⟨[], [], c.start, c.calm, c.idle, c.back⟩ (c.works.map wkLine ++ c.groups.map gpLine) = some c := by
      rw [linesC_works _ _ _ hw, linesC_groups _ _ hg]
      simp
    rw [cfgR, if_pos h1, hcut]
    simp only [hh, hls, h3, if_true]
end Go.Proofs.YthdlkpgialmlfaaGreatDoor
