/- Texts: what there is, read from a text: just what is written so (plain). -/
import Derived.Test.YthdlkpgialmlfaaGreatDoorTp
import Derived.Test.YthdlkpgialmlfaaGreatDoorTe
namespace Go.Proofs.YthdlkpgialmlfaaGreatDoor
open Go.RowKit

def workSL (xs : List Int) : Ws := ⟨xs.getD 0 0, xs.getD 1 0, xs.getD 2 0⟩
def workSN (x : Ws) : List Int := [x.want, x.load, x.low]
def workSLine (x : Ws) : List UInt8 := [119, 111, 114, 107] ++ 32 :: numsB (workSN x)
theorem workS_back {xs : List Int} (h : xs.length = 3) : workSN (workSL xs) = xs := by
  match xs, h with
  | [a0, a1, a2], _ => rfl
def groupSL (xs : List Int) : Gs := ⟨xs.getD 0 0, xs.getD 1 0, xs.getD 2 0⟩
def groupSN (x : Gs) : List Int := [x.asked, x.rest, x.fails]
def groupSLine (x : Gs) : List UInt8 := [103, 114, 111, 117, 112] ++ 32 :: numsB (groupSN x)
theorem groupS_back {xs : List Int} (h : xs.length = 3) : groupSN (groupSL xs) = xs := by
  match xs, h with
  | [a0, a1, a2], _ => rfl
def nodeSL (xs : List Int) : Nd := ⟨xs.getD 0 0, xs.getD 1 0, xs.getD 2 0, xs.getD 3 0⟩
def nodeSN (x : Nd) : List Int := [x.id, x.group, x.boot, x.idle]
def nodeSLine (x : Nd) : List UInt8 := [110, 111, 100, 101] ++ 32 :: numsB (nodeSN x)
theorem nodeS_back {xs : List Int} (h : xs.length = 4) : nodeSN (nodeSL xs) = xs := by
  match xs, h with
  | [a0, a1, a2, a3], _ => rfl
def podSL (xs : List Int) : Pd := ⟨xs.getD 0 0, xs.getD 1 0, xs.getD 2 0, xs.getD 3 0, xs.getD 4 0⟩
def podSN (x : Pd) : List Int := [x.id, x.work, x.node, x.nom, x.wait]
def podSLine (x : Pd) : List UInt8 := [112, 111, 100] ++ 32 :: numsB (podSN x)
theorem podS_back {xs : List Int} (h : xs.length = 5) : podSN (podSL xs) = xs := by
  match xs, h with
  | [a0, a1, a2, a3, a4], _ => rfl
def lineS (s : St) (line : List UInt8) : Option St :=
  match lineN [119, 111, 114, 107] 3 line with
  | some xs => some { s with works := s.works ++ [workSL xs] }
  | none =>
    match lineN [103, 114, 111, 117, 112] 3 line with
    | some xs => some { s with groups := s.groups ++ [groupSL xs] }
    | none =>
      match lineN [110, 111, 100, 101] 4 line with
      | some xs => some { s with nodes := s.nodes ++ [nodeSL xs] }
      | none =>
        match lineN [112, 111, 100] 5 line with
        | some xs => some { s with pods := s.pods ++ [podSL xs] }
        | none =>
          none
def linesS : St → List (List UInt8) → Option St
  | s, [] => some s
  | s, l :: ls => match lineS s l with
    | some s' => linesS s' ls
    | none => none
def st00 (p n : Int) : St := { pods := [], nodes := [], works := [], groups := [], nextPod := p, nextNode := n }
def headS (line : List UInt8) : Option St := match lineN [115, 116, 97, 116, 101] 2 line with
  | some xs => some (st00 (xs.getD 0 0) (xs.getD 1 0))
  | none => none
/-- What the document reads of a text. -/
def stateR (t : List UInt8) : Option St := if t.length ≤ 4000 then match cutB 10 t with
    | h :: ls => match headS h with
      | some s => match linesS s ls with
        | some s' => if stateB s' = t then some s' else none
        | none => none
      | none => none
    | [] => none
  else none
/-- All numbers are small. -/
def StM (s : St) : Prop := (∀ n ∈ [s.nextPod, s.nextNode], inM n = true) ∧ (∀ x ∈ s.works, ∀ n ∈ workSN x, inM n = true) ∧ (∀ x ∈ s.groups, ∀ n ∈ groupSN x, inM n = true) ∧ (∀ x ∈ s.nodes, ∀ n ∈ nodeSN x, inM n = true) ∧ (∀ x ∈ s.pods, ∀ n ∈ podSN x, inM n = true)
theorem lineN_in {wd : List UInt8} {n : Nat} {line : List UInt8} {xs : List Int} (hn : 0 < n) (h : lineN wd n line = some xs) : xs.length = n ∧ ∀ x ∈ xs, inM x = true := by
  unfold lineN at h
  split at h
  · exact ⟨((readB_iff hn).1 h).1, ((readB_iff hn).1 h).2.1⟩
  · cases h
theorem mem_snoc {α : Type} {l : List α} {y : α} {P : α → Prop} (h : ∀ x ∈ l, P x) (hy : P y) : ∀ x ∈ l ++ [y], P x := by
  intro x hx
  rw [List.mem_append, List.mem_singleton] at hx
  rcases hx with hx | rfl
  · exact h x hx
  · exact hy
theorem lineS_in {s s' : St} {line : List UInt8} (h : lineS s line = some s') (hs : StM s) : StM s' := by
  obtain ⟨h0, h1, h2, h3, h4⟩ := hs
  unfold lineS at h
  split at h
  · rename_i xs hx
    cases h
    obtain ⟨e1, e2⟩ := lineN_in (by omega) hx
    exact ⟨h0, mem_snoc h1 (by rw [workS_back e1]; exact e2), h2, h3, h4⟩
  · skip
    split at h
    · rename_i xs hx
      cases h
      obtain ⟨e1, e2⟩ := lineN_in (by omega) hx
      exact ⟨h0, h1, mem_snoc h2 (by rw [groupS_back e1]; exact e2), h3, h4⟩
    · skip
      split at h
      · rename_i xs hx
        cases h
        obtain ⟨e1, e2⟩ := lineN_in (by omega) hx
        exact ⟨h0, h1, h2, mem_snoc h3 (by rw [nodeS_back e1]; exact e2), h4⟩
      · skip
        split at h
        · rename_i xs hx
          cases h
          obtain ⟨e1, e2⟩ := lineN_in (by omega) hx
          exact ⟨h0, h1, h2, h3, mem_snoc h4 (by rw [podS_back e1]; exact e2)⟩
        · cases h
theorem linesS_in : ∀ (ls : List (List UInt8)) (s s' : St), linesS s ls = some s' → StM s → StM s'
  | [], s, s', h, hs => by simp only [linesS, Option.some.injEq] at h; exact h ▸ hs
  | l :: ls, s, s', h, hs => by
    rw [linesS] at h
    split at h
    · rename_i s1 h1
      exact linesS_in ls s1 s' h (lineS_in h1 hs)
    · cases h
theorem lineS_workS {s : St} {x : Ws} (h : ∀ n ∈ workSN x, inM n = true) : lineS s (workSLine x) = some { s with works := s.works ++ [x] } := by
  rw [lineS, workSLine, lineN_yes (n := 3) (by omega) rfl h]
  rfl
theorem linesS_workS : ∀ (ws : List Ws) (s : St) (r : List (List UInt8)), (∀ x ∈ ws, ∀ n ∈ workSN x, inM n = true) → linesS s (ws.map workSLine ++ r) = linesS { s with works := s.works ++ ws } r
  | [], s, r, _ => by simp
  | x :: ws, s, r, h => by
    rw [List.map_cons, List.cons_append, linesS, lineS_workS (h x (by simp))]
    simp only
    rw [linesS_workS ws _ r (fun y hy => h y (by simp [hy]))]
    simp
theorem lineS_groupS {s : St} {x : Gs} (h : ∀ n ∈ groupSN x, inM n = true) : lineS s (groupSLine x) = some { s with groups := s.groups ++ [x] } := by
  have g0 : lineN [119, 111, 114, 107] 3 (groupSLine x) = none := by rw [lineN, restB_no (by simp [groupSLine])]
  rw [lineS, g0, groupSLine, lineN_yes (n := 3) (by omega) rfl h]
  rfl
theorem linesS_groupS : ∀ (ws : List Gs) (s : St) (r : List (List UInt8)), (∀ x ∈ ws, ∀ n ∈ groupSN x, inM n = true) → linesS s (ws.map groupSLine ++ r) = linesS { s with groups := s.groups ++ ws } r
  | [], s, r, _ => by simp
  | x :: ws, s, r, h => by
    rw [List.map_cons, List.cons_append, linesS, lineS_groupS (h x (by simp))]
    simp only
    rw [linesS_groupS ws _ r (fun y hy => h y (by simp [hy]))]
    simp
theorem lineS_nodeS {s : St} {x : Nd} (h : ∀ n ∈ nodeSN x, inM n = true) : lineS s (nodeSLine x) = some { s with nodes := s.nodes ++ [x] } := by
  have g0 : lineN [119, 111, 114, 107] 3 (nodeSLine x) = none := by rw [lineN, restB_no (by simp [nodeSLine])]
  have g1 : lineN [103, 114, 111, 117, 112] 3 (nodeSLine x) = none := by rw [lineN, restB_no (by simp [nodeSLine])]
  rw [lineS, g0, g1, nodeSLine, lineN_yes (n := 4) (by omega) rfl h]
  rfl
theorem linesS_nodeS : ∀ (ws : List Nd) (s : St) (r : List (List UInt8)), (∀ x ∈ ws, ∀ n ∈ nodeSN x, inM n = true) → linesS s (ws.map nodeSLine ++ r) = linesS { s with nodes := s.nodes ++ ws } r
  | [], s, r, _ => by simp
  | x :: ws, s, r, h => by
    rw [List.map_cons, List.cons_append, linesS, lineS_nodeS (h x (by simp))]
    simp only
    rw [linesS_nodeS ws _ r (fun y hy => h y (by simp [hy]))]
    simp
theorem lineS_podS {s : St} {x : Pd} (h : ∀ n ∈ podSN x, inM n = true) : lineS s (podSLine x) = some { s with pods := s.pods ++ [x] } := by
  have g0 : lineN [119, 111, 114, 107] 3 (podSLine x) = none := by rw [lineN, restB_no (by simp [podSLine])]
  have g1 : lineN [103, 114, 111, 117, 112] 3 (podSLine x) = none := by rw [lineN, restB_no (by simp [podSLine])]
  have g2 : lineN [110, 111, 100, 101] 4 (podSLine x) = none := by rw [lineN, restB_no (by simp [podSLine])]
  rw [lineS, g0, g1, g2, podSLine, lineN_yes (n := 5) (by omega) rfl h]
  rfl
theorem linesS_podS : ∀ (ws : List Pd) (s : St) (r : List (List UInt8)), (∀ x ∈ ws, ∀ n ∈ podSN x, inM n = true) → linesS s (ws.map podSLine ++ r) = linesS { s with pods := s.pods ++ ws } r
  | [], s, r, _ => by simp
  | x :: ws, s, r, h => by
    rw [List.map_cons, List.cons_append, linesS, lineS_podS (h x (by simp))]
    simp only
    rw [linesS_podS ws _ r (fun y hy => h y (by simp [hy]))]
    simp
def allLines (s : St) : List (List UInt8) := s.works.map workSLine ++ (s.groups.map groupSLine ++ (s.nodes.map nodeSLine ++ s.pods.map podSLine))
theorem stateB_lines (s : St) : stateB s = ([115, 116, 97, 116, 101] ++ 32 :: numsB [s.nextPod, s.nextNode]) ++ ((allLines s).map (fun l => 10 :: l)).flatten := by
  rw [stateB, st4, st3, st2, st1, st0, List.take_length, List.take_length, List.take_length, List.take_length, allLines]
  simp only [List.map_append, List.flatten_append, List.map_map, List.append_assoc]
  rfl
/-- What is read is what is written so. -/
theorem stateR_iff {t : List UInt8} {s : St} : stateR t = some s ↔ t.length ≤ 4000 ∧ StM s ∧ stateB s = t := by
  constructor
  · intro h
    unfold stateR at h
    split at h
    · rename_i hl
      split at h
      · rename_i hd ls hc
        split at h
        · rename_i s0 h0
          split at h
          · rename_i s1 h1
            split at h
            · rename_i he
              cases h
              refine ⟨hl, linesS_in _ _ _ h1 ?_, he⟩
              unfold headS at h0
              split at h0
              · rename_i xs hx
                cases h0
                obtain ⟨e1, e2⟩ := lineN_in (by omega) hx
                obtain ⟨a, b, rfl⟩ := two_of e1
                exact ⟨by simpa [st00] using e2, by simp [st00], by simp [st00], by simp [st00], by simp [st00]⟩
              · cases h0
            · cases h
          · cases h
        · cases h
      · cases h
    · cases h
  · rintro ⟨h1, ⟨m0, m1, m2, m3, m4⟩, h3⟩
    have hcut : cutB 10 t = ([115, 116, 97, 116, 101] ++ 32 :: numsB [s.nextPod, s.nextNode]) :: allLines s := by
      rw [← h3, stateB_lines s]
      refine cut_lines _ _ ?_ ?_
      · have := numsB_line m0
        simp [this]
      · intro l hl
        simp only [allLines, List.mem_append, List.mem_map] at hl
        rcases hl with ⟨x, hx, rfl⟩ | ⟨x, hx, rfl⟩ | ⟨x, hx, rfl⟩ | ⟨x, hx, rfl⟩
        · have := numsB_line (m1 x hx)
          simp [workSLine, this]
        · have := numsB_line (m2 x hx)
          simp [groupSLine, this]
        · have := numsB_line (m3 x hx)
          simp [nodeSLine, this]
        · have := numsB_line (m4 x hx)
          simp [podSLine, this]
    have hh : headS ([115, 116, 97, 116, 101] ++ 32 :: numsB [s.nextPod, s.nextNode]) = some (st00 s.nextPod s.nextNode) := by
      rw [headS, lineN_yes (n := 2) (by omega) rfl m0]
      rfl
    have hls : linesS (st00 s.nextPod s.nextNode) (allLines s) = some s := by
      rw [allLines, linesS_workS _ _ _ m1, linesS_groupS _ _ _ m2, linesS_nodeS _ _ _ m3, ← List.append_nil (s.pods.map podSLine), linesS_podS _ _ _ m4]
      simp [linesS, st00]
    rw [stateR, if_pos h1, hcut]
    simp only [hh, hls, h3, if_true]
end Go.Proofs.YthdlkpgialmlfaaGreatDoor
