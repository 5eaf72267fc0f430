/- Texts: what is asked, as the document reads it. -/
import Derived.Test.YthdlkpgialmlfaaGreatDoorRo
import Derived.Test.YthdlkpgialmlfaaGreatDoorTe
namespace Go.Proofs.YthdlkpgialmlfaaGreatDoor
open Go.RowKit

theorem linesS_append : ∀ (a b : List (List UInt8)) (c : St), linesS c (a ++ b) = match linesS c a with
    | some c1 => linesS c1 b
    | none => none
  | [], b, c => rfl
  | x :: a, b, c => by
    simp only [List.cons_append, linesS]
    cases lineS c x with
    | none => rfl
    | some c1 => exact linesS_append a b c1
theorem linesS_snoc (a : List (List UInt8)) (x : List UInt8) (c : St) : linesS c (a ++ [x]) = match linesS c a with
    | some c1 => lineS c1 x
    | none => none := by
  rw [linesS_append]
  cases linesS c a with
  | none => rfl
  | some c1 =>
    simp only [linesS]
    cases lineS c1 x <;> rfl
theorem lineS_len {c c' : St} {l : List UInt8} (h : lineS c l = some c') : c'.pods.length ≤ c.pods.length + 1 ∧ c'.nodes.length ≤ c.nodes.length + 1 ∧ c'.works.length ≤ c.works.length + 1 ∧ c'.groups.length ≤ c.groups.length + 1 := by
  unfold lineS at h
  repeat' split at h
  all_goals first
    | (cases h; simp; done)
    | cases h
theorem linesS_len : ∀ (a : List (List UInt8)) (c c' : St), linesS c a = some c' → c'.pods.length ≤ c.pods.length + a.length ∧ c'.nodes.length ≤ c.nodes.length + a.length ∧ c'.works.length ≤ c.works.length + a.length ∧ c'.groups.length ≤ c.groups.length + a.length
  | [], c, c', h => by cases h; simp
  | x :: a, c, c', h => by
    rw [linesS] at h
    split at h
    · rename_i c1 h1
      have h2 := linesS_len a c1 c' h
      have h3 := lineS_len h1
      simp only [List.length_cons]
      omega
    · cases h
theorem StM.stI {s : St} (h : StM s) : StI s :=
  ⟨fun n hn => inM_i64 (h.1 n hn), fun x hx n hn => inM_i64 (h.2.1 x hx n hn), fun x hx n hn => inM_i64 (h.2.2.1 x hx n hn), fun x hx n hn => inM_i64 (h.2.2.2.1 x hx n hn), fun x hx n hn => inM_i64 (h.2.2.2.2 x hx n hn)⟩
theorem Only.cell {S : Nat → Prop} {w w' : World} (h : Only S w w') {b i : Nat} (hb : b < w.heap.size) (hS : ¬ S b) : w'.cell? ⟨b, i, none⟩ = w.cell? ⟨b, i, none⟩ := by
  have := h.block b hb hS
  simp only [World.cell?, this]
theorem Only.below {S : Nat → Prop} {n : Nat} {w w1 w2 : World} (h : Below n w w1) (h2 : Only S w1 w2) (hn : n ≤ w1.heap.size) (hS : ∀ k, k < n → ¬ S k) : Below n w w2 :=
  h.trans ⟨h2.os, h2.tape, h2.output, h2.size, fun k hk => h2.block k (by omega) (hS k hk)⟩
theorem cut10 (l : List UInt8) (w : World) (hl : l.length ≤ 2000000) :
    Calls Tryz.prog 15 #[str l, .int .u8 10] w fun e w' => ∃ g cp, e = .returned (.slice (some ⟨g, 0, none⟩) (cutB 10 l).length cp) ∧ SR w' w.heap.size (.slice (some ⟨g, 0, none⟩) (cutB 10 l).length cp) (cutB 10 l) ∧ Below w.heap.size w w' := by
  refine (cut_any l 10 w hl).mono ?_
  rintro e w' ⟨v, rfl, hS, hb⟩
  have hp := cut_pos 10 l
  obtain ⟨m, hm⟩ : ∃ m, (cutB 10 l).length = m + 1 := ⟨(cutB 10 l).length - 1, by omega⟩
  have hS' := hS
  unfold SR at hS'
  rw [hm] at hS'
  obtain ⟨g, cp, rfl⟩ := row_form hS'
  rw [← hm] at hS ⊢
  exact ⟨g, cp, rfl, hS, hb⟩
/-- A new box: laid by one operation, filled by another. -/
structure NB (w0 : World) (z cs : Array Value) (TB : TypeId) (iA iS tA : Nat) (t : Array Bool) (A : Act) (w : World) : Prop where
  bel : Below w0.heap.size w0 w
  box : t.getD iA false = true → ∃ r, ev A tA = .pointer (some ⟨r, 0, none⟩) ∧ w0.heap.size ≤ r ∧ (t.getD iS false = false → Blk w r z TB) ∧ (t.getD iS false = true → Blk w r cs TB)
section
variable {w0 w w' : World} {z cs : Array Value} {TB : TypeId} {iA iS tA : Nat} {t : Array Bool} {A : Act}
theorem NB.start {n : Nat} (h : Below w0.heap.size w0 w) : NB w0 z cs TB iA iS tA (Array.replicate n false) A w := ⟨h, fun h => by simp [Array.getD, Array.getElem_replicate] at h⟩
theorem NB.other (h : NB w0 z cs TB iA iS tA t A w) (i d : Nat) (u : Value) (hi : i ≠ iA ∧ i ≠ iS) (hd : d ≠ tA) : NB w0 z cs TB iA iS tA (t.setIfInBounds i true) (A.put (some d) u) w := by
  refine ⟨h.bel, ?_⟩
  rw [getD_set_ne2 hi.1, getD_set_ne2 hi.2, ev_ne hd]
  exact h.box
theorem NB.new (h : NB w0 z cs TB iA iS tA t A w) (hS : t.getD iS false = false) (h1 : iA ≠ iS) (hs : tA < A.tmps.size) : NB w0 z cs TB iA iS tA (t.setIfInBounds iA true) (A.put (some tA) (.pointer (some ⟨w.heap.size, 0, none⟩))) (w.alloc (.cells z TB)) := by
  refine ⟨h.bel.trans ((show Below w.heap.size w (w.alloc (.cells z TB)) by go_grown).mono h.bel.size), fun _ => ?_⟩
  rw [ev_eq hs, getD_set_ne2 h1, hS]
  exact ⟨_, rfl, h.bel.size, fun _ => Blk.new _ _ _, fun h => by cases h⟩
theorem NB.last (hu : t.getD iS true = false) {u : Value} {r : Nat} (hr : ev A tA = .pointer (some ⟨r, 0, none⟩)) (hr2 : w0.heap.size ≤ r) (hb : Below w0.heap.size w0 w') (hc : Blk w' r cs TB) : NB w0 z cs TB iA iS tA (t.setIfInBounds iS true) (A.put none u) w' := by
  refine ⟨hb, fun _ => ⟨r, hr, hr2, fun h => ?_, fun _ => hc⟩⟩
  rw [getD_set_eq hu] at h
  cases h
end
/-- What is so while one more line is read into a box of its own. -/
structure CR (B : Nat) (w0 : World) (vp vn vw vg : Value) (c1 : St) (ok : Bool) (t : Array Bool) (A : Act) (w : World) : Prop where
  pre : t.getD 5 false = false → Below w0.heap.size w0 w ∧ (t.getD 9 false = true → ∃ r, ev A 11 = .pointer (some ⟨r, 0, none⟩) ∧ w0.heap.size ≤ r ∧ Blk w r svz 36)
  post : t.getD 5 false = true → ∃ vp' vn' vw' vg', ev A 57 = .tuple #[svl vp' vn' vw' vg' c1, .bool ok] ∧ (t.getD 6 false = true → ev A 51 = .tuple #[svl vp' vn' vw' vg' c1, .bool ok]) ∧ (t.getD 7 false = true → ev A 58 = svl vp' vn' vw' vg' c1) ∧ OS w B vp' vn' vw' vg' c1 ∧ Only (own4 vp vn vw vg) w0 w ∧
    (t.getD 9 false = true → ∃ r, ev A 11 = .pointer (some ⟨r, 0, none⟩) ∧ w0.heap.size ≤ r ∧ (∀ k, own4 vp' vn' vw' vg' k → k ≠ r) ∧ (t.getD 10 false = false → Blk w r svz 36) ∧ (t.getD 10 false = true → Blk w r (sva vp' vn' vw' vg' c1) 36))
section
variable {B : Nat} {w0 w w' : World} {vp vn vw vg : Value} {c1 : St} {ok : Bool} {t : Array Bool} {A : Act}
theorem CR.start {n : Nat} (h : Below w0.heap.size w0 w) : CR B w0 vp vn vw vg c1 ok (Array.replicate n false) A w := ⟨fun _ => ⟨h, fun h => by simp [Array.getD, Array.getElem_replicate] at h⟩, fun h => by simp [Array.getD, Array.getElem_replicate] at h⟩
theorem CR.other (h : CR B w0 vp vn vw vg c1 ok t A w) (i d : Nat) (u : Value) (hi : i ≠ 5 ∧ i ≠ 6 ∧ i ≠ 7 ∧ i ≠ 9 ∧ i ≠ 10) (hd : d ≠ 57 ∧ d ≠ 51 ∧ d ≠ 58 ∧ d ≠ 11) : CR B w0 vp vn vw vg c1 ok (t.setIfInBounds i true) (A.put (some d) u) w := by
  refine ⟨?_, ?_⟩
  · rw [getD_set_ne2 hi.1, getD_set_ne2 hi.2.2.2.1, ev_ne hd.2.2.2]
    exact h.pre
  · rw [getD_set_ne2 hi.1, getD_set_ne2 hi.2.1, getD_set_ne2 hi.2.2.1, getD_set_ne2 hi.2.2.2.1, getD_set_ne2 hi.2.2.2.2, ev_ne hd.1, ev_ne hd.2.1, ev_ne hd.2.2.1, ev_ne hd.2.2.2]
    exact h.post
theorem CR.call (h : CR B w0 vp vn vw vg c1 ok t A w) (hu : t.getD 5 true = false) (h6 : t.getD 6 false = false) (h7 : t.getD 7 false = false) (h10 : t.getD 10 false = false) (hs : 57 < A.tmps.size) (hv : ∀ k, own4 vp vn vw vg k → k < w0.heap.size) {vp' vn' vw' vg' : Value} (ho : OS w' B vp' vn' vw' vg' c1) (hf : ∀ k, own4 vp' vn' vw' vg' k → own4 vp vn vw vg k ∨ w.heap.size ≤ k) (hon : Only (own4 vp vn vw vg) w w') :
    CR B w0 vp vn vw vg c1 ok (t.setIfInBounds 5 true) (A.put (some 57) (.tuple #[svl vp' vn' vw' vg' c1, .bool ok])) w' := by
  obtain ⟨hp, hb⟩ := h.pre (getD_tf hu).1
  refine ⟨fun h => (by rw [getD_set_eq hu] at h; cases h), fun _ => ⟨vp', vn', vw', vg', by rw [ev_eq hs], ?_, ?_, ho, (Only.of_below hp).trans hon, ?_⟩⟩
  · rw [getD_set_ne2 (by decide), h6]; intro h; cases h
  · rw [getD_set_ne2 (by decide), h7]; intro h; cases h
  · rw [getD_set_ne2 (by decide), getD_set_ne2 (by decide), h10, ev_ne (by decide)]
    intro h9
    obtain ⟨r, h1, h2, h3⟩ := hb h9
    refine ⟨r, h1, h2, fun k hk e => ?_, fun _ => h3.only hon (fun e => ?_), fun h => by cases h⟩
    · subst e
      rcases hf k hk with h4 | h4
      · have := hv k h4; omega
      · have := h3.lt; omega
    · have := hv r e; omega
theorem CR.mv (h : CR B w0 vp vn vw vg c1 ok t A w) (h5 : t.getD 5 false = true) (hs : 51 < A.tmps.size) {v : Value} (hv : ev A 57 = v) : CR B w0 vp vn vw vg c1 ok (t.setIfInBounds 6 true) (A.put (some 51) v) w := by
  refine ⟨fun h => (by rw [getD_set_ne2 (by decide), h5] at h; cases h), fun _ => ?_⟩
  obtain ⟨vp', vn', vw', vg', a1, a2, a3, a4⟩ := h.post h5
  simp only [getD_set_ne2 (i := 6) (j := 7) (by decide), getD_set_ne2 (i := 6) (j := 9) (by decide), getD_set_ne2 (i := 6) (j := 10) (by decide), ev_ne (d := 51) (t := 57) (by decide), ev_ne (d := 51) (t := 58) (by decide), ev_ne (d := 51) (t := 11) (by decide), ev_eq hs]
  exact ⟨vp', vn', vw', vg', a1, fun _ => hv.symm.trans a1, a3, a4⟩
theorem CR.ex (h : CR B w0 vp vn vw vg c1 ok t A w) (h5 : t.getD 5 false = true) (hs : 58 < A.tmps.size) {vp' vn' vw' vg' : Value} (hv : ev A 57 = .tuple #[svl vp' vn' vw' vg' c1, .bool ok]) : CR B w0 vp vn vw vg c1 ok (t.setIfInBounds 7 true) (A.put (some 58) (svl vp' vn' vw' vg' c1)) w := by
  refine ⟨fun h => (by rw [getD_set_ne2 (by decide), h5] at h; cases h), fun _ => ?_⟩
  obtain ⟨vp2, vn2, vw2, vg2, a1, a2, a3, a4⟩ := h.post h5
  rw [a1] at hv
  simp only [Value.tuple.injEq, Array.mk.injEq, List.cons.injEq, Value.agg.injEq, and_true] at hv
  obtain ⟨rfl, rfl, rfl, rfl⟩ := hv
  simp only [getD_set_ne2 (i := 7) (j := 6) (by decide), getD_set_ne2 (i := 7) (j := 9) (by decide), getD_set_ne2 (i := 7) (j := 10) (by decide), ev_ne (d := 58) (t := 57) (by decide), ev_ne (d := 58) (t := 51) (by decide), ev_ne (d := 58) (t := 11) (by decide), ev_eq hs]
  exact ⟨vp2, vn2, vw2, vg2, a1, a2, fun _ => rfl, a4⟩
theorem CR.new (h : CR B w0 vp vn vw vg c1 ok t A w) (h10 : t.getD 10 false = false) (hs : 11 < A.tmps.size) : CR B w0 vp vn vw vg c1 ok (t.setIfInBounds 9 true) (A.put (some 11) (.pointer (some ⟨w.heap.size, 0, none⟩))) (w.alloc (.cells svz 36)) := by
  have hg : Below w.heap.size w (w.alloc (.cells svz 36)) := by go_grown
  refine ⟨?_, ?_⟩
  · rw [getD_set_ne2 (by decide), ev_eq hs]
    intro h5
    obtain ⟨hp, -⟩ := h.pre h5
    exact ⟨hp.trans (hg.mono hp.size), fun _ => ⟨_, rfl, hp.size, Blk.new _ _ _⟩⟩
  · simp only [getD_set_ne2 (i := 9) (j := 5) (by decide), getD_set_ne2 (i := 9) (j := 6) (by decide), getD_set_ne2 (i := 9) (j := 7) (by decide), getD_set_ne2 (i := 9) (j := 10) (by decide), ev_ne (d := 11) (t := 57) (by decide), ev_ne (d := 11) (t := 51) (by decide), ev_ne (d := 11) (t := 58) (by decide), ev_eq hs, h10]
    intro h5
    obtain ⟨vp', vn', vw', vg', a1, a2, a3, a4, a5, -⟩ := h.post h5
    refine ⟨vp', vn', vw', vg', a1, a2, a3, a4.keep hg, a5.trans (Only.of_below hg), fun _ => ⟨_, rfl, a5.size, fun k hk e => ?_, fun _ => Blk.new _ _ _, fun h => by cases h⟩⟩
    have := (a4.lt k hk).2; omega
theorem CR.last (h5 : t.getD 5 false = true) (hu : t.getD 10 true = false) {u vp' vn' vw' vg' : Value} {r : Nat} (a1 : ev A 57 = .tuple #[svl vp' vn' vw' vg' c1, .bool ok]) (a2 : ev A 51 = .tuple #[svl vp' vn' vw' vg' c1, .bool ok]) (a3 : ev A 58 = svl vp' vn' vw' vg' c1) (ho : OS w' B vp' vn' vw' vg' c1) (hon : Only (own4 vp vn vw vg) w0 w') (hr : ev A 11 = .pointer (some ⟨r, 0, none⟩)) (hr2 : w0.heap.size ≤ r) (hne : ∀ k, own4 vp' vn' vw' vg' k → k ≠ r) (hb : Blk w' r (sva vp' vn' vw' vg' c1) 36) :
    CR B w0 vp vn vw vg c1 ok (t.setIfInBounds 10 true) (A.put none u) w' := by
  refine ⟨fun h => (by rw [getD_set_ne2 (by decide), h5] at h; cases h), fun _ => ⟨vp', vn', vw', vg', a1, fun _ => a2, fun _ => a3, ho, hon, fun _ => ⟨r, hr, hr2, hne, fun h => ?_, fun _ => hb⟩⟩⟩
  rw [getD_set_eq hu] at h
  cases h
end
theorem Only.into {S S2 : Nat → Prop} {w w1 w2 : World} (h : Only S w w1) (h2 : Only S2 w1 w2) (hS : ∀ k, k < w.heap.size → S2 k → S k) : Only S w w2 :=
  ⟨h2.os.trans h.os, h2.tape.trans h.tape, h2.output.trans h.output, Nat.le_trans h.size h2.size, fun k hk hn => (h2.block k (Nat.lt_of_lt_of_le hk h.size) (fun e => hn (hS k hk e))).trans (h.block k hk hn)⟩
theorem Only.set1 {r : Nat} {w w1 : World} (h : Only (fun k => k = r) w w1) (i : Nat) (u : Value) : Only (fun k => k = r) w (w1.setCell ⟨r, i, none⟩ u) :=
  ⟨h.os, h.tape, h.output, by simpa using h.size, fun k hk hn => (Below.heap_setCell _ _ _ _ (fun e => hn e)).trans (h.block k hk hn)⟩
theorem Only.set6 {r : Nat} {w w1 : World} (h : Only (fun k => k = r) w w1) (u0 u1 u2 u3 u4 u5 : Value) : Only (fun k => k = r) w ((((((w1.setCell ⟨r, 0, none⟩ u0).setCell ⟨r, 1, none⟩ u1).setCell ⟨r, 2, none⟩ u2).setCell ⟨r, 3, none⟩ u3).setCell ⟨r, 4, none⟩ u4).setCell ⟨r, 5, none⟩ u5) :=
  (((((h.set1 0 u0).set1 1 u1).set1 2 u2).set1 3 u3).set1 4 u4).set1 5 u5

set_option maxRecDepth 100000 in
set_option maxHeartbeats 4000000 in
/-- TextCfgRead, the document's. -/
theorem sStateRead_any (t : List UInt8) (w : World) (hl : t.length ≤ 2000000) :
    Calls Tryz.prog 10 #[str t] w fun e w' => ((∃ c v, stateR t = some c ∧ StateAt w' v c ∧ e = .returned (.tuple #[v, .bool true])) ∨ (stateR t = none ∧ e = .returned (.tuple #[.agg svz, .bool false]))) ∧ Below w.heap.size w w' := by
  by_cases hbig : 4000 < t.length
  · have hb : (4000 : Int) < (t.length : Int) := by omega
    have hno : Hid (stateR t = none) := by rw [Hid, stateR, if_neg (by omega)]
    go_enter Tryz.func10, Tryz.ntmps10
    go_wp2
    refine bodyPost_ret (v := .tuple #[.agg svz, .bool false]) (by simp [results, Tryz.results10, go_sem, *]) rfl ⟨.inr ⟨hno.out, rfl⟩, by go_grown⟩
  have hb : ¬ (4000 : Int) < (t.length : Int) := by omega
  have hcp := cut_pos 10 t
  have hcl := cut_length 10 t
  have hcm := hid (cut_mem 10 t)
  have hR : Hid (stateR t = match cutB 10 t with
    | h :: ls => match headS h with
      | some c => match linesS c ls with
        | some c' => if stateB c' = t then some c' else none
        | none => none
      | none => none
    | [] => none) := by rw [Hid, stateR, if_pos (by omega)]; rfl
  go_enter Tryz.func10, Tryz.ntmps10
  go_wp2_with fail
  refine (cut10 t _ (by omega)).mono ?_
  rintro e w1 ⟨g, cp, rfl, hS, hb1⟩
  have X1 : Blk w1 w.heap.size svz 36 := (Blk.new w _ _).below hb1 (by simp)
  have B1 : Below w.heap.size w w1 := Below.trans (by go_grown) (hb1.mono (by simp))
  generalize hws : cutB 10 t = ws at *
  clear hws hb1
  have hgl := World.ownsRow.lt hS g rfl
  have hcell := hS.cell 0 hcp
  have hg1 : w.heap.size < g := by have := hgl.1; simp at this; omega
  have HS := hid hS
  have HX1 := hid X1
  have HB1 := hid B1
  have hn1 : 0 < ws.length := hcp
  have hn2 : (0 : Int) < (ws.length : Int) := by omega
  have hn3 : ws ≠ [] := by intro e; rw [e] at hn1; simp at hn1
  obtain ⟨hd, hhd⟩ : ∃ hd, ws[0] = hd := ⟨_, rfl⟩
  have hdl : hd.length ≤ t.length := hhd ▸ hcm.out _ (List.getElem_mem hcp)
  rw [hhd] at hcell
  have HHD := hid hhd
  clear hhd hS X1 B1
  go_wp2_with fail
  refine (rest_any hd [115, 116, 97, 116, 101] _ (by omega) (by simp)).mono ?_
  rintro e w2 ⟨rfl, rfl⟩
  have hrl : ((restB hd [115, 116, 97, 116, 101]).getD []).length ≤ 4000 := by
    cases hr : restB hd [115, 116, 97, 116, 101] with
    | none => simp
    | some a => have := rest_len hr; simp; omega
  obtain ⟨r1, hr1⟩ : ∃ r1, restB hd [115, 116, 97, 116, 101] = r1 := ⟨_, rfl⟩
  rw [hr1] at hrl ⊢
  have HR1 := hid hr1
  clear hr1
  go_wp2_with fail
  refine (read_any (r1.getD []) 2 _ (by omega) (by omega)).mono ?_
  rintro e w3 ⟨v1, rfl, hv1, hb3⟩
  have HX3 := hid (HX1.out.below hb3 HX1.out.lt)
  have HB3 := hid (HB1.out.trans (hb3.mono HB1.out.size))
  have HS3 := hid (HS.out.below hb3)
  have hg3 : g < w3.heap.size := Nat.lt_of_lt_of_le hgl.2 hb3.size
  have HV1 := hid hv1
  clear hb3 hv1 HX1 HB1 HS hgl hcell
  have hXl := HX3.out.lt
  have x3c := HX3.out.cell
  have x3f := HX3.out.frozen
  have hcase : (∃ a xs, r1 = some a ∧ readB a 2 = some xs) ∨ (headS hd = none ∧ (r1 = none ∨ ∃ a, r1 = some a ∧ readB a 2 = none)) := by
    cases h1 : r1 with
    | none => exact .inr ⟨by simp [headS, lineN, HR1.out, h1], .inl rfl⟩
    | some a =>
      cases h2 : readB a 2 with
      | none => exact .inr ⟨by simp [headS, lineN, HR1.out, h1, h2], .inr ⟨a, rfl, h2⟩⟩
      | some xs => exact .inl ⟨a, xs, rfl, h2⟩
  obtain ⟨tl, htl⟩ : ∃ tl, ws = hd :: tl := by
    cases ws with
    | nil => simp at hn3
    | cons a l => exact ⟨l, by have := HHD.out; simp at this; rw [this]⟩
  have HR : Hid (stateR t = match headS hd with
      | some c => match linesS c tl with
        | some c' => if stateB c' = t then some c' else none
        | none => none
      | none => none) := by rw [Hid, hR.out, htl]
  have HTL := hid htl
  clear htl hR
  rcases hcase with ⟨a, xs, rfl, hx⟩ | ⟨hno, hcase⟩
  rotate_left
  · have hno2 : Hid (stateR t = none) := by rw [Hid, HR.out, hno]
    rcases hcase with rfl | ⟨a, rfl, ha⟩
    · go_wp2
      refine bodyPost_ret (v := .tuple #[.agg svz, .bool false]) (by simp [results, Tryz.results10, go_sem, *]) rfl ⟨.inr ⟨hno2.out, rfl⟩, bel_set6 HB3.out (Nat.le_refl _) _ _ _ _ _ _⟩
    · have ha2 : (readB a 2).isSome = false := by rw [ha]; rfl
      go_wp2
      refine bodyPost_ret (v := .tuple #[.agg svz, .bool false]) (by simp [results, Tryz.results10, go_sem, *]) rfl ⟨.inr ⟨hno2.out, rfl⟩, bel_set6 HB3.out (Nat.le_refl _) _ _ _ _ _ _⟩
  obtain ⟨x0, x1, rfl⟩ := two_of ((readB_iff (by omega)).1 hx).1
  have hin : (inM x0 = true ∧ inM x1 = true) := by have := ((readB_iff (by omega)).1 hx).2.1; simpa using this
  have HIN := hid hin
  clear hin
  have hhead : Hid (headS hd = some (st00 x0 x1)) := by rw [Hid, headS, lineN, HR1.out]; simp [hx]
  obtain ⟨ad, cq, rfl, hI⟩ := HV1.out _ hx
  obtain ⟨b, o, rfl, hbl, c0⟩ := hI.at 0 (by simp)
  replace c0 : w3.cell? ⟨b, o, none⟩ = some (.int .i64 x0) := c0
  obtain ⟨b', o', he, _, c1⟩ := hI.at 1 (by simp)
  cases he
  replace c1 : w3.cell? ⟨b, o + 1, none⟩ = some (.int .i64 x1) := c1
  have hsm : (readB a 2).isSome = true := by rw [hx]; rfl
  clear hI HV1 hx x3c x3f
  go_wp2_with fail
  refine wp_region_tc [[(7, none)], [(38, some 0)], [(39, some 1)], [(7, none)], [(41, some 3)], [(42, some 4)], [(40, some 2), (43, some 5)], [], [(9, some 7), (44, some 6)]]
    (fun i v => match i with | 0 => v = .slice (some ⟨b, o, none⟩) 2 cq | 1 => v = .pointer (some ⟨b, o, none⟩) | 2 => v = .int .i64 x0 | 3 => v = .slice (some ⟨b, o, none⟩) 2 cq | 4 => v = .pointer (some ⟨b, o + 1, none⟩) | 5 => v = .int .i64 x1 | 6 => v = .agg (sva (.slice none 0 0) (.slice none 0 0) (.slice none 0 0) (.slice none 0 0) (st00 x0 x1)) | 7 => True | _ => True)
    (NB w3 svz (sva (.slice none 0 0) (.slice none 0 0) (.slice none 0 0) (.slice none 0 0) (st00 x0 x1)) 36 7 8 9) 70 rfl (by kernel_rfl) (NB.start (by go_grown)) ⟨?_, ?_, ?_, ?_, ?_, ?_, ?_, ?_, ?_, trivial⟩ ?_
  · rintro t9 A w4 Q K hsz hts hu hbf haf hC hK ⟨e7, -⟩
    replace e7 : A.tmps[7]?.getD undef = .slice (some ⟨b, o, none⟩) 2 cq := e7
    simp [go_sem, e7]
    exact hK _ _ rfl (hC.other 0 38 _ (by decide) (by decide))
  · rintro t9 A w4 Q K hsz hts hu hbf haf hC hK ⟨e38, -⟩
    replace e38 : A.tmps[38]?.getD undef = .slice (some ⟨b, o, none⟩) 2 cq := e38
    simp [go_sem, e38]
    exact hK _ _ rfl (hC.other 1 39 _ (by decide) (by decide))
  · rintro t9 A w4 Q K hsz hts hu hbf haf hC hK ⟨e39, -⟩
    replace e39 : A.tmps[39]?.getD undef = .pointer (some ⟨b, o, none⟩) := e39
    have yb := (hC.bel.cell (p := ⟨b, o, none⟩) hbl).trans c0
    simp [go_sem, e39, yb]
    exact hK _ _ rfl (hC.other 2 40 _ (by decide) (by decide))
  · rintro t9 A w4 Q K hsz hts hu hbf haf hC hK ⟨e7, -⟩
    replace e7 : A.tmps[7]?.getD undef = .slice (some ⟨b, o, none⟩) 2 cq := e7
    simp [go_sem, e7]
    exact hK _ _ rfl (hC.other 3 41 _ (by decide) (by decide))
  · rintro t9 A w4 Q K hsz hts hu hbf haf hC hK ⟨e41, -⟩
    replace e41 : A.tmps[41]?.getD undef = .slice (some ⟨b, o, none⟩) 2 cq := e41
    simp [go_sem, e41]
    exact hK _ _ rfl (hC.other 4 42 _ (by decide) (by decide))
  · rintro t9 A w4 Q K hsz hts hu hbf haf hC hK ⟨e42, -⟩
    replace e42 : A.tmps[42]?.getD undef = .pointer (some ⟨b, o + 1, none⟩) := e42
    have yb := (hC.bel.cell (p := ⟨b, o + 1, none⟩) hbl).trans c1
    simp [go_sem, e42, yb]
    exact hK _ _ rfl (hC.other 5 43 _ (by decide) (by decide))
  · rintro t9 A w4 Q K hsz hts hu hbf haf hC hK ⟨e40, e43, -⟩
    replace e40 : A.tmps[40]?.getD undef = .int .i64 x0 := e40
    replace e43 : A.tmps[43]?.getD undef = .int .i64 x1 := e43
    simp [go_sem, e40, e43]
    exact hK _ _ rfl (hC.other 6 44 _ (by decide) (by decide))
  · rintro t9 A w4 Q K hsz hts hu hbf haf hC hK -
    simp [go_sem]
    exact hK _ _ trivial (hC.new (haf 8 _ rfl (by kernel_rfl)) (by decide) (by rw [hts]; show 9 < 70; decide))
  · rintro t9 A w4 Q K hsz hts hu hbf haf hC hK ⟨-, e44, -⟩
    replace e44 : A.tmps[44]?.getD undef = .agg (sva (.slice none 0 0) (.slice none 0 0) (.slice none 0 0) (.slice none 0 0) (st00 x0 x1)) := e44
    obtain ⟨r, hr, hr2, hz, -⟩ := hC.box (hbf 7 (by kernel_rfl))
    have hz := hz (getD_tf hu).1
    have e9 : A.tmps[9]?.getD undef = .pointer (some ⟨r, 0, none⟩) := hr
    have X := hz.cell
    have F := hz.frozen
    have BL := hC.bel
    clear hbf haf
    simp [go_sem, e9, e44, X, F]
    refine hK undef _ trivial (NB.last hu hr hr2 (bel_set6 BL hr2 _ _ _ _ _ _) ?_)
    exact (((((hz.set 0 _).set 1 _).set 2 _).set 3 _).set 4 _).set 5 _
  · intro a' w4 ha' hC'
    refine fun v0 h0 v1 h1 v2 h2 v3 h3 v4 h4 v5 h5 v6 h6 v7 h7 => ?_
    intro he
    subst he
    obtain ⟨r9, hr, hr2, -, hX⟩ := hC'.box (by simp)
    have hX := hX (by simp)
    have hB4 := hC'.bel
    simp [Act.put, ev] at hr
    subst hr
    clear hC' ha' h0 h1 h2 h3 h4 h5 h6 h7
    simp only [Act.put, List.setIfInBounds_toArray, List.set_cons_zero, List.set_cons_succ]
    have HX9 := hid hX
    have HB4 := hid (HB3.out.trans (hB4.mono HB3.out.size))
    have HX4 := hid (HX3.out.below hB4 hXl)
    have HS4 := hid (HS3.out.below hB4)
    have hg4 : g < w4.heap.size := Nat.lt_of_lt_of_le hg3 hB4.size
    have hr9 : w.heap.size < r9 := by omega
    have hgr : g ≠ r9 := by omega
    have hr9l := hX.lt
    have hs34 := hB4.size
    clear hX hB4 HX3 HS3 HB3 hr2 c0 c1 hbl
    have HWL : Hid (ws.length = tl.length + 1) := by rw [Hid, HTL.out]; rfl
    have HWS : Hid (∀ j (h : j < ws.length), 1 ≤ j → tl[j - 1]? = some ws[j]) := by
      intro j h h1
      have := HTL.out
      subst this
      obtain ⟨j, rfl⟩ : ∃ i, j = i + 1 := ⟨j - 1, by omega⟩
      simp only [List.length_cons] at h
      simp
    have hhx := hhead
    clear hrl hdl HR1 HHD HTL hsm
    go_wp2
    go_loopw [10] (fun i w' => ∃ (j : Nat) (c : St) (vp vn vw vg : Value), i = .int .i64 (j : Int) ∧ 1 ≤ j ∧ j ≤ ws.length ∧ Hid (linesS (st00 x0 x1) (tl.take (j - 1)) = some c) ∧ OS w' w4.heap.size vp vn vw vg c ∧ Blk w' r9 (sva vp vn vw vg c) 36 ∧ Only (fun k => k = r9) w4 w') (fun i _ => ws.length - (intOf i).toNat)
    case atStart => exact ⟨1, _, .slice none 0 0, .slice none 0 0, .slice none 0 0, .slice none 0 0, rfl, Nat.le_refl _, hn1, rfl, OS.nil _ _ _ rfl rfl rfl rfl, HX9.out, Only.refl _ _⟩
    case round =>
      obtain ⟨j, c, vp, vn, vw, vg, rfl, hj, hjl, hlc, ho, hbx, hon⟩ := hrel
      obtain ⟨ap, cp0, rfl, -⟩ := ho.P.form
      obtain ⟨an, cn0, rfl, -⟩ := ho.N.form
      obtain ⟨aw, cw0, rfl, -⟩ := ho.W.form
      obtain ⟨ag, cg0, rfl, -⟩ := ho.G.form
      have hlen := linesS_len _ _ _ hlc.out
      simp only [st00, List.length_nil, List.length_take, Nat.zero_add] at hlen
      have hlp : c.pods.length ≤ 4000 := by have := HWL.out; omega
      have hln : c.nodes.length ≤ 4000 := by have := HWL.out; omega
      have hlw : c.works.length ≤ 4000 := by have := HWL.out; omega
      have hlg : c.groups.length ≤ 4000 := by have := HWL.out; omega
      clear hlen
      have hx2 : Blk wr w.heap.size svz 36 := HX4.out.only hon (by omega)
      have hbr : Below w.heap.size w wr := Only.below HB4.out hon HB4.out.size (fun k hk e => by omega)
      have HO := hid ho
      have HBX := hid hbx
      have HON := hid hon
      have HX2 := hid hx2
      have HBR := hid hbr
      have x9c := hbx.cell
      have x9l := hbx.lt
      have x2l := hx2.lt
      by_cases hkn : j < ws.length
      · have hcellk : wr.cell? ⟨g, j, none⟩ = some (str ws[j]) := (Only.cell hon hg4 hgr).trans (HS4.out.cell j hkn)
        have hgw : g < wr.heap.size := Nat.lt_of_lt_of_le hg4 hon.size
        have hj0 : (0 : Int) ≤ (j : Int) := by omega
        have hj1 : (j : Int) < (ws.length : Int) := by omega
        have hwl : ws[j].length ≤ 4000 := by have := hcm.out _ (List.getElem_mem hkn); omega
        have hsn := linesS_snoc (tl.take (j - 1)) ws[j] (st00 x0 x1)
        have htk : tl.take (j - 1) ++ [ws[j]] = tl.take j := by
          have h1 := HWS.out j hkn hj
          have h2 : j - 1 < tl.length := by have := HWL.out; omega
          rw [List.getElem?_eq_getElem h2] at h1
          have h3 := List.take_succ_eq_append_getElem h2
          rw [show j - 1 + 1 = j by omega] at h3
          rw [h3, Option.some.inj h1]
        rw [htk, hlc.out] at hsn
        simp only at hsn
        have hap := linesS_append (tl.take j) (tl.drop j) (st00 x0 x1)
        rw [List.take_append_drop, hsn] at hap
        have HCL0 := stateLine_any (.slice ap c.pods.length cp0) (.slice an c.nodes.length cn0) (.slice aw c.works.length cw0) (.slice ag c.groups.length cg0) c ws[j] w4.heap.size
        obtain ⟨lo, hlo⟩ : ∃ lo, lineS c ws[j] = lo := ⟨_, rfl⟩
        rw [hlo] at hsn hap
        simp only [hlo] at HCL0
        obtain ⟨c1, hc1⟩ : ∃ c1, lo.getD c = c1 := ⟨_, rfl⟩
        obtain ⟨ok, hok⟩ : ∃ ok, lo.isSome = ok := ⟨_, rfl⟩
        simp only [hc1, hok] at HCL0
        have HCL := hid HCL0
        have HSN := hid hsn
        have HAP := hid hap
        have HC1 := hid hc1
        have HOK := hid hok
        have HOW : Hid (∀ k, own4 (.slice ap c.pods.length cp0) (.slice an c.nodes.length cn0) (.slice aw c.works.length cw0) (.slice ag c.groups.length cg0) k → w4.heap.size ≤ k ∧ k < wr.heap.size) := HO.out.lt
        clear HCL0 hsn hap hc1 hok hlo htk ho hbx hon hx2 hbr hlc
        go_wp2_with fail
        refine wp_region_tc [[(9, none)], [(4, none)], [(10, none)], [(53, some 1), (54, some 2)], [(55, some 3)], [(52, some 0), (56, some 4)], [(57, some 5)], [(51, some 6)], [(51, some 6)], [], [(11, some 9), (58, some 7)], [(59, some 8)]]
          (fun i v => match i with | 0 => v = svl (.slice ap c.pods.length cp0) (.slice an c.nodes.length cn0) (.slice aw c.works.length cw0) (.slice ag c.groups.length cg0) c | 1 => v = .slice (some ⟨g, 0, none⟩) ws.length cp | 2 => v = .int .i64 (j : Int) | 3 => v = .pointer (some ⟨g, j, none⟩) | 4 => v = str ws[j] | 8 => v = .bool ok | 11 => v = .bool ok | _ => True)
          (CR w4.heap.size wr (.slice ap c.pods.length cp0) (.slice an c.nodes.length cn0) (.slice aw c.works.length cw0) (.slice ag c.groups.length cg0) c1 ok) 70 rfl (by kernel_rfl) (CR.start (by go_grown)) ⟨?_, ?_, ?_, ?_, ?_, ?_, ?_, ?_, ?_, ?_, ?_, ?_, trivial⟩ ?_
        · rintro t9 A w5 Q K hsz hts hu hbf haf hC hK ⟨e9, -⟩
          replace e9 : A.tmps[9]?.getD undef = .pointer (some ⟨r9, 0, none⟩) := e9
          have X := (HBX.out.below (hC.pre (haf 5 _ rfl (by kernel_rfl))).1 x9l).cell
          simp [go_sem, e9, X]
          exact hK _ _ rfl (hC.other 0 52 _ (by decide) (by decide))
        · rintro t9 A w5 Q K hsz hts hu hbf haf hC hK ⟨e4, -⟩
          replace e4 : A.tmps[4]?.getD undef = .slice (some ⟨g, 0, none⟩) ws.length cp := e4
          simp [go_sem, e4]
          exact hK _ _ rfl (hC.other 1 53 _ (by decide) (by decide))
        · rintro t9 A w5 Q K hsz hts hu hbf haf hC hK ⟨e10, -⟩
          replace e10 : A.tmps[10]?.getD undef = .int .i64 (j : Int) := e10
          simp [go_sem, e10]
          exact hK _ _ rfl (hC.other 2 54 _ (by decide) (by decide))
        · rintro t9 A w5 Q K hsz hts hu hbf haf hC hK ⟨e53, e54, -⟩
          replace e53 : A.tmps[53]?.getD undef = .slice (some ⟨g, 0, none⟩) ws.length cp := e53
          replace e54 : A.tmps[54]?.getD undef = .int .i64 (j : Int) := e54
          simp [go_sem, e53, e54, hj0, hj1]
          exact hK _ _ rfl (hC.other 3 55 _ (by decide) (by decide))
        · rintro t9 A w5 Q K hsz hts hu hbf haf hC hK ⟨e55, -⟩
          replace e55 : A.tmps[55]?.getD undef = .pointer (some ⟨g, j, none⟩) := e55
          have yb := ((hC.pre (haf 5 _ rfl (by kernel_rfl))).1.cell (p := ⟨g, j, none⟩) hgw).trans hcellk
          simp [go_sem, e55, yb]
          exact hK _ _ rfl (hC.other 4 56 _ (by decide) (by decide))
        · rintro t9 A w5 Q K hsz hts hu hbf haf hC hK ⟨e52, e56, -⟩
          replace e52 : A.tmps[52]?.getD undef = svl (.slice ap c.pods.length cp0) (.slice an c.nodes.length cn0) (.slice aw c.works.length cw0) (.slice ag c.groups.length cg0) c := e52
          replace e56 : A.tmps[56]?.getD undef = str ws[j] := e56
          obtain ⟨hp, -⟩ := hC.pre (getD_tf hu).1
          have h6 := haf 6 _ rfl (by kernel_rfl)
          have h7 := haf 7 _ rfl (by kernel_rfl)
          have h10 := haf 10 _ rfl (by kernel_rfl)
          clear haf hbf
          simp [go_sem, e52, e56]
          refine (HCL.out w5 (Nat.le_trans HON.out.size hp.size) (HO.out.keep hp) hwl hlp hln hlw hlg).mono ?_
          rintro e w6 ⟨vp', vn', vw', vg', h1, rfl, h3, h4⟩
          exact hK _ _ trivial (hC.call hu h6 h7 h10 (by rw [hts]; show 57 < 70; decide) (fun k hk => (HOW.out k hk).2) h1 h3 h4)
        · rintro t9 A w5 Q K hsz hts hu hbf haf hC hK -
          have h5 := hbf 5 (by kernel_rfl)
          obtain ⟨vp', vn', vw', vg', hv, -⟩ := hC.post h5
          have e51 : A.tmps[57]?.getD undef = .tuple #[svl vp' vn' vw' vg' c1, .bool ok] := hv
          clear haf hbf
          simp [go_sem, e51]
          exact hK _ _ trivial (hC.mv h5 (by rw [hts]; show 51 < 70; decide) hv)
        · rintro t9 A w5 Q K hsz hts hu hbf haf hC hK -
          have h5 := hbf 5 (by kernel_rfl)
          obtain ⟨vp', vn', vw', vg', hv, h6, -⟩ := hC.post h5
          have e51 : A.tmps[51]?.getD undef = .tuple #[svl vp' vn' vw' vg' c1, .bool ok] := h6 (hbf 6 (by kernel_rfl))
          clear haf hbf
          simp [go_sem, e51]
          exact hK _ _ trivial (hC.ex h5 (by rw [hts]; show 58 < 70; decide) hv)
        · rintro t9 A w5 Q K hsz hts hu hbf haf hC hK -
          obtain ⟨vp', vn', vw', vg', hv, h6, -⟩ := hC.post (hbf 5 (by kernel_rfl))
          have e51 : A.tmps[51]?.getD undef = .tuple #[svl vp' vn' vw' vg' c1, .bool ok] := h6 (hbf 6 (by kernel_rfl))
          clear haf hbf
          simp [go_sem, e51]
          exact hK _ _ rfl (hC.other 8 59 _ (by decide) (by decide))
        · rintro t9 A w5 Q K hsz hts hu hbf haf hC hK -
          have h10 := haf 10 _ rfl (by kernel_rfl)
          clear haf hbf
          simp [go_sem]
          exact hK _ _ trivial (hC.new h10 (by rw [hts]; show 11 < 70; decide))
        · rintro t9 A w5 Q K hsz hts hu hbf haf hC hK -
          have h5 := hbf 5 (by kernel_rfl)
          obtain ⟨vp', vn', vw', vg', hv, h6, h7, ho5, hon5, hb5⟩ := hC.post h5
          have h6 := h6 (hbf 6 (by kernel_rfl))
          have h7 := h7 (hbf 7 (by kernel_rfl))
          obtain ⟨r, hr, hr2, hne, hz, -⟩ := hb5 (hbf 9 (by kernel_rfl))
          have hz := hz (getD_tf hu).1
          obtain ⟨a5, c5, rfl, -⟩ := ho5.P.form
          obtain ⟨a6, c6, rfl, -⟩ := ho5.N.form
          obtain ⟨a7, c7, rfl, -⟩ := ho5.W.form
          obtain ⟨a8, c8, rfl, -⟩ := ho5.G.form
          have e52 : A.tmps[58]?.getD undef = svl (.slice a5 c1.pods.length c5) (.slice a6 c1.nodes.length c6) (.slice a7 c1.works.length c7) (.slice a8 c1.groups.length c8) c1 := h7
          have e11 : A.tmps[11]?.getD undef = .pointer (some ⟨r, 0, none⟩) := hr
          have X := hz.cell
          have F := hz.frozen
          clear haf hbf
          simp [go_sem, e52, e11, X, F]
          exact hK undef _ trivial (CR.last h5 hu hv h6 h7 (ho5.far6 (fun e => hne _ e rfl) _ _ _ _ _ _) (hon5.far6 hr2 _ _ _ _ _ _) hr hr2 hne ((((((hz.set 0 _).set 1 _).set 2 _).set 3 _).set 4 _).set 5 _))
        · rintro t9 A w5 Q K hsz hts hu hbf haf hC hK ⟨e53, -⟩
          replace e53 : A.tmps[59]?.getD undef = .bool ok := e53
          clear haf hbf
          simp [go_sem, e53]
          exact hK _ _ rfl (hC.other 11 12 _ (by decide) (by decide))
        · intro a' w5 ha' hC'
          refine fun v0 h0 v1 h1 v2 h2 v3 h3 v4 h4 v5 h5 v6 h6 v7 h7 v8 h8 v9 h9 v11 h11 => ?_
          intro he
          subst he
          obtain ⟨vp', vn', vw', vg', -, -, -, ho5, hon5, hb5⟩ := hC'.post (by simp)
          obtain ⟨r5, hr5, hr52, hne5, -, hX5⟩ := hb5 (by simp)
          have hX5 := hX5 (by simp)
          simp [Act.put, ev] at hr5
          subst hr5
          obtain rfl := (h11 : v11 = .bool ok)
          clear hC' ha' hb5 h0 h1 h2 h3 h4 h5 h6 h7 h8 h9
          simp only [Act.put, List.setIfInBounds_toArray, List.set_cons_zero, List.set_cons_succ]
          obtain ⟨a5, c5, rfl, -⟩ := ho5.P.form
          obtain ⟨a6, c6, rfl, -⟩ := ho5.N.form
          obtain ⟨a7, c7, rfl, -⟩ := ho5.W.form
          obtain ⟨a8, c8, rfl, -⟩ := ho5.G.form
          have hon6 : Only (fun k => k = r9) w4 w5 := HON.out.into hon5 (fun k hk hS => by have := (HOW.out k hS).1; omega)
          have hX9 : Blk w5 r9 (sva (.slice ap c.pods.length cp0) (.slice an c.nodes.length cn0) (.slice aw c.works.length cw0) (.slice ag c.groups.length cg0) c) 36 := HBX.out.only hon5 (fun e => by have := (HOW.out _ e).1; omega)
          have hX2 : Blk w5 w.heap.size svz 36 := HX2.out.only hon5 (fun e => by have := (HOW.out _ e).1; omega)
          have hB5 : Below w.heap.size w w5 := Only.below HB4.out hon6 HB4.out.size (fun k hk e => by omega)
          have HO5 := hid ho5
          have HON6 := hid hon6
          have HX53 := hid hX9
          have HB5 := hid hB5
          have y9c := hX9.cell
          have y9f := hX9.frozen
          have y2c := hX2.cell
          have y2f := hX2.frozen
          have y5c := hX5.cell
          clear hX5 hX9 hX2 hB5 hon5 hon6 ho5 hne5 hr52 hcellk x9c
          cases ok
          · have hno : Hid (stateR t = none) := by
              have h1 : lo = none := by have := HOK.out; cases lo with | none => rfl | some _ => simp at this
              have h2 := HAP.out
              rw [h1] at h2
              rw [Hid, HR.out, hhx.out]
              simp only [h2]
            clear y9c y9f y5c
            go_wp2
            refine bodyPost_ret (v := .tuple #[.agg svz, .bool false]) (by simp [results, Tryz.results10, go_sem, *]) rfl ⟨.inr ⟨hno.out, rfl⟩, bel_set6 HB5.out (Nat.le_refl _) _ _ _ _ _ _⟩
          · have hye : Hid (linesS (st00 x0 x1) (tl.take j) = some c1) := by
              have h1 := HOK.out
              have h2 := HC1.out
              rw [Hid, HSN.out]
              cases lo with
              | none => simp at h1
              | some z => simp at h2; rw [h2]
            clear y2c y2f
            go_wp2
            refine ⟨⟨j + 1, c1, .slice a5 c1.pods.length c5, .slice a6 c1.nodes.length c6, .slice a7 c1.works.length c7, .slice a8 c1.groups.length c8, by simp, by omega, by omega, hye, HO5.out.farB (by omega) _ _ _ _ _ _, (((((HX53.out.set 0 _).set 1 _).set 2 _).set 3 _).set 4 _).set 5 _, HON6.out.set6 _ _ _ _ _ _⟩, ?_⟩
            simp [intOf]
            omega
      · have hj2 : ¬ (j : Int) < (ws.length : Int) := by omega
        have hjt : tl.take (j - 1) = tl := List.take_of_length_le (by have := HWL.out; omega)
        have hlt : Hid (stateR t = if stateB c = t then some c else none) := by
          have := hlc.out
          rw [hjt] at this
          rw [Hid, HR.out, hhx.out]
          simp only [this]
        have hsI : StI c := (linesS_in _ _ _ (by have := hlc.out; exact this) ⟨by simpa [st00] using HIN.out, by simp [st00], by simp [st00], by simp [st00], by simp [st00]⟩).stI
        clear hlc hjt ho hbx hon hx2 hbr
        go_wp2_with fail
        refine (sTextState_any _ c wr (HO.out.state (by omega) (by omega) (by omega) (by omega)) hsI).mono ?_
        rintro e w5 ⟨rfl, hb5⟩
        have HO5 := hid (HO.out.keep hb5)
        have HB5 := hid (HBR.out.trans (hb5.mono HBR.out.size))
        have hX9 := HBX.out.below hb5 x9l
        have hX2 := HX2.out.below hb5 x2l
        have y9c := hX9.cell
        have y2c := hX2.cell
        have y2f := hX2.frozen
        clear hb5 hX9 hX2 x9c
        by_cases heq : stateB c = t
        · have e2 : (stateB c == t) = true := by simp [heq]
          have hyes : Hid (stateR t = some c) := by rw [Hid, hlt.out, if_pos heq]
          clear heq
          go_wp2
          refine bodyPost_ret (v := .tuple #[svl (.slice ap c.pods.length cp0) (.slice an c.nodes.length cn0) (.slice aw c.works.length cw0) (.slice ag c.groups.length cg0) c, .bool true]) (by simp [results, Tryz.results10, go_sem, *]) rfl ⟨.inl ⟨c, _, hyes.out, OS.state (HO5.out.farB (by omega) _ _ _ _ _ _) (by omega) (by omega) (by omega) (by omega), rfl⟩, bel_set6 HB5.out (Nat.le_refl _) _ _ _ _ _ _⟩
        · have e2 : (stateB c == t) = false := by simp [heq]
          have hno : Hid (stateR t = none) := by rw [Hid, hlt.out, if_neg heq]
          clear heq y9c
          go_wp2
          refine bodyPost_ret (v := .tuple #[.agg svz, .bool false]) (by simp [results, Tryz.results10, go_sem, *]) rfl ⟨.inr ⟨hno.out, rfl⟩, bel_set6 HB5.out (Nat.le_refl _) _ _ _ _ _ _⟩
end Go.Proofs.YthdlkpgialmlfaaGreatDoor
