/- Texts: a line of what is asked, as the document reads it. -/
import Derived.Test.YtoceohacplmgnaaGreatDoorTp
import Derived.Test.YtoceohacplmgnaaGreatDoorX
import Derived.Test.YtoceohacplmgnaaGreatDoorTz
namespace Go.Proofs.YtoceohacplmgnaaGreatDoor
open Go.RowKit

theorem eight_of {xs : List Int} (h : xs.length = 8) : ∃ a b c d e f g i, xs = [a, b, c, d, e, f, g, i] := by
  match xs, h with
  | [a, b, c, d, e, f, g, i], _ => exact ⟨a, b, c, d, e, f, g, i, rfl⟩
theorem five_of {xs : List Int} (h : xs.length = 5) : ∃ a b c d e, xs = [a, b, c, d, e] := by
  match xs, h with
  | [a, b, c, d, e], _ => exact ⟨a, b, c, d, e, rfl⟩
/-- What is asked, with rows of one's own. -/
structure OC (w : World) (B : Nat) (vw vg : Value) (c : Cf) : Prop where
  W : Owns 8 Wk.cell 74 B w vw c.works
  G : Owns 5 Gp.cell 76 B w vg c.groups
  ne : ∀ k, vw.ownBlock = some k → vg.ownBlock ≠ some k
theorem OC.keep {w w' : World} {B : Nat} {vw vg : Value} {c : Cf} (h : OC w B vw vg c) (hb : Below w.heap.size w w') : OC w' B vw vg c := ⟨h.W.keep hb, h.G.keep hb, h.ne⟩
theorem OC.far6 {w : World} {B b : Nat} {vw vg : Value} {c : Cf} (h : OC w B vw vg c) (hw : ∀ k, vw.ownBlock = some k → k ≠ b) (hg : ∀ k, vg.ownBlock = some k → k ≠ b) (u0 u1 u2 u3 u4 u5 : Value) : OC ((((((w.setCell ⟨b, 0, none⟩ u0).setCell ⟨b, 1, none⟩ u1).setCell ⟨b, 2, none⟩ u2).setCell ⟨b, 3, none⟩ u3).setCell ⟨b, 4, none⟩ u4).setCell ⟨b, 5, none⟩ u5) B vw vg c :=
  ⟨h.W.far6 hw u0 u1 u2 u3 u4 u5, h.G.far6 hg u0 u1 u2 u3 u4 u5, h.ne⟩
abbrev cvl (vw vg : Value) (c : Cf) : Value := .agg #[vw, vg, .int .i64 c.start, .int .i64 c.calm, .int .i64 c.idle, .int .i64 c.back]
def own2 (vw vg : Value) (k : Nat) : Prop := vw.ownBlock = some k ∨ vg.ownBlock = some k

theorem oc_work {w w2 w3 : World} {B bx TB : Nat} {vw vg v' : Value} {c : Cf} {x : Wk} {cs : Array Value} (hb : Below w.heap.size w w2) (h : OC w2 B vw vg c) (hw : ∀ k, vw.ownBlock = some k → k < w.heap.size) (hg : ∀ k, vg.ownBlock = some k → k < w.heap.size)
    (hq : AQ 8 Wk.cell 74 B w2 vw c.works x bx TB w3 v' cs) (hx : w.heap.size ≤ bx) (hO : Owns 5 Gp.cell 76 B w3 vg c.groups) :
    OC w3 B v' vg { c with works := c.works ++ [x] } ∧ (∀ k, own2 v' vg k → own2 vw vg k ∨ w.heap.size ≤ k) ∧ Only (own2 vw vg) w w3 ∧ (∀ k, v'.ownBlock = some k → k < w.heap.size ∨ w2.heap.size ≤ k) := by
  have hs := hb.size
  have hf : ∀ k, v'.ownBlock = some k → vw.ownBlock = some k ∨ w2.heap.size ≤ k := fun k hk => by
    rcases hq.from' with h1 | ⟨k', h1, h2⟩
    · exact .inl (h1 ▸ hk)
    · rw [h1] at hk; cases hk; exact .inr h2
  refine ⟨⟨hq.own, hO, fun k hk hk' => ?_⟩, fun k hk => ?_, Only.from_ hb hq.only (fun k hk hS => hS.elim .inl (fun e => by omega)), fun k hk => (hf k hk).imp (hw k) id⟩
  · rcases hf k hk with h1 | h1
    · exact h.ne k h1 hk'
    · have := hg k hk'; omega
  · rcases hk with hk | hk
    · rcases hf k hk with h1 | h1
      · exact .inl (.inl h1)
      · exact .inr (by omega)
    · exact .inl (.inr hk)
theorem oc_group {w w2 w3 : World} {B bx TB : Nat} {vw vg v' : Value} {c : Cf} {x : Gp} {cs : Array Value} (hb : Below w.heap.size w w2) (h : OC w2 B vw vg c) (hw : ∀ k, vw.ownBlock = some k → k < w.heap.size) (hg : ∀ k, vg.ownBlock = some k → k < w.heap.size)
    (hq : AQ 5 Gp.cell 76 B w2 vg c.groups x bx TB w3 v' cs) (hx : w.heap.size ≤ bx) (hO : Owns 8 Wk.cell 74 B w3 vw c.works) :
    OC w3 B vw v' { c with groups := c.groups ++ [x] } ∧ (∀ k, own2 vw v' k → own2 vw vg k ∨ w.heap.size ≤ k) ∧ Only (own2 vw vg) w w3 ∧ (∀ k, v'.ownBlock = some k → k < w.heap.size ∨ w2.heap.size ≤ k) := by
  have hs := hb.size
  have hf : ∀ k, v'.ownBlock = some k → vg.ownBlock = some k ∨ w2.heap.size ≤ k := fun k hk => by
    rcases hq.from' with h1 | ⟨k', h1, h2⟩
    · exact .inl (h1 ▸ hk)
    · rw [h1] at hk; cases hk; exact .inr h2
  refine ⟨⟨hO, hq.own, fun k hk hk' => ?_⟩, fun k hk => ?_, Only.from_ hb hq.only (fun k hk hS => hS.elim .inr (fun e => by omega)), fun k hk => (hf k hk).imp (hg k) id⟩
  · rcases hf k hk' with h1 | h1
    · exact h.ne k hk h1
    · have := hw k hk; omega
  · rcases hk with hk | hk
    · exact .inl (.inl hk)
    · rcases hf k hk with h1 | h1
      · exact .inl (.inr h1)
      · exact .inr (by omega)

set_option maxRecDepth 100000 in
set_option maxHeartbeats 4000000 in
theorem cfgLine_any (vw vg : Value) (c : Cf) (line : List UInt8) (B : Nat) (w : World) (hB : B ≤ w.heap.size) (h : OC w B vw vg c) (hl : line.length ≤ 4000) (hw : c.works.length ≤ 4000) (hg : c.groups.length ≤ 4000) :
    Calls Tryz.prog 18 #[cvl vw vg c, str line] w fun e w' => ∃ vw' vg', OC w' B vw' vg' ((lineC c line).getD c) ∧ e = .returned (.tuple #[cvl vw' vg' ((lineC c line).getD c), .bool (lineC c line).isSome]) ∧ (∀ k, own2 vw' vg' k → own2 vw vg k ∨ w.heap.size ≤ k) ∧ Only (own2 vw vg) w w' := by
  obtain ⟨aw, cw, rfl, -⟩ := h.W.form
  obtain ⟨ag, cg, rfl, -⟩ := h.G.form
  have H := hid h
  have hbw : ∀ k, (Value.slice aw c.works.length cw).ownBlock = some k → k < w.heap.size := fun k hk => (h.W.lt k hk).2
  have hbg : ∀ k, (Value.slice ag c.groups.length cg).ownBlock = some k → k < w.heap.size := fun k hk => (h.G.lt k hk).2
  have HBW := hid hbw
  have HBG := hid hbg
  clear h hbw hbg
  go_enter Tryz.func18, Tryz.ntmps18
  go_wp2_with fail
  refine (rest_any line [119, 111, 114, 107] _ (by omega) (by simp)).mono ?_
  rintro e w' ⟨rfl, rfl⟩
  have hl1 : ((restB line [119, 111, 114, 107]).getD []).length ≤ 4000 := by
    cases hr : restB line [119, 111, 114, 107] with
    | none => simp
    | some a => have := rest_len hr; simp; omega
  go_wp2_with fail
  refine (rest_any line [103, 114, 111, 117, 112] _ (by omega) (by simp)).mono ?_
  rintro e w' ⟨rfl, rfl⟩
  have hl2 : ((restB line [103, 114, 111, 117, 112]).getD []).length ≤ 4000 := by
    cases hr : restB line [103, 114, 111, 117, 112] with
    | none => simp
    | some a => have := rest_len hr; simp; omega
  generalize hr1 : restB line [119, 111, 114, 107] = r1 at *
  generalize hr2 : restB line [103, 114, 111, 117, 112] = r2 at *
  have HR1 := hid hr1
  have HR2 := hid hr2
  clear hr1 hr2
  go_wp2_with fail
  refine (read_any (r1.getD []) 8 _ (by omega) (by omega)).mono ?_
  rintro e w1 ⟨v1, rfl, hv1, hb1⟩
  have hX1 : Blk w1 w.heap.size #[(.slice aw c.works.length cw), (.slice ag c.groups.length cg), .int .i64 c.start, .int .i64 c.calm, .int .i64 c.idle, .int .i64 c.back] 25 := ((Blk.new w _ _).alloc _).below hb1 (by simp; omega)
  have hZ1 : Blk w1 (w.heap.size + 1) #[.slice none 0 0, .slice none 0 0, .int .i64 0, .int .i64 0, .int .i64 0, .int .i64 0] 25 := (by simpa using Blk.new (w.alloc _) _ _ : Blk _ (w.heap.size + 1) #[.slice none 0 0, .slice none 0 0, .int .i64 0, .int .i64 0, .int .i64 0, .int .i64 0] 25).below hb1 (by simp)
  have hB1 : Below w.heap.size w w1 := Below.trans (by go_grown) (hb1.mono (by simp; omega))
  clear hb1
  go_wp2_with fail
  refine (read_any (r2.getD []) 5 _ (by omega) (by omega)).mono ?_
  rintro e w2 ⟨v2, rfl, hv2, hb2⟩
  have hX2 := hX1.below hb2 hX1.lt
  have hZ2 := hZ1.below hb2 hZ1.lt
  have hB2 : Below w.heap.size w w2 := hB1.trans (hb2.mono hB1.size)
  have HX := hid hX2
  have HZ := hid hZ2
  have HB := hid hB2
  have hv1' : ∀ xs, readB (r1.getD []) 8 = some xs → ∃ a c, v1 = .slice a xs.length c ∧ IntsAt w2 a xs := fun xs hx => by
    obtain ⟨a, c, e1, e2⟩ := hv1 xs hx
    exact ⟨a, c, e1, e2.keep hb2⟩
  have HV1 := hid hv1'
  have HV2 := hid hv2
  clear hX1 hZ1 hB1 hX2 hZ2 hB2 hv1 hv1' hv2 hb2
  have hcase : (∃ a xs, r1 = some a ∧ readB a 8 = some xs) ∨ (lineN [119, 111, 114, 107] 8 line = none ∧ (r1 = none ∨ ∃ a, r1 = some a ∧ readB a 8 = none)) := by
    cases h1 : r1 with
    | none => exact .inr ⟨by simp [lineN, HR1.out, h1], .inl rfl⟩
    | some a =>
      cases h2 : readB a 8 with
      | none => exact .inr ⟨by simp [lineN, HR1.out, h1, h2], .inr ⟨a, rfl, h2⟩⟩
      | some xs => exact .inl ⟨a, xs, rfl, h2⟩
  have H2 := hid (H.out.keep HB.out)
  have hXl := HX.out.lt
  have hZl := HZ.out.lt
  have hvX : (Value.slice aw c.works.length cw).ownBlock ≠ some w.heap.size := fun hk => by have := HBW.out _ hk; omega
  have hgX : (Value.slice ag c.groups.length cg).ownBlock ≠ some w.heap.size := fun hk => by have := HBG.out _ hk; omega
  have HHX := hid hvX
  have HGX := hid hgX
  clear hvX hgX
  rcases hcase with ⟨a, xs, rfl, hx⟩ | ⟨hn1, hcase⟩
  · have hlc : Hid (lineC c line = some { c with works := c.works ++ [wkL xs] }) := by simp [Hid, lineC, lineN, HR1.out, hx]
    obtain ⟨x0, x1, x2, x3, x4, x5, x6, x7, rfl⟩ := eight_of ((readB_iff (by omega)).1 hx).1
    obtain ⟨ad, cp, rfl, hI⟩ := HV1.out _ hx
    obtain ⟨b, o, rfl, hbl, c0⟩ := hI.at 0 (by simp)
    replace c0 : w2.cell? ⟨b, o, none⟩ = some (.int .i64 x0) := c0
    obtain ⟨b', o', he, _, c1⟩ := hI.at 1 (by simp)
    cases he
    replace c1 : w2.cell? ⟨b, o + 1, none⟩ = some (.int .i64 x1) := c1
    obtain ⟨b', o', he, _, c2⟩ := hI.at 2 (by simp)
    cases he
    replace c2 : w2.cell? ⟨b, o + 2, none⟩ = some (.int .i64 x2) := c2
    obtain ⟨b', o', he, _, c3⟩ := hI.at 3 (by simp)
    cases he
    replace c3 : w2.cell? ⟨b, o + 3, none⟩ = some (.int .i64 x3) := c3
    obtain ⟨b', o', he, _, c4⟩ := hI.at 4 (by simp)
    cases he
    replace c4 : w2.cell? ⟨b, o + 4, none⟩ = some (.int .i64 x4) := c4
    obtain ⟨b', o', he, _, c5⟩ := hI.at 5 (by simp)
    cases he
    replace c5 : w2.cell? ⟨b, o + 5, none⟩ = some (.int .i64 x5) := c5
    obtain ⟨b', o', he, _, c6⟩ := hI.at 6 (by simp)
    cases he
    replace c6 : w2.cell? ⟨b, o + 6, none⟩ = some (.int .i64 x6) := c6
    obtain ⟨b', o', he, _, c7⟩ := hI.at 7 (by simp)
    cases he
    replace c7 : w2.cell? ⟨b, o + 7, none⟩ = some (.int .i64 x7) := c7
    have hsm : (readB a 8).isSome = true := by rw [hx]; rfl
    obtain ⟨inf74, i1, i2, i3, i4⟩ := info74
    have I1 := hid i1
    have I2 := hid i2
    have I3 := hid i3
    have I4 := hid i4
    clear i1 i2 i3 i4 hI HV1 HV2 hx
    go_wp2_with fail
    have H2W := hid H2.out.W
    have hvX := HHX.out
    refine wp_region_tc [[(2, none)], [(39, some 0)], [(10, none)], [(41, some 2)], [(42, some 3)], [(10, none)], [(44, some 5)], [(45, some 6)], [(43, some 4), (46, some 7)], [(10, none)], [(48, some 9)], [(49, some 10)], [(10, none)], [(51, some 12)], [(52, some 13)], [(10, none)], [(54, some 15)], [(55, some 16)], [(10, none)], [(57, some 18)], [(58, some 19)], [(10, none)], [(60, some 21)], [(61, some 22)], [(10, none)], [(63, some 24)], [(64, some 25)], [(47, some 8), (50, some 11), (53, some 14), (56, some 17), (59, some 20), (62, some 23), (65, some 26)], [(66, some 27)], [(40, some 1), (67, some 28)], [(2, none)], [(69, some 30), (68, some 29)]]
      (fun i v => match i with | 0 => v = .pointer (some ⟨w.heap.size, 0, none⟩) | 1 => v = .slice aw c.works.length cw | 2 => v = .slice (some ⟨b, o, none⟩) [x0, x1, x2, x3, x4, x5, x6, x7].length cp | 3 => v = .pointer (some ⟨b, o, none⟩) | 4 => v = .int .i64 x0 | 5 => v = .slice (some ⟨b, o, none⟩) [x0, x1, x2, x3, x4, x5, x6, x7].length cp | 6 => v = .pointer (some ⟨b, o + 1, none⟩) | 7 => v = .int .i64 x1 | 8 => v = .agg #[.int .i64 x0, .int .i64 x1] | 9 => v = .slice (some ⟨b, o, none⟩) [x0, x1, x2, x3, x4, x5, x6, x7].length cp | 10 => v = .pointer (some ⟨b, o + 2, none⟩) | 11 => v = .int .i64 x2 | 12 => v = .slice (some ⟨b, o, none⟩) [x0, x1, x2, x3, x4, x5, x6, x7].length cp | 13 => v = .pointer (some ⟨b, o + 3, none⟩) | 14 => v = .int .i64 x3 | 15 => v = .slice (some ⟨b, o, none⟩) [x0, x1, x2, x3, x4, x5, x6, x7].length cp | 16 => v = .pointer (some ⟨b, o + 4, none⟩) | 17 => v = .int .i64 x4 | 18 => v = .slice (some ⟨b, o, none⟩) [x0, x1, x2, x3, x4, x5, x6, x7].length cp | 19 => v = .pointer (some ⟨b, o + 5, none⟩) | 20 => v = .int .i64 x5 | 21 => v = .slice (some ⟨b, o, none⟩) [x0, x1, x2, x3, x4, x5, x6, x7].length cp | 22 => v = .pointer (some ⟨b, o + 6, none⟩) | 23 => v = .int .i64 x6 | 24 => v = .slice (some ⟨b, o, none⟩) [x0, x1, x2, x3, x4, x5, x6, x7].length cp | 25 => v = .pointer (some ⟨b, o + 7, none⟩) | 26 => v = .int .i64 x7 | 27 => v = .agg #[.int .i64 x0, .int .i64 x1, .int .i64 x2, .int .i64 x3, .int .i64 x4, .int .i64 x5, .int .i64 x6, .int .i64 x7] | 28 => True | 29 => True | 30 => v = .pointer (some ⟨w.heap.size, 0, none⟩) | _ => True)
      (AP 8 Wk.cell 74 B w2 (.slice aw c.works.length cw) c.works (wkL [x0, x1, x2, x3, x4, x5, x6, x7]) w.heap.size 25 #[(.slice aw c.works.length cw), (.slice ag c.groups.length cg), .int .i64 c.start, .int .i64 c.calm, .int .i64 c.idle, .int .i64 c.back] 0 28 29 31 67 68) 100 rfl (by kernel_rfl) (AP.start (by go_grown)) ⟨?_, ?_, ?_, ?_, ?_, ?_, ?_, ?_, ?_, ?_, ?_, ?_, ?_, ?_, ?_, ?_, ?_, ?_, ?_, ?_, ?_, ?_, ?_, ?_, ?_, ?_, ?_, ?_, ?_, ?_, ?_, ?_, trivial⟩ ?_
    · rintro t A w1 Q K hsz hts hu hbf haf hC hK ⟨e2, -⟩
      replace e2 : A.tmps[2]?.getD undef = .pointer (some ⟨w.heap.size, 0, none⟩) := e2
      simp [go_sem, e2]
      exact hK _ _ rfl (hC.other 0 39 _ (by decide) (by decide))
    · rintro t A w1 Q K hsz hts hu hbf haf hC hK ⟨e39, -⟩
      replace e39 : A.tmps[39]?.getD undef = .pointer (some ⟨w.heap.size, 0, none⟩) := e39
      have yb := (HX.out.below (hC.pre (haf 29 _ rfl (by kernel_rfl))).1 hXl).cell 0
      simp at yb
      simp [go_sem, e39, yb]
      exact hK _ _ rfl (hC.other 1 40 _ (by decide) (by decide))
    · rintro t A w1 Q K hsz hts hu hbf haf hC hK ⟨e10, -⟩
      replace e10 : A.tmps[10]?.getD undef = .slice (some ⟨b, o, none⟩) [x0, x1, x2, x3, x4, x5, x6, x7].length cp := e10
      simp [go_sem, e10]
      exact hK _ _ rfl (hC.other 2 41 _ (by decide) (by decide))
    · rintro t A w1 Q K hsz hts hu hbf haf hC hK ⟨e41, -⟩
      replace e41 : A.tmps[41]?.getD undef = .slice (some ⟨b, o, none⟩) [x0, x1, x2, x3, x4, x5, x6, x7].length cp := e41
      simp [go_sem, e41]
      exact hK _ _ rfl (hC.other 3 42 _ (by decide) (by decide))
    · rintro t A w1 Q K hsz hts hu hbf haf hC hK ⟨e42, -⟩
      replace e42 : A.tmps[42]?.getD undef = .pointer (some ⟨b, o, none⟩) := e42
      have yb := ((hC.pre (haf 29 _ rfl (by kernel_rfl))).1.cell (p := ⟨b, o, none⟩) hbl).trans c0
      simp [go_sem, e42, yb]
      exact hK _ _ rfl (hC.other 4 43 _ (by decide) (by decide))
    · rintro t A w1 Q K hsz hts hu hbf haf hC hK ⟨e10, -⟩
      replace e10 : A.tmps[10]?.getD undef = .slice (some ⟨b, o, none⟩) [x0, x1, x2, x3, x4, x5, x6, x7].length cp := e10
      simp [go_sem, e10]
      exact hK _ _ rfl (hC.other 5 44 _ (by decide) (by decide))
    · rintro t A w1 Q K hsz hts hu hbf haf hC hK ⟨e44, -⟩
      replace e44 : A.tmps[44]?.getD undef = .slice (some ⟨b, o, none⟩) [x0, x1, x2, x3, x4, x5, x6, x7].length cp := e44
      simp [go_sem, e44]
      exact hK _ _ rfl (hC.other 6 45 _ (by decide) (by decide))
    · rintro t A w1 Q K hsz hts hu hbf haf hC hK ⟨e45, -⟩
      replace e45 : A.tmps[45]?.getD undef = .pointer (some ⟨b, o + 1, none⟩) := e45
      have yb := ((hC.pre (haf 29 _ rfl (by kernel_rfl))).1.cell (p := ⟨b, o + 1, none⟩) hbl).trans c1
      simp [go_sem, e45, yb]
      exact hK _ _ rfl (hC.other 7 46 _ (by decide) (by decide))
    · rintro t A w1 Q K hsz hts hu hbf haf hC hK ⟨e43, e46, -⟩
      replace e43 : A.tmps[43]?.getD undef = .int .i64 x0 := e43
      replace e46 : A.tmps[46]?.getD undef = .int .i64 x1 := e46
      simp [go_sem, e43, e46]
      exact hK _ _ rfl (hC.other 8 47 _ (by decide) (by decide))
    · rintro t A w1 Q K hsz hts hu hbf haf hC hK ⟨e10, -⟩
      replace e10 : A.tmps[10]?.getD undef = .slice (some ⟨b, o, none⟩) [x0, x1, x2, x3, x4, x5, x6, x7].length cp := e10
      simp [go_sem, e10]
      exact hK _ _ rfl (hC.other 9 48 _ (by decide) (by decide))
    · rintro t A w1 Q K hsz hts hu hbf haf hC hK ⟨e48, -⟩
      replace e48 : A.tmps[48]?.getD undef = .slice (some ⟨b, o, none⟩) [x0, x1, x2, x3, x4, x5, x6, x7].length cp := e48
      simp [go_sem, e48]
      exact hK _ _ rfl (hC.other 10 49 _ (by decide) (by decide))
    · rintro t A w1 Q K hsz hts hu hbf haf hC hK ⟨e49, -⟩
      replace e49 : A.tmps[49]?.getD undef = .pointer (some ⟨b, o + 2, none⟩) := e49
      have yb := ((hC.pre (haf 29 _ rfl (by kernel_rfl))).1.cell (p := ⟨b, o + 2, none⟩) hbl).trans c2
      simp [go_sem, e49, yb]
      exact hK _ _ rfl (hC.other 11 50 _ (by decide) (by decide))
    · rintro t A w1 Q K hsz hts hu hbf haf hC hK ⟨e10, -⟩
      replace e10 : A.tmps[10]?.getD undef = .slice (some ⟨b, o, none⟩) [x0, x1, x2, x3, x4, x5, x6, x7].length cp := e10
      simp [go_sem, e10]
      exact hK _ _ rfl (hC.other 12 51 _ (by decide) (by decide))
    · rintro t A w1 Q K hsz hts hu hbf haf hC hK ⟨e51, -⟩
      replace e51 : A.tmps[51]?.getD undef = .slice (some ⟨b, o, none⟩) [x0, x1, x2, x3, x4, x5, x6, x7].length cp := e51
      simp [go_sem, e51]
      exact hK _ _ rfl (hC.other 13 52 _ (by decide) (by decide))
    · rintro t A w1 Q K hsz hts hu hbf haf hC hK ⟨e52, -⟩
      replace e52 : A.tmps[52]?.getD undef = .pointer (some ⟨b, o + 3, none⟩) := e52
      have yb := ((hC.pre (haf 29 _ rfl (by kernel_rfl))).1.cell (p := ⟨b, o + 3, none⟩) hbl).trans c3
      simp [go_sem, e52, yb]
      exact hK _ _ rfl (hC.other 14 53 _ (by decide) (by decide))
    · rintro t A w1 Q K hsz hts hu hbf haf hC hK ⟨e10, -⟩
      replace e10 : A.tmps[10]?.getD undef = .slice (some ⟨b, o, none⟩) [x0, x1, x2, x3, x4, x5, x6, x7].length cp := e10
      simp [go_sem, e10]
      exact hK _ _ rfl (hC.other 15 54 _ (by decide) (by decide))
    · rintro t A w1 Q K hsz hts hu hbf haf hC hK ⟨e54, -⟩
      replace e54 : A.tmps[54]?.getD undef = .slice (some ⟨b, o, none⟩) [x0, x1, x2, x3, x4, x5, x6, x7].length cp := e54
      simp [go_sem, e54]
      exact hK _ _ rfl (hC.other 16 55 _ (by decide) (by decide))
    · rintro t A w1 Q K hsz hts hu hbf haf hC hK ⟨e55, -⟩
      replace e55 : A.tmps[55]?.getD undef = .pointer (some ⟨b, o + 4, none⟩) := e55
      have yb := ((hC.pre (haf 29 _ rfl (by kernel_rfl))).1.cell (p := ⟨b, o + 4, none⟩) hbl).trans c4
      simp [go_sem, e55, yb]
      exact hK _ _ rfl (hC.other 17 56 _ (by decide) (by decide))
    · rintro t A w1 Q K hsz hts hu hbf haf hC hK ⟨e10, -⟩
      replace e10 : A.tmps[10]?.getD undef = .slice (some ⟨b, o, none⟩) [x0, x1, x2, x3, x4, x5, x6, x7].length cp := e10
      simp [go_sem, e10]
      exact hK _ _ rfl (hC.other 18 57 _ (by decide) (by decide))
    · rintro t A w1 Q K hsz hts hu hbf haf hC hK ⟨e57, -⟩
      replace e57 : A.tmps[57]?.getD undef = .slice (some ⟨b, o, none⟩) [x0, x1, x2, x3, x4, x5, x6, x7].length cp := e57
      simp [go_sem, e57]
      exact hK _ _ rfl (hC.other 19 58 _ (by decide) (by decide))
    · rintro t A w1 Q K hsz hts hu hbf haf hC hK ⟨e58, -⟩
      replace e58 : A.tmps[58]?.getD undef = .pointer (some ⟨b, o + 5, none⟩) := e58
      have yb := ((hC.pre (haf 29 _ rfl (by kernel_rfl))).1.cell (p := ⟨b, o + 5, none⟩) hbl).trans c5
      simp [go_sem, e58, yb]
      exact hK _ _ rfl (hC.other 20 59 _ (by decide) (by decide))
    · rintro t A w1 Q K hsz hts hu hbf haf hC hK ⟨e10, -⟩
      replace e10 : A.tmps[10]?.getD undef = .slice (some ⟨b, o, none⟩) [x0, x1, x2, x3, x4, x5, x6, x7].length cp := e10
      simp [go_sem, e10]
      exact hK _ _ rfl (hC.other 21 60 _ (by decide) (by decide))
    · rintro t A w1 Q K hsz hts hu hbf haf hC hK ⟨e60, -⟩
      replace e60 : A.tmps[60]?.getD undef = .slice (some ⟨b, o, none⟩) [x0, x1, x2, x3, x4, x5, x6, x7].length cp := e60
      simp [go_sem, e60]
      exact hK _ _ rfl (hC.other 22 61 _ (by decide) (by decide))
    · rintro t A w1 Q K hsz hts hu hbf haf hC hK ⟨e61, -⟩
      replace e61 : A.tmps[61]?.getD undef = .pointer (some ⟨b, o + 6, none⟩) := e61
      have yb := ((hC.pre (haf 29 _ rfl (by kernel_rfl))).1.cell (p := ⟨b, o + 6, none⟩) hbl).trans c6
      simp [go_sem, e61, yb]
      exact hK _ _ rfl (hC.other 23 62 _ (by decide) (by decide))
    · rintro t A w1 Q K hsz hts hu hbf haf hC hK ⟨e10, -⟩
      replace e10 : A.tmps[10]?.getD undef = .slice (some ⟨b, o, none⟩) [x0, x1, x2, x3, x4, x5, x6, x7].length cp := e10
      simp [go_sem, e10]
      exact hK _ _ rfl (hC.other 24 63 _ (by decide) (by decide))
    · rintro t A w1 Q K hsz hts hu hbf haf hC hK ⟨e63, -⟩
      replace e63 : A.tmps[63]?.getD undef = .slice (some ⟨b, o, none⟩) [x0, x1, x2, x3, x4, x5, x6, x7].length cp := e63
      simp [go_sem, e63]
      exact hK _ _ rfl (hC.other 25 64 _ (by decide) (by decide))
    · rintro t A w1 Q K hsz hts hu hbf haf hC hK ⟨e64, -⟩
      replace e64 : A.tmps[64]?.getD undef = .pointer (some ⟨b, o + 7, none⟩) := e64
      have yb := ((hC.pre (haf 29 _ rfl (by kernel_rfl))).1.cell (p := ⟨b, o + 7, none⟩) hbl).trans c7
      simp [go_sem, e64, yb]
      exact hK _ _ rfl (hC.other 26 65 _ (by decide) (by decide))
    · rintro t A w1 Q K hsz hts hu hbf haf hC hK ⟨e47, e50, e53, e56, e59, e62, e65, -⟩
      replace e47 : A.tmps[47]?.getD undef = .agg #[.int .i64 x0, .int .i64 x1] := e47
      replace e50 : A.tmps[50]?.getD undef = .int .i64 x2 := e50
      replace e53 : A.tmps[53]?.getD undef = .int .i64 x3 := e53
      replace e56 : A.tmps[56]?.getD undef = .int .i64 x4 := e56
      replace e59 : A.tmps[59]?.getD undef = .int .i64 x5 := e59
      replace e62 : A.tmps[62]?.getD undef = .int .i64 x6 := e62
      replace e65 : A.tmps[65]?.getD undef = .int .i64 x7 := e65
      simp [go_sem, e47, e50, e53, e56, e59, e62, e65]
      exact hK _ _ rfl (hC.other 27 66 _ (by decide) (by decide))
    · rintro t A w1 Q K hsz hts hu hbf haf hC hK ⟨e66, -⟩
      replace e66 : A.tmps[66]?.getD undef = .agg #[.int .i64 x0, .int .i64 x1, .int .i64 x2, .int .i64 x3, .int .i64 x4, .int .i64 x5, .int .i64 x6, .int .i64 x7] := e66
      simp [go_sem, e66]
      exact hK _ _ trivial (hC.new hu (haf 29 _ rfl (by kernel_rfl)) (haf 31 _ rfl (by kernel_rfl)) (by decide) (by rw [hts]; show 67 < 100; decide) (news := [.int .i64 x0, .int .i64 x1, .int .i64 x2, .int .i64 x3, .int .i64 x4, .int .i64 x5, .int .i64 x6, .int .i64 x7]) rfl)
    · rintro t A w1 Q K hsz hts hu hbf haf hC hK ⟨e40, e67, -⟩
      replace e40 : A.tmps[40]?.getD undef = (.slice aw c.works.length cw) := e40
      clear e67
      obtain ⟨hp, hy⟩ := hC.pre (getD_tf hu).1
      obtain ⟨bb, hy, hbk⟩ := hy (hbf 28 (by kernel_rfl))
      replace hy : A.tmps[67]?.getD undef = .slice (some ⟨bb, 0, none⟩) 1 1 := hy
      replace hbk : Blk w1 bb #[.int .i64 x0, .int .i64 x1, .int .i64 x2, .int .i64 x3, .int .i64 x4, .int .i64 x5, .int .i64 x6, .int .i64 x7] 74 := hbk
      refine oper_append_at rfl (.tmp 40) (.tmp 67) 22 rfl B 74 inf74 _ 8 64 Tryz.underlying22 I1.out I2.out I3.out I4.out (by rfl) (by omega) (.slice aw c.works.length cw) c.works.length (flat 8 Wk.cell c.works) (by simp [go_sem, e40]) (H2W.out.keep hp) ⟨bb, 0, none⟩ 1 1 [.int .i64 x0, .int .i64 x1, .int .i64 x2, .int .i64 x3, .int .i64 x4, .int .i64 x5, .int .i64 x6, .int .i64 x7] (by simp [go_sem, hy]) (by rfl) (fun q u hq => by rw [addmid, Nat.zero_add, hbk.cell]; simpa using hq) (by intro u hu; simp at hu; rcases hu with rfl | rfl | rfl | rfl | rfl | rfl | rfl | rfl <;> rfl) (by unfold maxLen; omega) (by omega) (by have := hp.size; have := HB.out.size; omega) ?_
      intro z2 w3 hown hgrow hfr
      exact hK z2 w3 trivial (hC.app hu (haf 31 _ rfl (by kernel_rfl)) (by decide) (by rw [hts]; show 68 < 100; decide) HX.out hvX (news := [.int .i64 x0, .int .i64 x1, .int .i64 x2, .int .i64 x3, .int .i64 x4, .int .i64 x5, .int .i64 x6, .int .i64 x7]) rfl hown hgrow hfr)
    · rintro t A w1 Q K hsz hts hu hbf haf hC hK ⟨e2, -⟩
      replace e2 : A.tmps[2]?.getD undef = .pointer (some ⟨w.heap.size, 0, none⟩) := e2
      simp [go_sem, e2]
      exact hK _ _ rfl (hC.other 30 69 _ (by decide) (by decide))
    · rintro t A w1 Q K hsz hts hu hbf haf hC hK ⟨e69, e68, -⟩
      replace e69 : A.tmps[69]?.getD undef = .pointer (some ⟨w.heap.size, 0, none⟩) := e69
      clear e68
      have hA := hbf 29 (by kernel_rfl)
      have hq := hC.mid hA (getD_tf hu).1
      obtain ⟨a9, c9, hz, -⟩ := hq.own.form
      have e68 : A.tmps[68]?.getD undef = .slice a9 (c.works ++ [(wkL [x0, x1, x2, x3, x4, x5, x6, x7])]).length c9 := hz
      have X := hq.box.cell 0
      have F := hq.box.frozen 0
      simp at X
      have hl := hC.last (f := 0) hu hA (by decide) hvX hXl (u := undef) hz
      clear hq hC hz
      simp [go_sem, e69, e68, X, F]
      refine hK undef _ trivial ?_
      simpa using hl
    · intro a' w3 ha' hC'
      refine fun v0 h0 v1 h1 v2 h2 v3 h3 v4 h4 v5 h5 v6 h6 v7 h7 v8 h8 v9 h9 v10 h10 v11 h11 v12 h12 v13 h13 v14 h14 v15 h15 v16 h16 v17 h17 v18 h18 v19 h19 v20 h20 v21 h21 v22 h22 v23 h23 v24 h24 v25 h25 v26 h26 v27 h27 v28 h28 v29 h29 v30 h30 => ?_
      intro he
      subst he
      have hq := hC'.fin (by simp)
      simp [Act.put, ev] at hq
      clear hC' ha' h0 h1 h2 h3 h4 h5 h6 h7 h8 h9 h10 h11 h12 h13 h14 h15 h16 h17 h18 h19 h20 h21 h22 h23 h24 h25 h26 h27 h28 h29 h30
      obtain ⟨a9, c9, rfl, -⟩ := hq.own.form
      have hX3 : Blk w3 w.heap.size #[(.slice a9 (c.works ++ [(wkL [x0, x1, x2, x3, x4, x5, x6, x7])]).length c9), (.slice ag c.groups.length cg), .int .i64 c.start, .int .i64 c.calm, .int .i64 c.idle, .int .i64 c.back] 25 := hq.box
      have hZ3 := HZ.out.only hq.only (fun e => e.elim (fun e => by have := HBW.out _ e; omega) (fun e => by omega))
      have hO3 := H2.out.G.only hq.only (fun k hk e => e.elim (fun e => H2.out.ne k e hk) (fun e => HGX.out (e ▸ hk)))
      have HQ := hid hq
      have HX3 := hid hX3
      have HZ3 := hid hZ3
      have HO3 := hid hO3
      have x0c := hX3.cell
      have z0c := hZ3.cell
      have z0f := hZ3.frozen
      have z0l := hZ3.lt
      have x0l := hX3.lt
      simp only [Act.put, List.setIfInBounds_toArray, List.set_cons_zero, List.set_cons_succ]
      have HH := hid (oc_work HB.out H2.out HBW.out HBG.out hq (Nat.le_refl _) hO3)
      clear hq hX3 hZ3 hO3 hvX
      go_wp2
      obtain ⟨g1, g2, g3, g4⟩ := HH.out
      refine bodyPost_ret (v := .tuple #[cvl (.slice a9 (c.works ++ [(wkL [x0, x1, x2, x3, x4, x5, x6, x7])]).length c9) (.slice ag c.groups.length cg) { c with works := c.works ++ [wkL [x0, x1, x2, x3, x4, x5, x6, x7]] }, .bool true]) (by simp [results, Tryz.results18, go_sem, *]) rfl ⟨(.slice a9 (c.works ++ [(wkL [x0, x1, x2, x3, x4, x5, x6, x7])]).length c9), (.slice ag c.groups.length cg), ?_, by rw [hlc.out]; rfl, g2, g3.far6 (by omega) _ _ _ _ _ _⟩
      rw [hlc.out]
      refine OC.far6 g1 (fun k hk => ?_) (fun k hk => ?_) _ _ _ _ _ _
      · have := g4 k hk; omega
      · have := HBG.out k hk; omega
  · rcases hcase with rfl | ⟨a, rfl, hra⟩
    · have HRA := hid hn1
      cases h2 : r2 with
      | none =>
          subst h2
          have hno : Hid (lineC c line = none) := by rw [Hid, lineC, hn1]; simp [lineN, HR2.out]
          have x0c := HX.out.cell
          have z0c := HZ.out.cell
          have z0f := HZ.out.frozen
          clear HV1 HV2
          go_wp2
          refine bodyPost_ret (v := .tuple #[cvl (.slice aw c.works.length cw) (.slice ag c.groups.length cg) c, .bool false]) (by simp [results, Tryz.results18, go_sem, *]) rfl ⟨(.slice aw c.works.length cw), (.slice ag c.groups.length cg), ?_, by rw [hno.out]; rfl, fun k hk => .inl hk, (Only.of_below HB.out).far6 (by omega) _ _ _ _ _ _⟩
          rw [hno.out]
          exact OC.far6 H2.out (fun k hk => by have := HBW.out k hk; omega) (fun k hk => by have := HBG.out k hk; omega) _ _ _ _ _ _
      | some a2 =>
          subst h2
          cases hx : readB a2 5 with
          | none =>
              have hsn : (readB a2 5).isSome = false := by rw [hx]; rfl
              have hno : Hid (lineC c line = none) := by rw [Hid, lineC, hn1]; simp [lineN, HR2.out, hx]
              have x0c := HX.out.cell
              have z0c := HZ.out.cell
              have z0f := HZ.out.frozen
              have HX9 := hid hx
              clear HV1 HV2 hx
              go_wp2
              refine bodyPost_ret (v := .tuple #[cvl (.slice aw c.works.length cw) (.slice ag c.groups.length cg) c, .bool false]) (by simp [results, Tryz.results18, go_sem, *]) rfl ⟨(.slice aw c.works.length cw), (.slice ag c.groups.length cg), ?_, by rw [hno.out]; rfl, fun k hk => .inl hk, (Only.of_below HB.out).far6 (by omega) _ _ _ _ _ _⟩
              rw [hno.out]
              exact OC.far6 H2.out (fun k hk => by have := HBW.out k hk; omega) (fun k hk => by have := HBG.out k hk; omega) _ _ _ _ _ _
          | some xs =>
              have hlc : Hid (lineC c line = some { c with groups := c.groups ++ [gpL xs] }) := by rw [Hid, lineC, hn1]; simp [lineN, HR2.out, hx]
              obtain ⟨x0, x1, x2, x3, x4, rfl⟩ := five_of ((readB_iff (by omega)).1 hx).1
              obtain ⟨ad, cp, rfl, hI⟩ := HV2.out _ hx
              obtain ⟨b, o, rfl, hbl, c0⟩ := hI.at 0 (by simp)
              replace c0 : w2.cell? ⟨b, o, none⟩ = some (.int .i64 x0) := c0
              obtain ⟨b', o', he, _, c1⟩ := hI.at 1 (by simp)
              cases he
              replace c1 : w2.cell? ⟨b, o + 1, none⟩ = some (.int .i64 x1) := c1
              obtain ⟨b', o', he, _, c2⟩ := hI.at 2 (by simp)
              cases he
              replace c2 : w2.cell? ⟨b, o + 2, none⟩ = some (.int .i64 x2) := c2
              obtain ⟨b', o', he, _, c3⟩ := hI.at 3 (by simp)
              cases he
              replace c3 : w2.cell? ⟨b, o + 3, none⟩ = some (.int .i64 x3) := c3
              obtain ⟨b', o', he, _, c4⟩ := hI.at 4 (by simp)
              cases he
              replace c4 : w2.cell? ⟨b, o + 4, none⟩ = some (.int .i64 x4) := c4
              have hsm : (readB a2 5).isSome = true := by rw [hx]; rfl
              obtain ⟨inf76, i1, i2, i3, i4⟩ := info76
              have I1 := hid i1
              have I2 := hid i2
              have I3 := hid i3
              have I4 := hid i4
              clear i1 i2 i3 i4 hI HV1 HV2 hx
              go_wp2_with fail
              have H2G := hid H2.out.G
              have hvX := HGX.out
              refine wp_region_tc [[(2, none)], [(76, some 0)], [(12, none)], [(78, some 2)], [(79, some 3)], [(12, none)], [(81, some 5)], [(82, some 6)], [(80, some 4), (83, some 7)], [(12, none)], [(85, some 9)], [(86, some 10)], [(12, none)], [(88, some 12)], [(89, some 13)], [(12, none)], [(91, some 15)], [(92, some 16)], [(84, some 8), (87, some 11), (90, some 14), (93, some 17)], [(94, some 18)], [(77, some 1), (95, some 19)], [(2, none)], [(97, some 21), (96, some 20)]]
                (fun i v => match i with | 0 => v = .pointer (some ⟨w.heap.size, 1, none⟩) | 1 => v = .slice ag c.groups.length cg | 2 => v = .slice (some ⟨b, o, none⟩) [x0, x1, x2, x3, x4].length cp | 3 => v = .pointer (some ⟨b, o, none⟩) | 4 => v = .int .i64 x0 | 5 => v = .slice (some ⟨b, o, none⟩) [x0, x1, x2, x3, x4].length cp | 6 => v = .pointer (some ⟨b, o + 1, none⟩) | 7 => v = .int .i64 x1 | 8 => v = .agg #[.int .i64 x0, .int .i64 x1] | 9 => v = .slice (some ⟨b, o, none⟩) [x0, x1, x2, x3, x4].length cp | 10 => v = .pointer (some ⟨b, o + 2, none⟩) | 11 => v = .int .i64 x2 | 12 => v = .slice (some ⟨b, o, none⟩) [x0, x1, x2, x3, x4].length cp | 13 => v = .pointer (some ⟨b, o + 3, none⟩) | 14 => v = .int .i64 x3 | 15 => v = .slice (some ⟨b, o, none⟩) [x0, x1, x2, x3, x4].length cp | 16 => v = .pointer (some ⟨b, o + 4, none⟩) | 17 => v = .int .i64 x4 | 18 => v = .agg #[.int .i64 x0, .int .i64 x1, .int .i64 x2, .int .i64 x3, .int .i64 x4] | 19 => True | 20 => True | 21 => v = .pointer (some ⟨w.heap.size, 1, none⟩) | _ => True)
                (AP 5 Gp.cell 76 B w2 (.slice ag c.groups.length cg) c.groups (gpL [x0, x1, x2, x3, x4]) w.heap.size 25 #[(.slice aw c.works.length cw), (.slice ag c.groups.length cg), .int .i64 c.start, .int .i64 c.calm, .int .i64 c.idle, .int .i64 c.back] 1 19 20 22 95 96) 100 rfl (by kernel_rfl) (AP.start (by go_grown)) ⟨?_, ?_, ?_, ?_, ?_, ?_, ?_, ?_, ?_, ?_, ?_, ?_, ?_, ?_, ?_, ?_, ?_, ?_, ?_, ?_, ?_, ?_, ?_, trivial⟩ ?_
              · rintro t A w1 Q K hsz hts hu hbf haf hC hK ⟨e2, -⟩
                replace e2 : A.tmps[2]?.getD undef = .pointer (some ⟨w.heap.size, 0, none⟩) := e2
                simp [go_sem, e2]
                exact hK _ _ rfl (hC.other 0 76 _ (by decide) (by decide))
              · rintro t A w1 Q K hsz hts hu hbf haf hC hK ⟨e76, -⟩
                replace e76 : A.tmps[76]?.getD undef = .pointer (some ⟨w.heap.size, 1, none⟩) := e76
                have yb := (HX.out.below (hC.pre (haf 20 _ rfl (by kernel_rfl))).1 hXl).cell 1
                simp at yb
                simp [go_sem, e76, yb]
                exact hK _ _ rfl (hC.other 1 77 _ (by decide) (by decide))
              · rintro t A w1 Q K hsz hts hu hbf haf hC hK ⟨e12, -⟩
                replace e12 : A.tmps[12]?.getD undef = .slice (some ⟨b, o, none⟩) [x0, x1, x2, x3, x4].length cp := e12
                simp [go_sem, e12]
                exact hK _ _ rfl (hC.other 2 78 _ (by decide) (by decide))
              · rintro t A w1 Q K hsz hts hu hbf haf hC hK ⟨e78, -⟩
                replace e78 : A.tmps[78]?.getD undef = .slice (some ⟨b, o, none⟩) [x0, x1, x2, x3, x4].length cp := e78
                simp [go_sem, e78]
                exact hK _ _ rfl (hC.other 3 79 _ (by decide) (by decide))
              · rintro t A w1 Q K hsz hts hu hbf haf hC hK ⟨e79, -⟩
                replace e79 : A.tmps[79]?.getD undef = .pointer (some ⟨b, o, none⟩) := e79
                have yb := ((hC.pre (haf 20 _ rfl (by kernel_rfl))).1.cell (p := ⟨b, o, none⟩) hbl).trans c0
                simp [go_sem, e79, yb]
                exact hK _ _ rfl (hC.other 4 80 _ (by decide) (by decide))
              · rintro t A w1 Q K hsz hts hu hbf haf hC hK ⟨e12, -⟩
                replace e12 : A.tmps[12]?.getD undef = .slice (some ⟨b, o, none⟩) [x0, x1, x2, x3, x4].length cp := e12
                simp [go_sem, e12]
                exact hK _ _ rfl (hC.other 5 81 _ (by decide) (by decide))
              · rintro t A w1 Q K hsz hts hu hbf haf hC hK ⟨e81, -⟩
                replace e81 : A.tmps[81]?.getD undef = .slice (some ⟨b, o, none⟩) [x0, x1, x2, x3, x4].length cp := e81
                simp [go_sem, e81]
                exact hK _ _ rfl (hC.other 6 82 _ (by decide) (by decide))
              · rintro t A w1 Q K hsz hts hu hbf haf hC hK ⟨e82, -⟩
                replace e82 : A.tmps[82]?.getD undef = .pointer (some ⟨b, o + 1, none⟩) := e82
                have yb := ((hC.pre (haf 20 _ rfl (by kernel_rfl))).1.cell (p := ⟨b, o + 1, none⟩) hbl).trans c1
                simp [go_sem, e82, yb]
                exact hK _ _ rfl (hC.other 7 83 _ (by decide) (by decide))
              · rintro t A w1 Q K hsz hts hu hbf haf hC hK ⟨e80, e83, -⟩
                replace e80 : A.tmps[80]?.getD undef = .int .i64 x0 := e80
                replace e83 : A.tmps[83]?.getD undef = .int .i64 x1 := e83
                simp [go_sem, e80, e83]
                exact hK _ _ rfl (hC.other 8 84 _ (by decide) (by decide))
              · rintro t A w1 Q K hsz hts hu hbf haf hC hK ⟨e12, -⟩
                replace e12 : A.tmps[12]?.getD undef = .slice (some ⟨b, o, none⟩) [x0, x1, x2, x3, x4].length cp := e12
                simp [go_sem, e12]
                exact hK _ _ rfl (hC.other 9 85 _ (by decide) (by decide))
              · rintro t A w1 Q K hsz hts hu hbf haf hC hK ⟨e85, -⟩
                replace e85 : A.tmps[85]?.getD undef = .slice (some ⟨b, o, none⟩) [x0, x1, x2, x3, x4].length cp := e85
                simp [go_sem, e85]
                exact hK _ _ rfl (hC.other 10 86 _ (by decide) (by decide))
              · rintro t A w1 Q K hsz hts hu hbf haf hC hK ⟨e86, -⟩
                replace e86 : A.tmps[86]?.getD undef = .pointer (some ⟨b, o + 2, none⟩) := e86
                have yb := ((hC.pre (haf 20 _ rfl (by kernel_rfl))).1.cell (p := ⟨b, o + 2, none⟩) hbl).trans c2
                simp [go_sem, e86, yb]
                exact hK _ _ rfl (hC.other 11 87 _ (by decide) (by decide))
              · rintro t A w1 Q K hsz hts hu hbf haf hC hK ⟨e12, -⟩
                replace e12 : A.tmps[12]?.getD undef = .slice (some ⟨b, o, none⟩) [x0, x1, x2, x3, x4].length cp := e12
                simp [go_sem, e12]
                exact hK _ _ rfl (hC.other 12 88 _ (by decide) (by decide))
              · rintro t A w1 Q K hsz hts hu hbf haf hC hK ⟨e88, -⟩
                replace e88 : A.tmps[88]?.getD undef = .slice (some ⟨b, o, none⟩) [x0, x1, x2, x3, x4].length cp := e88
                simp [go_sem, e88]
                exact hK _ _ rfl (hC.other 13 89 _ (by decide) (by decide))
              · rintro t A w1 Q K hsz hts hu hbf haf hC hK ⟨e89, -⟩
                replace e89 : A.tmps[89]?.getD undef = .pointer (some ⟨b, o + 3, none⟩) := e89
                have yb := ((hC.pre (haf 20 _ rfl (by kernel_rfl))).1.cell (p := ⟨b, o + 3, none⟩) hbl).trans c3
                simp [go_sem, e89, yb]
                exact hK _ _ rfl (hC.other 14 90 _ (by decide) (by decide))
              · rintro t A w1 Q K hsz hts hu hbf haf hC hK ⟨e12, -⟩
                replace e12 : A.tmps[12]?.getD undef = .slice (some ⟨b, o, none⟩) [x0, x1, x2, x3, x4].length cp := e12
                simp [go_sem, e12]
                exact hK _ _ rfl (hC.other 15 91 _ (by decide) (by decide))
              · rintro t A w1 Q K hsz hts hu hbf haf hC hK ⟨e91, -⟩
                replace e91 : A.tmps[91]?.getD undef = .slice (some ⟨b, o, none⟩) [x0, x1, x2, x3, x4].length cp := e91
                simp [go_sem, e91]
                exact hK _ _ rfl (hC.other 16 92 _ (by decide) (by decide))
              · rintro t A w1 Q K hsz hts hu hbf haf hC hK ⟨e92, -⟩
                replace e92 : A.tmps[92]?.getD undef = .pointer (some ⟨b, o + 4, none⟩) := e92
                have yb := ((hC.pre (haf 20 _ rfl (by kernel_rfl))).1.cell (p := ⟨b, o + 4, none⟩) hbl).trans c4
                simp [go_sem, e92, yb]
                exact hK _ _ rfl (hC.other 17 93 _ (by decide) (by decide))
              · rintro t A w1 Q K hsz hts hu hbf haf hC hK ⟨e84, e87, e90, e93, -⟩
                replace e84 : A.tmps[84]?.getD undef = .agg #[.int .i64 x0, .int .i64 x1] := e84
                replace e87 : A.tmps[87]?.getD undef = .int .i64 x2 := e87
                replace e90 : A.tmps[90]?.getD undef = .int .i64 x3 := e90
                replace e93 : A.tmps[93]?.getD undef = .int .i64 x4 := e93
                simp [go_sem, e84, e87, e90, e93]
                exact hK _ _ rfl (hC.other 18 94 _ (by decide) (by decide))
              · rintro t A w1 Q K hsz hts hu hbf haf hC hK ⟨e94, -⟩
                replace e94 : A.tmps[94]?.getD undef = .agg #[.int .i64 x0, .int .i64 x1, .int .i64 x2, .int .i64 x3, .int .i64 x4] := e94
                simp [go_sem, e94]
                exact hK _ _ trivial (hC.new hu (haf 20 _ rfl (by kernel_rfl)) (haf 22 _ rfl (by kernel_rfl)) (by decide) (by rw [hts]; show 95 < 100; decide) (news := [.int .i64 x0, .int .i64 x1, .int .i64 x2, .int .i64 x3, .int .i64 x4]) rfl)
              · rintro t A w1 Q K hsz hts hu hbf haf hC hK ⟨e77, e95, -⟩
                replace e77 : A.tmps[77]?.getD undef = (.slice ag c.groups.length cg) := e77
                clear e95
                obtain ⟨hp, hy⟩ := hC.pre (getD_tf hu).1
                obtain ⟨bb, hy, hbk⟩ := hy (hbf 19 (by kernel_rfl))
                replace hy : A.tmps[95]?.getD undef = .slice (some ⟨bb, 0, none⟩) 1 1 := hy
                replace hbk : Blk w1 bb #[.int .i64 x0, .int .i64 x1, .int .i64 x2, .int .i64 x3, .int .i64 x4] 76 := hbk
                refine oper_append_at rfl (.tmp 77) (.tmp 95) 23 rfl B 76 inf76 _ 5 40 Tryz.underlying23 I1.out I2.out I3.out I4.out (by rfl) (by omega) (.slice ag c.groups.length cg) c.groups.length (flat 5 Gp.cell c.groups) (by simp [go_sem, e77]) (H2G.out.keep hp) ⟨bb, 0, none⟩ 1 1 [.int .i64 x0, .int .i64 x1, .int .i64 x2, .int .i64 x3, .int .i64 x4] (by simp [go_sem, hy]) (by rfl) (fun q u hq => by rw [addmid, Nat.zero_add, hbk.cell]; simpa using hq) (by intro u hu; simp at hu; rcases hu with rfl | rfl | rfl | rfl | rfl <;> rfl) (by unfold maxLen; omega) (by omega) (by have := hp.size; have := HB.out.size; omega) ?_
                intro z2 w3 hown hgrow hfr
                exact hK z2 w3 trivial (hC.app hu (haf 22 _ rfl (by kernel_rfl)) (by decide) (by rw [hts]; show 96 < 100; decide) HX.out hvX (news := [.int .i64 x0, .int .i64 x1, .int .i64 x2, .int .i64 x3, .int .i64 x4]) rfl hown hgrow hfr)
              · rintro t A w1 Q K hsz hts hu hbf haf hC hK ⟨e2, -⟩
                replace e2 : A.tmps[2]?.getD undef = .pointer (some ⟨w.heap.size, 0, none⟩) := e2
                simp [go_sem, e2]
                exact hK _ _ rfl (hC.other 21 97 _ (by decide) (by decide))
              · rintro t A w1 Q K hsz hts hu hbf haf hC hK ⟨e97, e96, -⟩
                replace e97 : A.tmps[97]?.getD undef = .pointer (some ⟨w.heap.size, 1, none⟩) := e97
                clear e96
                have hA := hbf 20 (by kernel_rfl)
                have hq := hC.mid hA (getD_tf hu).1
                obtain ⟨a9, c9, hz, -⟩ := hq.own.form
                have e68 : A.tmps[96]?.getD undef = .slice a9 (c.groups ++ [(gpL [x0, x1, x2, x3, x4])]).length c9 := hz
                have X := hq.box.cell 1
                have F := hq.box.frozen 1
                simp at X
                have hl := hC.last (f := 1) hu hA (by decide) hvX hXl (u := undef) hz
                clear hq hC hz
                simp [go_sem, e97, e68, X, F]
                refine hK undef _ trivial ?_
                simpa using hl
              · intro a' w3 ha' hC'
                refine fun v0 h0 v1 h1 v2 h2 v3 h3 v4 h4 v5 h5 v6 h6 v7 h7 v8 h8 v9 h9 v10 h10 v11 h11 v12 h12 v13 h13 v14 h14 v15 h15 v16 h16 v17 h17 v18 h18 v19 h19 v20 h20 v21 h21 => ?_
                intro he
                subst he
                have hq := hC'.fin (by simp)
                simp [Act.put, ev] at hq
                clear hC' ha' h0 h1 h2 h3 h4 h5 h6 h7 h8 h9 h10 h11 h12 h13 h14 h15 h16 h17 h18 h19 h20 h21
                obtain ⟨a9, c9, rfl, -⟩ := hq.own.form
                have hX3 : Blk w3 w.heap.size #[(.slice aw c.works.length cw), (.slice a9 (c.groups ++ [(gpL [x0, x1, x2, x3, x4])]).length c9), .int .i64 c.start, .int .i64 c.calm, .int .i64 c.idle, .int .i64 c.back] 25 := hq.box
                have hZ3 := HZ.out.only hq.only (fun e => e.elim (fun e => by have := HBG.out _ e; omega) (fun e => by omega))
                have hO3 := H2.out.W.only hq.only (fun k hk e => e.elim (fun e => H2.out.ne k hk e) (fun e => HHX.out (e ▸ hk)))
                have HQ := hid hq
                have HX3 := hid hX3
                have HZ3 := hid hZ3
                have HO3 := hid hO3
                have x0c := hX3.cell
                have z0c := hZ3.cell
                have z0f := hZ3.frozen
                have z0l := hZ3.lt
                have x0l := hX3.lt
                simp only [Act.put, List.setIfInBounds_toArray, List.set_cons_zero, List.set_cons_succ]
                have HH := hid (oc_group HB.out H2.out HBW.out HBG.out hq (Nat.le_refl _) hO3)
                clear hq hX3 hZ3 hO3 hvX
                go_wp2
                obtain ⟨g1, g2, g3, g4⟩ := HH.out
                refine bodyPost_ret (v := .tuple #[cvl (.slice aw c.works.length cw) (.slice a9 (c.groups ++ [(gpL [x0, x1, x2, x3, x4])]).length c9) { c with groups := c.groups ++ [gpL [x0, x1, x2, x3, x4]] }, .bool true]) (by simp [results, Tryz.results18, go_sem, *]) rfl ⟨(.slice aw c.works.length cw), (.slice a9 (c.groups ++ [(gpL [x0, x1, x2, x3, x4])]).length c9), ?_, by rw [hlc.out]; rfl, g2, g3.far6 (by omega) _ _ _ _ _ _⟩
                rw [hlc.out]
                refine OC.far6 g1 (fun k hk => ?_) (fun k hk => ?_) _ _ _ _ _ _
                · have := HBW.out k hk; omega
                · have := g4 k hk; omega
    · have hrb : (readB a 8).isSome = false := by rw [hra]; rfl
      cases h2 : r2 with
      | none =>
          subst h2
          have hno : Hid (lineC c line = none) := by rw [Hid, lineC, hn1]; simp [lineN, HR2.out]
          have x0c := HX.out.cell
          have z0c := HZ.out.cell
          have z0f := HZ.out.frozen
          clear HV1 HV2
          go_wp2
          refine bodyPost_ret (v := .tuple #[cvl (.slice aw c.works.length cw) (.slice ag c.groups.length cg) c, .bool false]) (by simp [results, Tryz.results18, go_sem, *]) rfl ⟨(.slice aw c.works.length cw), (.slice ag c.groups.length cg), ?_, by rw [hno.out]; rfl, fun k hk => .inl hk, (Only.of_below HB.out).far6 (by omega) _ _ _ _ _ _⟩
          rw [hno.out]
          exact OC.far6 H2.out (fun k hk => by have := HBW.out k hk; omega) (fun k hk => by have := HBG.out k hk; omega) _ _ _ _ _ _
      | some a2 =>
          subst h2
          cases hx : readB a2 5 with
          | none =>
              have hsn : (readB a2 5).isSome = false := by rw [hx]; rfl
              have hno : Hid (lineC c line = none) := by rw [Hid, lineC, hn1]; simp [lineN, HR2.out, hx]
              have x0c := HX.out.cell
              have z0c := HZ.out.cell
              have z0f := HZ.out.frozen
              have HX9 := hid hx
              clear HV1 HV2 hx
              go_wp2
              refine bodyPost_ret (v := .tuple #[cvl (.slice aw c.works.length cw) (.slice ag c.groups.length cg) c, .bool false]) (by simp [results, Tryz.results18, go_sem, *]) rfl ⟨(.slice aw c.works.length cw), (.slice ag c.groups.length cg), ?_, by rw [hno.out]; rfl, fun k hk => .inl hk, (Only.of_below HB.out).far6 (by omega) _ _ _ _ _ _⟩
              rw [hno.out]
              exact OC.far6 H2.out (fun k hk => by have := HBW.out k hk; omega) (fun k hk => by have := HBG.out k hk; omega) _ _ _ _ _ _
          | some xs =>
              have hlc : Hid (lineC c line = some { c with groups := c.groups ++ [gpL xs] }) := by rw [Hid, lineC, hn1]; simp [lineN, HR2.out, hx]
              obtain ⟨x0, x1, x2, x3, x4, rfl⟩ := five_of ((readB_iff (by omega)).1 hx).1
              obtain ⟨ad, cp, rfl, hI⟩ := HV2.out _ hx
              obtain ⟨b, o, rfl, hbl, c0⟩ := hI.at 0 (by simp)
              replace c0 : w2.cell? ⟨b, o, none⟩ = some (.int .i64 x0) := c0
              obtain ⟨b', o', he, _, c1⟩ := hI.at 1 (by simp)
              cases he
              replace c1 : w2.cell? ⟨b, o + 1, none⟩ = some (.int .i64 x1) := c1
              obtain ⟨b', o', he, _, c2⟩ := hI.at 2 (by simp)
              cases he
              replace c2 : w2.cell? ⟨b, o + 2, none⟩ = some (.int .i64 x2) := c2
              obtain ⟨b', o', he, _, c3⟩ := hI.at 3 (by simp)
              cases he
              replace c3 : w2.cell? ⟨b, o + 3, none⟩ = some (.int .i64 x3) := c3
              obtain ⟨b', o', he, _, c4⟩ := hI.at 4 (by simp)
              cases he
              replace c4 : w2.cell? ⟨b, o + 4, none⟩ = some (.int .i64 x4) := c4
              have hsm : (readB a2 5).isSome = true := by rw [hx]; rfl
              obtain ⟨inf76, i1, i2, i3, i4⟩ := info76
              have I1 := hid i1
              have I2 := hid i2
              have I3 := hid i3
              have I4 := hid i4
              clear i1 i2 i3 i4 hI HV1 HV2 hx
              go_wp2_with fail
              have H2G := hid H2.out.G
              have hvX := HGX.out
              refine wp_region_tc [[(2, none)], [(76, some 0)], [(12, none)], [(78, some 2)], [(79, some 3)], [(12, none)], [(81, some 5)], [(82, some 6)], [(80, some 4), (83, some 7)], [(12, none)], [(85, some 9)], [(86, some 10)], [(12, none)], [(88, some 12)], [(89, some 13)], [(12, none)], [(91, some 15)], [(92, some 16)], [(84, some 8), (87, some 11), (90, some 14), (93, some 17)], [(94, some 18)], [(77, some 1), (95, some 19)], [(2, none)], [(97, some 21), (96, some 20)]]
                (fun i v => match i with | 0 => v = .pointer (some ⟨w.heap.size, 1, none⟩) | 1 => v = .slice ag c.groups.length cg | 2 => v = .slice (some ⟨b, o, none⟩) [x0, x1, x2, x3, x4].length cp | 3 => v = .pointer (some ⟨b, o, none⟩) | 4 => v = .int .i64 x0 | 5 => v = .slice (some ⟨b, o, none⟩) [x0, x1, x2, x3, x4].length cp | 6 => v = .pointer (some ⟨b, o + 1, none⟩) | 7 => v = .int .i64 x1 | 8 => v = .agg #[.int .i64 x0, .int .i64 x1] | 9 => v = .slice (some ⟨b, o, none⟩) [x0, x1, x2, x3, x4].length cp | 10 => v = .pointer (some ⟨b, o + 2, none⟩) | 11 => v = .int .i64 x2 | 12 => v = .slice (some ⟨b, o, none⟩) [x0, x1, x2, x3, x4].length cp | 13 => v = .pointer (some ⟨b, o + 3, none⟩) | 14 => v = .int .i64 x3 | 15 => v = .slice (some ⟨b, o, none⟩) [x0, x1, x2, x3, x4].length cp | 16 => v = .pointer (some ⟨b, o + 4, none⟩) | 17 => v = .int .i64 x4 | 18 => v = .agg #[.int .i64 x0, .int .i64 x1, .int .i64 x2, .int .i64 x3, .int .i64 x4] | 19 => True | 20 => True | 21 => v = .pointer (some ⟨w.heap.size, 1, none⟩) | _ => True)
                (AP 5 Gp.cell 76 B w2 (.slice ag c.groups.length cg) c.groups (gpL [x0, x1, x2, x3, x4]) w.heap.size 25 #[(.slice aw c.works.length cw), (.slice ag c.groups.length cg), .int .i64 c.start, .int .i64 c.calm, .int .i64 c.idle, .int .i64 c.back] 1 19 20 22 95 96) 100 rfl (by kernel_rfl) (AP.start (by go_grown)) ⟨?_, ?_, ?_, ?_, ?_, ?_, ?_, ?_, ?_, ?_, ?_, ?_, ?_, ?_, ?_, ?_, ?_, ?_, ?_, ?_, ?_, ?_, ?_, trivial⟩ ?_
              · rintro t A w1 Q K hsz hts hu hbf haf hC hK ⟨e2, -⟩
                replace e2 : A.tmps[2]?.getD undef = .pointer (some ⟨w.heap.size, 0, none⟩) := e2
                simp [go_sem, e2]
                exact hK _ _ rfl (hC.other 0 76 _ (by decide) (by decide))
              · rintro t A w1 Q K hsz hts hu hbf haf hC hK ⟨e76, -⟩
                replace e76 : A.tmps[76]?.getD undef = .pointer (some ⟨w.heap.size, 1, none⟩) := e76
                have yb := (HX.out.below (hC.pre (haf 20 _ rfl (by kernel_rfl))).1 hXl).cell 1
                simp at yb
                simp [go_sem, e76, yb]
                exact hK _ _ rfl (hC.other 1 77 _ (by decide) (by decide))
              · rintro t A w1 Q K hsz hts hu hbf haf hC hK ⟨e12, -⟩
                replace e12 : A.tmps[12]?.getD undef = .slice (some ⟨b, o, none⟩) [x0, x1, x2, x3, x4].length cp := e12
                simp [go_sem, e12]
                exact hK _ _ rfl (hC.other 2 78 _ (by decide) (by decide))
              · rintro t A w1 Q K hsz hts hu hbf haf hC hK ⟨e78, -⟩
                replace e78 : A.tmps[78]?.getD undef = .slice (some ⟨b, o, none⟩) [x0, x1, x2, x3, x4].length cp := e78
                simp [go_sem, e78]
                exact hK _ _ rfl (hC.other 3 79 _ (by decide) (by decide))
              · rintro t A w1 Q K hsz hts hu hbf haf hC hK ⟨e79, -⟩
                replace e79 : A.tmps[79]?.getD undef = .pointer (some ⟨b, o, none⟩) := e79
                have yb := ((hC.pre (haf 20 _ rfl (by kernel_rfl))).1.cell (p := ⟨b, o, none⟩) hbl).trans c0
                simp [go_sem, e79, yb]
                exact hK _ _ rfl (hC.other 4 80 _ (by decide) (by decide))
              · rintro t A w1 Q K hsz hts hu hbf haf hC hK ⟨e12, -⟩
                replace e12 : A.tmps[12]?.getD undef = .slice (some ⟨b, o, none⟩) [x0, x1, x2, x3, x4].length cp := e12
                simp [go_sem, e12]
                exact hK _ _ rfl (hC.other 5 81 _ (by decide) (by decide))
              · rintro t A w1 Q K hsz hts hu hbf haf hC hK ⟨e81, -⟩
                replace e81 : A.tmps[81]?.getD undef = .slice (some ⟨b, o, none⟩) [x0, x1, x2, x3, x4].length cp := e81
                simp [go_sem, e81]
                exact hK _ _ rfl (hC.other 6 82 _ (by decide) (by decide))
              · rintro t A w1 Q K hsz hts hu hbf haf hC hK ⟨e82, -⟩
                replace e82 : A.tmps[82]?.getD undef = .pointer (some ⟨b, o + 1, none⟩) := e82
                have yb := ((hC.pre (haf 20 _ rfl (by kernel_rfl))).1.cell (p := ⟨b, o + 1, none⟩) hbl).trans c1
                simp [go_sem, e82, yb]
                exact hK _ _ rfl (hC.other 7 83 _ (by decide) (by decide))
              · rintro t A w1 Q K hsz hts hu hbf haf hC hK ⟨e80, e83, -⟩
                replace e80 : A.tmps[80]?.getD undef = .int .i64 x0 := e80
                replace e83 : A.tmps[83]?.getD undef = .int .i64 x1 := e83
                simp [go_sem, e80, e83]
                exact hK _ _ rfl (hC.other 8 84 _ (by decide) (by decide))
              · rintro t A w1 Q K hsz hts hu hbf haf hC hK ⟨e12, -⟩
                replace e12 : A.tmps[12]?.getD undef = .slice (some ⟨b, o, none⟩) [x0, x1, x2, x3, x4].length cp := e12
                simp [go_sem, e12]
                exact hK _ _ rfl (hC.other 9 85 _ (by decide) (by decide))
              · rintro t A w1 Q K hsz hts hu hbf haf hC hK ⟨e85, -⟩
                replace e85 : A.tmps[85]?.getD undef = .slice (some ⟨b, o, none⟩) [x0, x1, x2, x3, x4].length cp := e85
                simp [go_sem, e85]
                exact hK _ _ rfl (hC.other 10 86 _ (by decide) (by decide))
              · rintro t A w1 Q K hsz hts hu hbf haf hC hK ⟨e86, -⟩
                replace e86 : A.tmps[86]?.getD undef = .pointer (some ⟨b, o + 2, none⟩) := e86
                have yb := ((hC.pre (haf 20 _ rfl (by kernel_rfl))).1.cell (p := ⟨b, o + 2, none⟩) hbl).trans c2
                simp [go_sem, e86, yb]
                exact hK _ _ rfl (hC.other 11 87 _ (by decide) (by decide))
              · rintro t A w1 Q K hsz hts hu hbf haf hC hK ⟨e12, -⟩
                replace e12 : A.tmps[12]?.getD undef = .slice (some ⟨b, o, none⟩) [x0, x1, x2, x3, x4].length cp := e12
                simp [go_sem, e12]
                exact hK _ _ rfl (hC.other 12 88 _ (by decide) (by decide))
              · rintro t A w1 Q K hsz hts hu hbf haf hC hK ⟨e88, -⟩
                replace e88 : A.tmps[88]?.getD undef = .slice (some ⟨b, o, none⟩) [x0, x1, x2, x3, x4].length cp := e88
                simp [go_sem, e88]
                exact hK _ _ rfl (hC.other 13 89 _ (by decide) (by decide))
              · rintro t A w1 Q K hsz hts hu hbf haf hC hK ⟨e89, -⟩
                replace e89 : A.tmps[89]?.getD undef = .pointer (some ⟨b, o + 3, none⟩) := e89
                have yb := ((hC.pre (haf 20 _ rfl (by kernel_rfl))).1.cell (p := ⟨b, o + 3, none⟩) hbl).trans c3
                simp [go_sem, e89, yb]
                exact hK _ _ rfl (hC.other 14 90 _ (by decide) (by decide))
              · rintro t A w1 Q K hsz hts hu hbf haf hC hK ⟨e12, -⟩
                replace e12 : A.tmps[12]?.getD undef = .slice (some ⟨b, o, none⟩) [x0, x1, x2, x3, x4].length cp := e12
                simp [go_sem, e12]
                exact hK _ _ rfl (hC.other 15 91 _ (by decide) (by decide))
              · rintro t A w1 Q K hsz hts hu hbf haf hC hK ⟨e91, -⟩
                replace e91 : A.tmps[91]?.getD undef = .slice (some ⟨b, o, none⟩) [x0, x1, x2, x3, x4].length cp := e91
                simp [go_sem, e91]
                exact hK _ _ rfl (hC.other 16 92 _ (by decide) (by decide))
              · rintro t A w1 Q K hsz hts hu hbf haf hC hK ⟨e92, -⟩
                replace e92 : A.tmps[92]?.getD undef = .pointer (some ⟨b, o + 4, none⟩) := e92
                have yb := ((hC.pre (haf 20 _ rfl (by kernel_rfl))).1.cell (p := ⟨b, o + 4, none⟩) hbl).trans c4
                simp [go_sem, e92, yb]
                exact hK _ _ rfl (hC.other 17 93 _ (by decide) (by decide))
              · rintro t A w1 Q K hsz hts hu hbf haf hC hK ⟨e84, e87, e90, e93, -⟩
                replace e84 : A.tmps[84]?.getD undef = .agg #[.int .i64 x0, .int .i64 x1] := e84
                replace e87 : A.tmps[87]?.getD undef = .int .i64 x2 := e87
                replace e90 : A.tmps[90]?.getD undef = .int .i64 x3 := e90
                replace e93 : A.tmps[93]?.getD undef = .int .i64 x4 := e93
                simp [go_sem, e84, e87, e90, e93]
                exact hK _ _ rfl (hC.other 18 94 _ (by decide) (by decide))
              · rintro t A w1 Q K hsz hts hu hbf haf hC hK ⟨e94, -⟩
                replace e94 : A.tmps[94]?.getD undef = .agg #[.int .i64 x0, .int .i64 x1, .int .i64 x2, .int .i64 x3, .int .i64 x4] := e94
                simp [go_sem, e94]
                exact hK _ _ trivial (hC.new hu (haf 20 _ rfl (by kernel_rfl)) (haf 22 _ rfl (by kernel_rfl)) (by decide) (by rw [hts]; show 95 < 100; decide) (news := [.int .i64 x0, .int .i64 x1, .int .i64 x2, .int .i64 x3, .int .i64 x4]) rfl)
              · rintro t A w1 Q K hsz hts hu hbf haf hC hK ⟨e77, e95, -⟩
                replace e77 : A.tmps[77]?.getD undef = (.slice ag c.groups.length cg) := e77
                clear e95
                obtain ⟨hp, hy⟩ := hC.pre (getD_tf hu).1
                obtain ⟨bb, hy, hbk⟩ := hy (hbf 19 (by kernel_rfl))
                replace hy : A.tmps[95]?.getD undef = .slice (some ⟨bb, 0, none⟩) 1 1 := hy
                replace hbk : Blk w1 bb #[.int .i64 x0, .int .i64 x1, .int .i64 x2, .int .i64 x3, .int .i64 x4] 76 := hbk
                refine oper_append_at rfl (.tmp 77) (.tmp 95) 23 rfl B 76 inf76 _ 5 40 Tryz.underlying23 I1.out I2.out I3.out I4.out (by rfl) (by omega) (.slice ag c.groups.length cg) c.groups.length (flat 5 Gp.cell c.groups) (by simp [go_sem, e77]) (H2G.out.keep hp) ⟨bb, 0, none⟩ 1 1 [.int .i64 x0, .int .i64 x1, .int .i64 x2, .int .i64 x3, .int .i64 x4] (by simp [go_sem, hy]) (by rfl) (fun q u hq => by rw [addmid, Nat.zero_add, hbk.cell]; simpa using hq) (by intro u hu; simp at hu; rcases hu with rfl | rfl | rfl | rfl | rfl <;> rfl) (by unfold maxLen; omega) (by omega) (by have := hp.size; have := HB.out.size; omega) ?_
                intro z2 w3 hown hgrow hfr
                exact hK z2 w3 trivial (hC.app hu (haf 22 _ rfl (by kernel_rfl)) (by decide) (by rw [hts]; show 96 < 100; decide) HX.out hvX (news := [.int .i64 x0, .int .i64 x1, .int .i64 x2, .int .i64 x3, .int .i64 x4]) rfl hown hgrow hfr)
              · rintro t A w1 Q K hsz hts hu hbf haf hC hK ⟨e2, -⟩
                replace e2 : A.tmps[2]?.getD undef = .pointer (some ⟨w.heap.size, 0, none⟩) := e2
                simp [go_sem, e2]
                exact hK _ _ rfl (hC.other 21 97 _ (by decide) (by decide))
              · rintro t A w1 Q K hsz hts hu hbf haf hC hK ⟨e97, e96, -⟩
                replace e97 : A.tmps[97]?.getD undef = .pointer (some ⟨w.heap.size, 1, none⟩) := e97
                clear e96
                have hA := hbf 20 (by kernel_rfl)
                have hq := hC.mid hA (getD_tf hu).1
                obtain ⟨a9, c9, hz, -⟩ := hq.own.form
                have e68 : A.tmps[96]?.getD undef = .slice a9 (c.groups ++ [(gpL [x0, x1, x2, x3, x4])]).length c9 := hz
                have X := hq.box.cell 1
                have F := hq.box.frozen 1
                simp at X
                have hl := hC.last (f := 1) hu hA (by decide) hvX hXl (u := undef) hz
                clear hq hC hz
                simp [go_sem, e97, e68, X, F]
                refine hK undef _ trivial ?_
                simpa using hl
              · intro a' w3 ha' hC'
                refine fun v0 h0 v1 h1 v2 h2 v3 h3 v4 h4 v5 h5 v6 h6 v7 h7 v8 h8 v9 h9 v10 h10 v11 h11 v12 h12 v13 h13 v14 h14 v15 h15 v16 h16 v17 h17 v18 h18 v19 h19 v20 h20 v21 h21 => ?_
                intro he
                subst he
                have hq := hC'.fin (by simp)
                simp [Act.put, ev] at hq
                clear hC' ha' h0 h1 h2 h3 h4 h5 h6 h7 h8 h9 h10 h11 h12 h13 h14 h15 h16 h17 h18 h19 h20 h21
                obtain ⟨a9, c9, rfl, -⟩ := hq.own.form
                have hX3 : Blk w3 w.heap.size #[(.slice aw c.works.length cw), (.slice a9 (c.groups ++ [(gpL [x0, x1, x2, x3, x4])]).length c9), .int .i64 c.start, .int .i64 c.calm, .int .i64 c.idle, .int .i64 c.back] 25 := hq.box
                have hZ3 := HZ.out.only hq.only (fun e => e.elim (fun e => by have := HBG.out _ e; omega) (fun e => by omega))
                have hO3 := H2.out.W.only hq.only (fun k hk e => e.elim (fun e => H2.out.ne k hk e) (fun e => HHX.out (e ▸ hk)))
                have HQ := hid hq
                have HX3 := hid hX3
                have HZ3 := hid hZ3
                have HO3 := hid hO3
                have x0c := hX3.cell
                have z0c := hZ3.cell
                have z0f := hZ3.frozen
                have z0l := hZ3.lt
                have x0l := hX3.lt
                simp only [Act.put, List.setIfInBounds_toArray, List.set_cons_zero, List.set_cons_succ]
                have HH := hid (oc_group HB.out H2.out HBW.out HBG.out hq (Nat.le_refl _) hO3)
                clear hq hX3 hZ3 hO3 hvX
                go_wp2
                obtain ⟨g1, g2, g3, g4⟩ := HH.out
                refine bodyPost_ret (v := .tuple #[cvl (.slice aw c.works.length cw) (.slice a9 (c.groups ++ [(gpL [x0, x1, x2, x3, x4])]).length c9) { c with groups := c.groups ++ [gpL [x0, x1, x2, x3, x4]] }, .bool true]) (by simp [results, Tryz.results18, go_sem, *]) rfl ⟨(.slice aw c.works.length cw), (.slice a9 (c.groups ++ [(gpL [x0, x1, x2, x3, x4])]).length c9), ?_, by rw [hlc.out]; rfl, g2, g3.far6 (by omega) _ _ _ _ _ _⟩
                rw [hlc.out]
                refine OC.far6 g1 (fun k hk => ?_) (fun k hk => ?_) _ _ _ _ _ _
                · have := HBW.out k hk; omega
                · have := g4 k hk; omega
end Go.Proofs.YtoceohacplmgnaaGreatDoor
