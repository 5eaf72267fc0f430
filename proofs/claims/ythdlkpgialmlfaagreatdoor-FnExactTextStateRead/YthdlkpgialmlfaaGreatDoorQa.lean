/- Texts: the lines of what there is, as the program reads them. -/
import Derived.Test.YthdlkpgialmlfaaGreatDoorRr
import Derived.Test.YthdlkpgialmlfaaGreatDoorXd
namespace Go.Proofs.YthdlkpgialmlfaaGreatDoor
open Go.RowKit

theorem AQ.keep {α : Type} {m : Nat} {cell : α → Nat → Int} {T : TypeId} {B : Nat} {w0 w w' : World} {v : Value} {l : List α} {x : α} {bx : Nat} {TB : TypeId} {v' : Value} {cs : Array Value} (h : AQ m cell T B w0 v l x bx TB w v' cs) (hb : Below w.heap.size w w') : AQ m cell T B w0 v l x bx TB w' v' cs :=
  ⟨h.only.trans (Only.of_below hb), h.box.below hb h.box.lt, h.own.keep hb, h.from'⟩

set_option maxRecDepth 100000 in
set_option maxHeartbeats 4000000 in
theorem oneWorks_any (v : Value) (l : List Ws) (B bx f TB : Nat) (cs : Array Value) (w : World) (hB : B ≤ w.heap.size) (ho : Owns 3 Ws.cell 94 B w v l) (hl : l.length ≤ 4000) (hb : Blk w bx cs TB) (hf : cs[f]? = some v) (hne : v.ownBlock ≠ some bx) :
    Calls Tryz.prog 58 #[.pointer (some ⟨bx, f, none⟩)] w fun e w' => ∃ g cp, e = .returned (.pointer (some ⟨g, l.length * 3, none⟩)) ∧ AQ 3 Ws.cell 94 B w v l (workSL []) bx TB w' (.slice (some ⟨g, 0, none⟩) (l.length + 1) cp) (cs.setIfInBounds f (.slice (some ⟨g, 0, none⟩) (l.length + 1) cp)) := by
  obtain ⟨aw, cw, rfl, -⟩ := ho.form
  obtain ⟨inf94, i1, i2, i3, i4⟩ := info94
  have I1 := hid i1
  have I2 := hid i2
  have I3 := hid i3
  have I4 := hid i4
  clear i1 i2 i3 i4
  have HO := hid ho
  have HBX := hid hb
  have hbl := hb.lt
  have HF := hid hf
  have HNE := hid hne
  clear ho hb hf hne
  go_enter Tryz.func58, Tryz.ntmps58
  go_wp2_with fail
  obtain ⟨w1, hw1⟩ : ∃ w1, w.alloc (.cells #[.int .i64 0, .int .i64 0, .int .i64 0] 94) = w1 := ⟨_, rfl⟩
  have hz : Blk w1 w.heap.size #[.int .i64 0, .int .i64 0, .int .i64 0] 94 := hw1 ▸ Blk.new _ _ _
  have hb1 : Below w.heap.size w w1 := by rw [← hw1]; go_grown
  have ho1 := HO.out.keep hb1
  have hx1 := HBX.out.below hb1 hbl
  have hs1 := hb1.size
  rw [hw1]
  clear hw1
  have hxl := hx1.lt
  have hzl := hz.lt
  refine wp_region_tc [[(0, none)], [(0, none)], [(5, some 1)], [(6, some 2)], [(3, none)], [(8, some 4)], [(7, some 3), (9, some 5)], [(4, some 0)], [(11, some 7), (10, some 6)]]
    (fun i v => match i with | 0 => v = .pointer (some ⟨bx, f, none⟩) | 1 => v = .pointer (some ⟨bx, f, none⟩) | 2 => v = .pointer (some ⟨bx, f, none⟩) | 3 => v = .slice aw l.length cw | 4 => v = .agg #[.int .i64 0, .int .i64 0, .int .i64 0] | 7 => v = .pointer (some ⟨bx, f, none⟩) | _ => True)
    (AP 3 Ws.cell 94 B w1 (.slice aw l.length cw) l (workSL []) bx TB cs f 5 6 8 9 10) 21 rfl (by kernel_rfl) (AP.start (by go_grown)) ⟨?_, ?_, ?_, ?_, ?_, ?_, ?_, ?_, ?_, trivial⟩ ?_
  · rintro t A w2 Q K hsz hts hu hbf haf hC hK ⟨e0, -⟩
    replace e0 : A.tmps[0]?.getD undef = .pointer (some ⟨bx, f, none⟩) := e0
    simp [go_sem, e0]
    exact hK _ _ rfl (hC.other 0 4 _ (by decide) (by decide))
  · rintro t A w2 Q K hsz hts hu hbf haf hC hK ⟨e0, -⟩
    replace e0 : A.tmps[0]?.getD undef = .pointer (some ⟨bx, f, none⟩) := e0
    simp [go_sem, e0]
    exact hK _ _ rfl (hC.other 1 5 _ (by decide) (by decide))
  · rintro t A w2 Q K hsz hts hu hbf haf hC hK ⟨e5, -⟩
    replace e5 : A.tmps[5]?.getD undef = .pointer (some ⟨bx, f, none⟩) := e5
    simp [go_sem, e5]
    exact hK _ _ rfl (hC.other 2 6 _ (by decide) (by decide))
  · rintro t A w2 Q K hsz hts hu hbf haf hC hK ⟨e6, -⟩
    replace e6 : A.tmps[6]?.getD undef = .pointer (some ⟨bx, f, none⟩) := e6
    have yb := ((hx1.below (hC.pre (haf 6 _ rfl (by kernel_rfl))).1 hxl).cell f).trans HF.out
    simp [go_sem, e6, yb]
    exact hK _ _ rfl (hC.other 3 7 _ (by decide) (by decide))
  · rintro t A w2 Q K hsz hts hu hbf haf hC hK ⟨e3, -⟩
    replace e3 : A.tmps[3]?.getD undef = .pointer (some ⟨w.heap.size, 0, none⟩) := e3
    have yb := (hz.below (hC.pre (haf 6 _ rfl (by kernel_rfl))).1 hzl).cell
    simp [go_sem, e3, yb]
    exact hK _ _ rfl (hC.other 4 8 _ (by decide) (by decide))
  · rintro t A w2 Q K hsz hts hu hbf haf hC hK ⟨e8, -⟩
    replace e8 : A.tmps[8]?.getD undef = .agg #[.int .i64 0, .int .i64 0, .int .i64 0] := e8
    simp [go_sem, e8]
    exact hK _ _ trivial (hC.new hu (haf 6 _ rfl (by kernel_rfl)) (haf 8 _ rfl (by kernel_rfl)) (by decide) (by rw [hts]; show 9 < 21; decide) (news := [.int .i64 0, .int .i64 0, .int .i64 0]) rfl)
  · rintro t A w2 Q K hsz hts hu hbf haf hC hK ⟨e7, -⟩
    replace e7 : A.tmps[7]?.getD undef = .slice aw l.length cw := e7
    obtain ⟨hp, hy⟩ := hC.pre (getD_tf hu).1
    obtain ⟨bb, hy, hbk⟩ := hy (hbf 5 (by kernel_rfl))
    replace hy : A.tmps[9]?.getD undef = .slice (some ⟨bb, 0, none⟩) 1 1 := hy
    replace hbk : Blk w2 bb #[.int .i64 0, .int .i64 0, .int .i64 0] 94 := hbk
    refine oper_append_at rfl (.tmp 7) (.tmp 9) 33 rfl B 94 inf94 _ 3 24 Tryz.underlying33 I1.out I2.out I3.out I4.out (by rfl) (by omega) (.slice aw l.length cw) l.length (flat 3 Ws.cell l) (by simp [go_sem, e7]) (ho1.keep hp) ⟨bb, 0, none⟩ 1 1 [.int .i64 0, .int .i64 0, .int .i64 0] (by simp [go_sem, hy]) (by rfl) (fun q u hq => by rw [addmid, Nat.zero_add, hbk.cell]; simpa using hq) (by intro u hu; simp at hu; subst hu; rfl) (by unfold maxLen; omega) (by omega) (by have := hp.size; omega) ?_
    intro z2 w3 hown hgrow hfr
    exact hK z2 w3 trivial (hC.app hu (haf 8 _ rfl (by kernel_rfl)) (by decide) (by rw [hts]; show 10 < 21; decide) hx1 HNE.out (news := [.int .i64 0, .int .i64 0, .int .i64 0]) rfl hown hgrow hfr)
  · rintro t A w2 Q K hsz hts hu hbf haf hC hK ⟨e4, -⟩
    replace e4 : A.tmps[4]?.getD undef = .pointer (some ⟨bx, f, none⟩) := e4
    simp [go_sem, e4]
    exact hK _ _ rfl (hC.other 7 11 _ (by decide) (by decide))
  · rintro t A w2 Q K hsz hts hu hbf haf hC hK ⟨e11, -⟩
    replace e11 : A.tmps[11]?.getD undef = .pointer (some ⟨bx, f, none⟩) := e11
    have hA := hbf 6 (by kernel_rfl)
    have hq := hC.mid hA (getD_tf hu).1
    obtain ⟨a9, c9, hz9, -⟩ := hq.own.form
    have e10 : A.tmps[10]?.getD undef = .slice a9 (l ++ [(workSL [])]).length c9 := hz9
    have X := (hq.box.cell f).trans HF.out
    have F := hq.box.frozen f
    have hl9 := hC.last (f := f) hu hA (by decide) HNE.out hxl (u := undef) hz9
    clear hq hC hz9
    simp [go_sem, e11, e10, X, F]
    refine hK undef _ trivial ?_
    simpa using hl9
  · intro a' w3 ha' hC'
    refine fun v0 h0 v1 h1 v2 h2 v3 h3 v4 h4 v5 h5 v6 h6 v7 h7 => ?_
    intro he
    subst he
    have hq := hC'.fin (by simp)
    simp [Act.put, ev] at hq
    clear hC' ha' h0 h1 h2 h3 h4 h5 h6 h7
    have hq' : AQ 3 Ws.cell 94 B w (.slice aw l.length cw) l (workSL []) bx TB w3 v6 (cs.setIfInBounds f v6) := by
      refine ⟨(Only.of_below hb1).trans hq.only, hq.box, hq.own, hq.from'.imp id (fun ⟨k, h1, h2⟩ => ⟨k, h1, Nat.le_trans hs1 h2⟩)⟩
    obtain ⟨g, cp, rfl⟩ := row_form (show w3.ownsRow B 94 3 v6 (l.length + 1) _ from by have := hq.own; unfold Owns at this; rw [List.length_append] at this; exact this)
    have hX := (hq'.box.cell f)
    have hfs : f < cs.size := by
      have := HF.out
      rcases Nat.lt_or_ge f cs.size with h | h
      · exact h
      · rw [Array.getElem?_eq_none h] at this; cases this
    have hX2 : w3.cell? ⟨bx, f, none⟩ = some (.slice (some ⟨g, 0, none⟩) (l.length + 1) cp) := by rw [hX]; simp [hfs]
    have HQ := hid hq'
    have hn0 : (0 : Int) ≤ (l.length : Int) := by omega
    have hn1 : (l.length : Int) < (l.length : Int) + 1 := by omega
    clear hq hq' hX
    simp only [Act.put, List.setIfInBounds_toArray, List.set_cons_zero, List.set_cons_succ]
    have hbx3 := HQ.out.box.lt
    go_wp2
    refine wp_region_tw [[(0, none)], [(12, some 0)], [(13, some 1)], [(0, none)], [(15, some 3)], [(16, some 4)], [(17, some 5)], [(18, some 6)], [(14, some 2), (19, some 7)], [(20, some 8)]]
      (fun i v _ => match i with | 0 => v = .pointer (some ⟨bx, f, none⟩) | 1 => v = .pointer (some ⟨bx, f, none⟩) | 2 => v = .slice (some ⟨g, 0, none⟩) (l.length + 1) cp | 3 => v = .pointer (some ⟨bx, f, none⟩) | 4 => v = .pointer (some ⟨bx, f, none⟩) | 5 => v = .slice (some ⟨g, 0, none⟩) (l.length + 1) cp | 6 => v = .int .i64 ((l.length : Int) + 1) | 7 => v = .int .i64 (l.length : Int) | 8 => v = .pointer (some ⟨g, l.length * 3, none⟩) | 9 => v = .pointer (some ⟨g, l.length * 3, none⟩) | _ => True)
      (fun V => Below w3.heap.size w3 V) (fun _ _ => True) 21 rfl (by kernel_rfl) (fun _ _ _ _ _ _ h => h) (fun _ => trivial) (by go_grown) ⟨?_, ?_, ?_, ?_, ?_, ?_, ?_, ?_, ?_, ?_, trivial⟩ ?_
    · rintro A w' Q K hC hK ⟨e0, -⟩
      replace e0 : A.tmps[0]?.getD undef = .pointer (some ⟨bx, f, none⟩) := e0
      simp only [under]
      simp [go_sem, e0]
      exact hK _ _ rfl hC trivial
    · rintro A w' Q K hC hK ⟨e12, -⟩
      replace e12 : A.tmps[12]?.getD undef = .pointer (some ⟨bx, f, none⟩) := e12
      simp only [under]
      simp [go_sem, e12]
      exact hK _ _ rfl hC trivial
    · rintro A w' Q K hC hK ⟨e13, -⟩
      replace e13 : A.tmps[13]?.getD undef = .pointer (some ⟨bx, f, none⟩) := e13
      simp only [under]
      have yb := (hC.cell (p := ⟨bx, f, none⟩) hbx3).trans hX2
      simp [go_sem, e13, yb]
      exact hK _ _ rfl hC trivial
    · rintro A w' Q K hC hK ⟨e0, -⟩
      replace e0 : A.tmps[0]?.getD undef = .pointer (some ⟨bx, f, none⟩) := e0
      simp only [under]
      simp [go_sem, e0]
      exact hK _ _ rfl hC trivial
    · rintro A w' Q K hC hK ⟨e15, -⟩
      replace e15 : A.tmps[15]?.getD undef = .pointer (some ⟨bx, f, none⟩) := e15
      simp only [under]
      simp [go_sem, e15]
      exact hK _ _ rfl hC trivial
    · rintro A w' Q K hC hK ⟨e16, -⟩
      replace e16 : A.tmps[16]?.getD undef = .pointer (some ⟨bx, f, none⟩) := e16
      simp only [under]
      have yb := (hC.cell (p := ⟨bx, f, none⟩) hbx3).trans hX2
      simp [go_sem, e16, yb]
      exact hK _ _ rfl hC trivial
    · rintro A w' Q K hC hK ⟨e17, -⟩
      replace e17 : A.tmps[17]?.getD undef = .slice (some ⟨g, 0, none⟩) (l.length + 1) cp := e17
      simp only [under]
      simp [go_sem, e17]
      exact hK _ _ rfl hC trivial
    · rintro A w' Q K hC hK ⟨e18, -⟩
      replace e18 : A.tmps[18]?.getD undef = .int .i64 ((l.length : Int) + 1) := e18
      simp only [under]
      have hw1 : IntKind.i64.wrap (l.length : Int) = (l.length : Int) := by rw [IntKind.wrap_i64]; omega
      simp [go_sem, e18, hw1]
      exact hK _ _ rfl hC trivial
    · rintro A w' Q K hC hK ⟨e14, e19, -⟩
      replace e14 : A.tmps[14]?.getD undef = .slice (some ⟨g, 0, none⟩) (l.length + 1) cp := e14
      replace e19 : A.tmps[19]?.getD undef = .int .i64 (l.length : Int) := e19
      simp only [under]
      simp [go_sem, e14, e19, hn0, hn1]
      exact hK _ _ rfl hC trivial
    · rintro A w' Q K hC hK ⟨e20, -⟩
      replace e20 : A.tmps[20]?.getD undef = .pointer (some ⟨g, l.length * 3, none⟩) := e20
      simp only [under]
      simp [go_sem, e20]
      exact hK _ _ rfl hC trivial
    · intro W10 hW10
      refine fun v0 h0 v1 h1 v2 h2 v3 h3 v4 h4 v5 h5 v7 h7 v8 h8 v9 h9 v10 h10 => ?_
      obtain rfl := (h10 : v10 = .pointer (some ⟨g, l.length * 3, none⟩))
      clear h0 h1 h2 h3 h4 h5 h7 h8 h9
      simp only [upto, Act.put, List.setIfInBounds_toArray, List.set_cons_zero, List.set_cons_succ]
      go_wp2
      go_ret
      exact ⟨g, cp, rfl, HQ.out.keep hW10⟩

set_option maxRecDepth 100000 in
set_option maxHeartbeats 4000000 in
theorem oneGroups_any (v : Value) (l : List Gs) (B bx f TB : Nat) (cs : Array Value) (w : World) (hB : B ≤ w.heap.size) (ho : Owns 3 Gs.cell 96 B w v l) (hl : l.length ≤ 4000) (hb : Blk w bx cs TB) (hf : cs[f]? = some v) (hne : v.ownBlock ≠ some bx) :
    Calls Tryz.prog 59 #[.pointer (some ⟨bx, f, none⟩)] w fun e w' => ∃ g cp, e = .returned (.pointer (some ⟨g, l.length * 3, none⟩)) ∧ AQ 3 Gs.cell 96 B w v l (groupSL []) bx TB w' (.slice (some ⟨g, 0, none⟩) (l.length + 1) cp) (cs.setIfInBounds f (.slice (some ⟨g, 0, none⟩) (l.length + 1) cp)) := by
  obtain ⟨aw, cw, rfl, -⟩ := ho.form
  obtain ⟨inf96, i1, i2, i3, i4⟩ := info96
  have I1 := hid i1
  have I2 := hid i2
  have I3 := hid i3
  have I4 := hid i4
  clear i1 i2 i3 i4
  have HO := hid ho
  have HBX := hid hb
  have hbl := hb.lt
  have HF := hid hf
  have HNE := hid hne
  clear ho hb hf hne
  go_enter Tryz.func59, Tryz.ntmps59
  go_wp2_with fail
  obtain ⟨w1, hw1⟩ : ∃ w1, w.alloc (.cells #[.int .i64 0, .int .i64 0, .int .i64 0] 96) = w1 := ⟨_, rfl⟩
  have hz : Blk w1 w.heap.size #[.int .i64 0, .int .i64 0, .int .i64 0] 96 := hw1 ▸ Blk.new _ _ _
  have hb1 : Below w.heap.size w w1 := by rw [← hw1]; go_grown
  have ho1 := HO.out.keep hb1
  have hx1 := HBX.out.below hb1 hbl
  have hs1 := hb1.size
  rw [hw1]
  clear hw1
  have hxl := hx1.lt
  have hzl := hz.lt
  refine wp_region_tc [[(0, none)], [(0, none)], [(5, some 1)], [(6, some 2)], [(3, none)], [(8, some 4)], [(7, some 3), (9, some 5)], [(4, some 0)], [(11, some 7), (10, some 6)]]
    (fun i v => match i with | 0 => v = .pointer (some ⟨bx, f, none⟩) | 1 => v = .pointer (some ⟨bx, f, none⟩) | 2 => v = .pointer (some ⟨bx, f, none⟩) | 3 => v = .slice aw l.length cw | 4 => v = .agg #[.int .i64 0, .int .i64 0, .int .i64 0] | 7 => v = .pointer (some ⟨bx, f, none⟩) | _ => True)
    (AP 3 Gs.cell 96 B w1 (.slice aw l.length cw) l (groupSL []) bx TB cs f 5 6 8 9 10) 21 rfl (by kernel_rfl) (AP.start (by go_grown)) ⟨?_, ?_, ?_, ?_, ?_, ?_, ?_, ?_, ?_, trivial⟩ ?_
  · rintro t A w2 Q K hsz hts hu hbf haf hC hK ⟨e0, -⟩
    replace e0 : A.tmps[0]?.getD undef = .pointer (some ⟨bx, f, none⟩) := e0
    simp [go_sem, e0]
    exact hK _ _ rfl (hC.other 0 4 _ (by decide) (by decide))
  · rintro t A w2 Q K hsz hts hu hbf haf hC hK ⟨e0, -⟩
    replace e0 : A.tmps[0]?.getD undef = .pointer (some ⟨bx, f, none⟩) := e0
    simp [go_sem, e0]
    exact hK _ _ rfl (hC.other 1 5 _ (by decide) (by decide))
  · rintro t A w2 Q K hsz hts hu hbf haf hC hK ⟨e5, -⟩
    replace e5 : A.tmps[5]?.getD undef = .pointer (some ⟨bx, f, none⟩) := e5
    simp [go_sem, e5]
    exact hK _ _ rfl (hC.other 2 6 _ (by decide) (by decide))
  · rintro t A w2 Q K hsz hts hu hbf haf hC hK ⟨e6, -⟩
    replace e6 : A.tmps[6]?.getD undef = .pointer (some ⟨bx, f, none⟩) := e6
    have yb := ((hx1.below (hC.pre (haf 6 _ rfl (by kernel_rfl))).1 hxl).cell f).trans HF.out
    simp [go_sem, e6, yb]
    exact hK _ _ rfl (hC.other 3 7 _ (by decide) (by decide))
  · rintro t A w2 Q K hsz hts hu hbf haf hC hK ⟨e3, -⟩
    replace e3 : A.tmps[3]?.getD undef = .pointer (some ⟨w.heap.size, 0, none⟩) := e3
    have yb := (hz.below (hC.pre (haf 6 _ rfl (by kernel_rfl))).1 hzl).cell
    simp [go_sem, e3, yb]
    exact hK _ _ rfl (hC.other 4 8 _ (by decide) (by decide))
  · rintro t A w2 Q K hsz hts hu hbf haf hC hK ⟨e8, -⟩
    replace e8 : A.tmps[8]?.getD undef = .agg #[.int .i64 0, .int .i64 0, .int .i64 0] := e8
    simp [go_sem, e8]
    exact hK _ _ trivial (hC.new hu (haf 6 _ rfl (by kernel_rfl)) (haf 8 _ rfl (by kernel_rfl)) (by decide) (by rw [hts]; show 9 < 21; decide) (news := [.int .i64 0, .int .i64 0, .int .i64 0]) rfl)
  · rintro t A w2 Q K hsz hts hu hbf haf hC hK ⟨e7, -⟩
    replace e7 : A.tmps[7]?.getD undef = .slice aw l.length cw := e7
    obtain ⟨hp, hy⟩ := hC.pre (getD_tf hu).1
    obtain ⟨bb, hy, hbk⟩ := hy (hbf 5 (by kernel_rfl))
    replace hy : A.tmps[9]?.getD undef = .slice (some ⟨bb, 0, none⟩) 1 1 := hy
    replace hbk : Blk w2 bb #[.int .i64 0, .int .i64 0, .int .i64 0] 96 := hbk
    refine oper_append_at rfl (.tmp 7) (.tmp 9) 34 rfl B 96 inf96 _ 3 24 Tryz.underlying34 I1.out I2.out I3.out I4.out (by rfl) (by omega) (.slice aw l.length cw) l.length (flat 3 Gs.cell l) (by simp [go_sem, e7]) (ho1.keep hp) ⟨bb, 0, none⟩ 1 1 [.int .i64 0, .int .i64 0, .int .i64 0] (by simp [go_sem, hy]) (by rfl) (fun q u hq => by rw [addmid, Nat.zero_add, hbk.cell]; simpa using hq) (by intro u hu; simp at hu; subst hu; rfl) (by unfold maxLen; omega) (by omega) (by have := hp.size; omega) ?_
    intro z2 w3 hown hgrow hfr
    exact hK z2 w3 trivial (hC.app hu (haf 8 _ rfl (by kernel_rfl)) (by decide) (by rw [hts]; show 10 < 21; decide) hx1 HNE.out (news := [.int .i64 0, .int .i64 0, .int .i64 0]) rfl hown hgrow hfr)
  · rintro t A w2 Q K hsz hts hu hbf haf hC hK ⟨e4, -⟩
    replace e4 : A.tmps[4]?.getD undef = .pointer (some ⟨bx, f, none⟩) := e4
    simp [go_sem, e4]
    exact hK _ _ rfl (hC.other 7 11 _ (by decide) (by decide))
  · rintro t A w2 Q K hsz hts hu hbf haf hC hK ⟨e11, -⟩
    replace e11 : A.tmps[11]?.getD undef = .pointer (some ⟨bx, f, none⟩) := e11
    have hA := hbf 6 (by kernel_rfl)
    have hq := hC.mid hA (getD_tf hu).1
    obtain ⟨a9, c9, hz9, -⟩ := hq.own.form
    have e10 : A.tmps[10]?.getD undef = .slice a9 (l ++ [(groupSL [])]).length c9 := hz9
    have X := (hq.box.cell f).trans HF.out
    have F := hq.box.frozen f
    have hl9 := hC.last (f := f) hu hA (by decide) HNE.out hxl (u := undef) hz9
    clear hq hC hz9
    simp [go_sem, e11, e10, X, F]
    refine hK undef _ trivial ?_
    simpa using hl9
  · intro a' w3 ha' hC'
    refine fun v0 h0 v1 h1 v2 h2 v3 h3 v4 h4 v5 h5 v6 h6 v7 h7 => ?_
    intro he
    subst he
    have hq := hC'.fin (by simp)
    simp [Act.put, ev] at hq
    clear hC' ha' h0 h1 h2 h3 h4 h5 h6 h7
    have hq' : AQ 3 Gs.cell 96 B w (.slice aw l.length cw) l (groupSL []) bx TB w3 v6 (cs.setIfInBounds f v6) := by
      refine ⟨(Only.of_below hb1).trans hq.only, hq.box, hq.own, hq.from'.imp id (fun ⟨k, h1, h2⟩ => ⟨k, h1, Nat.le_trans hs1 h2⟩)⟩
    obtain ⟨g, cp, rfl⟩ := row_form (show w3.ownsRow B 96 3 v6 (l.length + 1) _ from by have := hq.own; unfold Owns at this; rw [List.length_append] at this; exact this)
    have hX := (hq'.box.cell f)
    have hfs : f < cs.size := by
      have := HF.out
      rcases Nat.lt_or_ge f cs.size with h | h
      · exact h
      · rw [Array.getElem?_eq_none h] at this; cases this
    have hX2 : w3.cell? ⟨bx, f, none⟩ = some (.slice (some ⟨g, 0, none⟩) (l.length + 1) cp) := by rw [hX]; simp [hfs]
    have HQ := hid hq'
    have hn0 : (0 : Int) ≤ (l.length : Int) := by omega
    have hn1 : (l.length : Int) < (l.length : Int) + 1 := by omega
    clear hq hq' hX
    simp only [Act.put, List.setIfInBounds_toArray, List.set_cons_zero, List.set_cons_succ]
    have hbx3 := HQ.out.box.lt
    go_wp2
    refine wp_region_tw [[(0, none)], [(12, some 0)], [(13, some 1)], [(0, none)], [(15, some 3)], [(16, some 4)], [(17, some 5)], [(18, some 6)], [(14, some 2), (19, some 7)], [(20, some 8)]]
      (fun i v _ => match i with | 0 => v = .pointer (some ⟨bx, f, none⟩) | 1 => v = .pointer (some ⟨bx, f, none⟩) | 2 => v = .slice (some ⟨g, 0, none⟩) (l.length + 1) cp | 3 => v = .pointer (some ⟨bx, f, none⟩) | 4 => v = .pointer (some ⟨bx, f, none⟩) | 5 => v = .slice (some ⟨g, 0, none⟩) (l.length + 1) cp | 6 => v = .int .i64 ((l.length : Int) + 1) | 7 => v = .int .i64 (l.length : Int) | 8 => v = .pointer (some ⟨g, l.length * 3, none⟩) | 9 => v = .pointer (some ⟨g, l.length * 3, none⟩) | _ => True)
      (fun V => Below w3.heap.size w3 V) (fun _ _ => True) 21 rfl (by kernel_rfl) (fun _ _ _ _ _ _ h => h) (fun _ => trivial) (by go_grown) ⟨?_, ?_, ?_, ?_, ?_, ?_, ?_, ?_, ?_, ?_, trivial⟩ ?_
    · rintro A w' Q K hC hK ⟨e0, -⟩
      replace e0 : A.tmps[0]?.getD undef = .pointer (some ⟨bx, f, none⟩) := e0
      simp only [under]
      simp [go_sem, e0]
      exact hK _ _ rfl hC trivial
    · rintro A w' Q K hC hK ⟨e12, -⟩
      replace e12 : A.tmps[12]?.getD undef = .pointer (some ⟨bx, f, none⟩) := e12
      simp only [under]
      simp [go_sem, e12]
      exact hK _ _ rfl hC trivial
    · rintro A w' Q K hC hK ⟨e13, -⟩
      replace e13 : A.tmps[13]?.getD undef = .pointer (some ⟨bx, f, none⟩) := e13
      simp only [under]
      have yb := (hC.cell (p := ⟨bx, f, none⟩) hbx3).trans hX2
      simp [go_sem, e13, yb]
      exact hK _ _ rfl hC trivial
    · rintro A w' Q K hC hK ⟨e0, -⟩
      replace e0 : A.tmps[0]?.getD undef = .pointer (some ⟨bx, f, none⟩) := e0
      simp only [under]
      simp [go_sem, e0]
      exact hK _ _ rfl hC trivial
    · rintro A w' Q K hC hK ⟨e15, -⟩
      replace e15 : A.tmps[15]?.getD undef = .pointer (some ⟨bx, f, none⟩) := e15
      simp only [under]
      simp [go_sem, e15]
      exact hK _ _ rfl hC trivial
    · rintro A w' Q K hC hK ⟨e16, -⟩
      replace e16 : A.tmps[16]?.getD undef = .pointer (some ⟨bx, f, none⟩) := e16
      simp only [under]
      have yb := (hC.cell (p := ⟨bx, f, none⟩) hbx3).trans hX2
      simp [go_sem, e16, yb]
      exact hK _ _ rfl hC trivial
    · rintro A w' Q K hC hK ⟨e17, -⟩
      replace e17 : A.tmps[17]?.getD undef = .slice (some ⟨g, 0, none⟩) (l.length + 1) cp := e17
      simp only [under]
      simp [go_sem, e17]
      exact hK _ _ rfl hC trivial
    · rintro A w' Q K hC hK ⟨e18, -⟩
      replace e18 : A.tmps[18]?.getD undef = .int .i64 ((l.length : Int) + 1) := e18
      simp only [under]
      have hw1 : IntKind.i64.wrap (l.length : Int) = (l.length : Int) := by rw [IntKind.wrap_i64]; omega
      simp [go_sem, e18, hw1]
      exact hK _ _ rfl hC trivial
    · rintro A w' Q K hC hK ⟨e14, e19, -⟩
      replace e14 : A.tmps[14]?.getD undef = .slice (some ⟨g, 0, none⟩) (l.length + 1) cp := e14
      replace e19 : A.tmps[19]?.getD undef = .int .i64 (l.length : Int) := e19
      simp only [under]
      simp [go_sem, e14, e19, hn0, hn1]
      exact hK _ _ rfl hC trivial
    · rintro A w' Q K hC hK ⟨e20, -⟩
      replace e20 : A.tmps[20]?.getD undef = .pointer (some ⟨g, l.length * 3, none⟩) := e20
      simp only [under]
      simp [go_sem, e20]
      exact hK _ _ rfl hC trivial
    · intro W10 hW10
      refine fun v0 h0 v1 h1 v2 h2 v3 h3 v4 h4 v5 h5 v7 h7 v8 h8 v9 h9 v10 h10 => ?_
      obtain rfl := (h10 : v10 = .pointer (some ⟨g, l.length * 3, none⟩))
      clear h0 h1 h2 h3 h4 h5 h7 h8 h9
      simp only [upto, Act.put, List.setIfInBounds_toArray, List.set_cons_zero, List.set_cons_succ]
      go_wp2
      go_ret
      exact ⟨g, cp, rfl, HQ.out.keep hW10⟩

set_option maxRecDepth 100000 in
set_option maxHeartbeats 4000000 in
theorem oneNodes_any (v : Value) (l : List Nd) (B bx f TB : Nat) (cs : Array Value) (w : World) (hB : B ≤ w.heap.size) (ho : Owns 4 Nd.cell 98 B w v l) (hl : l.length ≤ 4000) (hb : Blk w bx cs TB) (hf : cs[f]? = some v) (hne : v.ownBlock ≠ some bx) :
    Calls Tryz.prog 60 #[.pointer (some ⟨bx, f, none⟩)] w fun e w' => ∃ g cp, e = .returned (.pointer (some ⟨g, l.length * 4, none⟩)) ∧ AQ 4 Nd.cell 98 B w v l (nodeSL []) bx TB w' (.slice (some ⟨g, 0, none⟩) (l.length + 1) cp) (cs.setIfInBounds f (.slice (some ⟨g, 0, none⟩) (l.length + 1) cp)) := by
  obtain ⟨aw, cw, rfl, -⟩ := ho.form
  obtain ⟨inf98, i1, i2, i3, i4⟩ := info98
  have I1 := hid i1
  have I2 := hid i2
  have I3 := hid i3
  have I4 := hid i4
  clear i1 i2 i3 i4
  have HO := hid ho
  have HBX := hid hb
  have hbl := hb.lt
  have HF := hid hf
  have HNE := hid hne
  clear ho hb hf hne
  go_enter Tryz.func60, Tryz.ntmps60
  go_wp2_with fail
  obtain ⟨w1, hw1⟩ : ∃ w1, w.alloc (.cells #[.int .i64 0, .int .i64 0, .int .i64 0, .int .i64 0] 98) = w1 := ⟨_, rfl⟩
  have hz : Blk w1 w.heap.size #[.int .i64 0, .int .i64 0, .int .i64 0, .int .i64 0] 98 := hw1 ▸ Blk.new _ _ _
  have hb1 : Below w.heap.size w w1 := by rw [← hw1]; go_grown
  have ho1 := HO.out.keep hb1
  have hx1 := HBX.out.below hb1 hbl
  have hs1 := hb1.size
  rw [hw1]
  clear hw1
  have hxl := hx1.lt
  have hzl := hz.lt
  refine wp_region_tc [[(0, none)], [(0, none)], [(5, some 1)], [(6, some 2)], [(3, none)], [(8, some 4)], [(7, some 3), (9, some 5)], [(4, some 0)], [(11, some 7), (10, some 6)]]
    (fun i v => match i with | 0 => v = .pointer (some ⟨bx, f, none⟩) | 1 => v = .pointer (some ⟨bx, f, none⟩) | 2 => v = .pointer (some ⟨bx, f, none⟩) | 3 => v = .slice aw l.length cw | 4 => v = .agg #[.int .i64 0, .int .i64 0, .int .i64 0, .int .i64 0] | 7 => v = .pointer (some ⟨bx, f, none⟩) | _ => True)
    (AP 4 Nd.cell 98 B w1 (.slice aw l.length cw) l (nodeSL []) bx TB cs f 5 6 8 9 10) 21 rfl (by kernel_rfl) (AP.start (by go_grown)) ⟨?_, ?_, ?_, ?_, ?_, ?_, ?_, ?_, ?_, trivial⟩ ?_
  · rintro t A w2 Q K hsz hts hu hbf haf hC hK ⟨e0, -⟩
    replace e0 : A.tmps[0]?.getD undef = .pointer (some ⟨bx, f, none⟩) := e0
    simp [go_sem, e0]
    exact hK _ _ rfl (hC.other 0 4 _ (by decide) (by decide))
  · rintro t A w2 Q K hsz hts hu hbf haf hC hK ⟨e0, -⟩
    replace e0 : A.tmps[0]?.getD undef = .pointer (some ⟨bx, f, none⟩) := e0
    simp [go_sem, e0]
    exact hK _ _ rfl (hC.other 1 5 _ (by decide) (by decide))
  · rintro t A w2 Q K hsz hts hu hbf haf hC hK ⟨e5, -⟩
    replace e5 : A.tmps[5]?.getD undef = .pointer (some ⟨bx, f, none⟩) := e5
    simp [go_sem, e5]
    exact hK _ _ rfl (hC.other 2 6 _ (by decide) (by decide))
  · rintro t A w2 Q K hsz hts hu hbf haf hC hK ⟨e6, -⟩
    replace e6 : A.tmps[6]?.getD undef = .pointer (some ⟨bx, f, none⟩) := e6
    have yb := ((hx1.below (hC.pre (haf 6 _ rfl (by kernel_rfl))).1 hxl).cell f).trans HF.out
    simp [go_sem, e6, yb]
    exact hK _ _ rfl (hC.other 3 7 _ (by decide) (by decide))
  · rintro t A w2 Q K hsz hts hu hbf haf hC hK ⟨e3, -⟩
    replace e3 : A.tmps[3]?.getD undef = .pointer (some ⟨w.heap.size, 0, none⟩) := e3
    have yb := (hz.below (hC.pre (haf 6 _ rfl (by kernel_rfl))).1 hzl).cell
    simp [go_sem, e3, yb]
    exact hK _ _ rfl (hC.other 4 8 _ (by decide) (by decide))
  · rintro t A w2 Q K hsz hts hu hbf haf hC hK ⟨e8, -⟩
    replace e8 : A.tmps[8]?.getD undef = .agg #[.int .i64 0, .int .i64 0, .int .i64 0, .int .i64 0] := e8
    simp [go_sem, e8]
    exact hK _ _ trivial (hC.new hu (haf 6 _ rfl (by kernel_rfl)) (haf 8 _ rfl (by kernel_rfl)) (by decide) (by rw [hts]; show 9 < 21; decide) (news := [.int .i64 0, .int .i64 0, .int .i64 0, .int .i64 0]) rfl)
  · rintro t A w2 Q K hsz hts hu hbf haf hC hK ⟨e7, -⟩
    replace e7 : A.tmps[7]?.getD undef = .slice aw l.length cw := e7
    obtain ⟨hp, hy⟩ := hC.pre (getD_tf hu).1
    obtain ⟨bb, hy, hbk⟩ := hy (hbf 5 (by kernel_rfl))
    replace hy : A.tmps[9]?.getD undef = .slice (some ⟨bb, 0, none⟩) 1 1 := hy
    replace hbk : Blk w2 bb #[.int .i64 0, .int .i64 0, .int .i64 0, .int .i64 0] 98 := hbk
    refine oper_append_at rfl (.tmp 7) (.tmp 9) 32 rfl B 98 inf98 _ 4 32 Tryz.underlying32 I1.out I2.out I3.out I4.out (by rfl) (by omega) (.slice aw l.length cw) l.length (flat 4 Nd.cell l) (by simp [go_sem, e7]) (ho1.keep hp) ⟨bb, 0, none⟩ 1 1 [.int .i64 0, .int .i64 0, .int .i64 0, .int .i64 0] (by simp [go_sem, hy]) (by rfl) (fun q u hq => by rw [addmid, Nat.zero_add, hbk.cell]; simpa using hq) (by intro u hu; simp at hu; subst hu; rfl) (by unfold maxLen; omega) (by omega) (by have := hp.size; omega) ?_
    intro z2 w3 hown hgrow hfr
    exact hK z2 w3 trivial (hC.app hu (haf 8 _ rfl (by kernel_rfl)) (by decide) (by rw [hts]; show 10 < 21; decide) hx1 HNE.out (news := [.int .i64 0, .int .i64 0, .int .i64 0, .int .i64 0]) rfl hown hgrow hfr)
  · rintro t A w2 Q K hsz hts hu hbf haf hC hK ⟨e4, -⟩
    replace e4 : A.tmps[4]?.getD undef = .pointer (some ⟨bx, f, none⟩) := e4
    simp [go_sem, e4]
    exact hK _ _ rfl (hC.other 7 11 _ (by decide) (by decide))
  · rintro t A w2 Q K hsz hts hu hbf haf hC hK ⟨e11, -⟩
    replace e11 : A.tmps[11]?.getD undef = .pointer (some ⟨bx, f, none⟩) := e11
    have hA := hbf 6 (by kernel_rfl)
    have hq := hC.mid hA (getD_tf hu).1
    obtain ⟨a9, c9, hz9, -⟩ := hq.own.form
    have e10 : A.tmps[10]?.getD undef = .slice a9 (l ++ [(nodeSL [])]).length c9 := hz9
    have X := (hq.box.cell f).trans HF.out
    have F := hq.box.frozen f
    have hl9 := hC.last (f := f) hu hA (by decide) HNE.out hxl (u := undef) hz9
    clear hq hC hz9
    simp [go_sem, e11, e10, X, F]
    refine hK undef _ trivial ?_
    simpa using hl9
  · intro a' w3 ha' hC'
    refine fun v0 h0 v1 h1 v2 h2 v3 h3 v4 h4 v5 h5 v6 h6 v7 h7 => ?_
    intro he
    subst he
    have hq := hC'.fin (by simp)
    simp [Act.put, ev] at hq
    clear hC' ha' h0 h1 h2 h3 h4 h5 h6 h7
    have hq' : AQ 4 Nd.cell 98 B w (.slice aw l.length cw) l (nodeSL []) bx TB w3 v6 (cs.setIfInBounds f v6) := by
      refine ⟨(Only.of_below hb1).trans hq.only, hq.box, hq.own, hq.from'.imp id (fun ⟨k, h1, h2⟩ => ⟨k, h1, Nat.le_trans hs1 h2⟩)⟩
    obtain ⟨g, cp, rfl⟩ := row_form (show w3.ownsRow B 98 4 v6 (l.length + 1) _ from by have := hq.own; unfold Owns at this; rw [List.length_append] at this; exact this)
    have hX := (hq'.box.cell f)
    have hfs : f < cs.size := by
      have := HF.out
      rcases Nat.lt_or_ge f cs.size with h | h
      · exact h
      · rw [Array.getElem?_eq_none h] at this; cases this
    have hX2 : w3.cell? ⟨bx, f, none⟩ = some (.slice (some ⟨g, 0, none⟩) (l.length + 1) cp) := by rw [hX]; simp [hfs]
    have HQ := hid hq'
    have hn0 : (0 : Int) ≤ (l.length : Int) := by omega
    have hn1 : (l.length : Int) < (l.length : Int) + 1 := by omega
    clear hq hq' hX
    simp only [Act.put, List.setIfInBounds_toArray, List.set_cons_zero, List.set_cons_succ]
    have hbx3 := HQ.out.box.lt
    go_wp2
    refine wp_region_tw [[(0, none)], [(12, some 0)], [(13, some 1)], [(0, none)], [(15, some 3)], [(16, some 4)], [(17, some 5)], [(18, some 6)], [(14, some 2), (19, some 7)], [(20, some 8)]]
      (fun i v _ => match i with | 0 => v = .pointer (some ⟨bx, f, none⟩) | 1 => v = .pointer (some ⟨bx, f, none⟩) | 2 => v = .slice (some ⟨g, 0, none⟩) (l.length + 1) cp | 3 => v = .pointer (some ⟨bx, f, none⟩) | 4 => v = .pointer (some ⟨bx, f, none⟩) | 5 => v = .slice (some ⟨g, 0, none⟩) (l.length + 1) cp | 6 => v = .int .i64 ((l.length : Int) + 1) | 7 => v = .int .i64 (l.length : Int) | 8 => v = .pointer (some ⟨g, l.length * 4, none⟩) | 9 => v = .pointer (some ⟨g, l.length * 4, none⟩) | _ => True)
      (fun V => Below w3.heap.size w3 V) (fun _ _ => True) 21 rfl (by kernel_rfl) (fun _ _ _ _ _ _ h => h) (fun _ => trivial) (by go_grown) ⟨?_, ?_, ?_, ?_, ?_, ?_, ?_, ?_, ?_, ?_, trivial⟩ ?_
    · rintro A w' Q K hC hK ⟨e0, -⟩
      replace e0 : A.tmps[0]?.getD undef = .pointer (some ⟨bx, f, none⟩) := e0
      simp only [under]
      simp [go_sem, e0]
      exact hK _ _ rfl hC trivial
    · rintro A w' Q K hC hK ⟨e12, -⟩
      replace e12 : A.tmps[12]?.getD undef = .pointer (some ⟨bx, f, none⟩) := e12
      simp only [under]
      simp [go_sem, e12]
      exact hK _ _ rfl hC trivial
    · rintro A w' Q K hC hK ⟨e13, -⟩
      replace e13 : A.tmps[13]?.getD undef = .pointer (some ⟨bx, f, none⟩) := e13
      simp only [under]
      have yb := (hC.cell (p := ⟨bx, f, none⟩) hbx3).trans hX2
      simp [go_sem, e13, yb]
      exact hK _ _ rfl hC trivial
    · rintro A w' Q K hC hK ⟨e0, -⟩
      replace e0 : A.tmps[0]?.getD undef = .pointer (some ⟨bx, f, none⟩) := e0
      simp only [under]
      simp [go_sem, e0]
      exact hK _ _ rfl hC trivial
    · rintro A w' Q K hC hK ⟨e15, -⟩
      replace e15 : A.tmps[15]?.getD undef = .pointer (some ⟨bx, f, none⟩) := e15
      simp only [under]
      simp [go_sem, e15]
      exact hK _ _ rfl hC trivial
    · rintro A w' Q K hC hK ⟨e16, -⟩
      replace e16 : A.tmps[16]?.getD undef = .pointer (some ⟨bx, f, none⟩) := e16
      simp only [under]
      have yb := (hC.cell (p := ⟨bx, f, none⟩) hbx3).trans hX2
      simp [go_sem, e16, yb]
      exact hK _ _ rfl hC trivial
    · rintro A w' Q K hC hK ⟨e17, -⟩
      replace e17 : A.tmps[17]?.getD undef = .slice (some ⟨g, 0, none⟩) (l.length + 1) cp := e17
      simp only [under]
      simp [go_sem, e17]
      exact hK _ _ rfl hC trivial
    · rintro A w' Q K hC hK ⟨e18, -⟩
      replace e18 : A.tmps[18]?.getD undef = .int .i64 ((l.length : Int) + 1) := e18
      simp only [under]
      have hw1 : IntKind.i64.wrap (l.length : Int) = (l.length : Int) := by rw [IntKind.wrap_i64]; omega
      simp [go_sem, e18, hw1]
      exact hK _ _ rfl hC trivial
    · rintro A w' Q K hC hK ⟨e14, e19, -⟩
      replace e14 : A.tmps[14]?.getD undef = .slice (some ⟨g, 0, none⟩) (l.length + 1) cp := e14
      replace e19 : A.tmps[19]?.getD undef = .int .i64 (l.length : Int) := e19
      simp only [under]
      simp [go_sem, e14, e19, hn0, hn1]
      exact hK _ _ rfl hC trivial
    · rintro A w' Q K hC hK ⟨e20, -⟩
      replace e20 : A.tmps[20]?.getD undef = .pointer (some ⟨g, l.length * 4, none⟩) := e20
      simp only [under]
      simp [go_sem, e20]
      exact hK _ _ rfl hC trivial
    · intro W10 hW10
      refine fun v0 h0 v1 h1 v2 h2 v3 h3 v4 h4 v5 h5 v7 h7 v8 h8 v9 h9 v10 h10 => ?_
      obtain rfl := (h10 : v10 = .pointer (some ⟨g, l.length * 4, none⟩))
      clear h0 h1 h2 h3 h4 h5 h7 h8 h9
      simp only [upto, Act.put, List.setIfInBounds_toArray, List.set_cons_zero, List.set_cons_succ]
      go_wp2
      go_ret
      exact ⟨g, cp, rfl, HQ.out.keep hW10⟩

set_option maxRecDepth 100000 in
set_option maxHeartbeats 4000000 in
theorem onePods_any (v : Value) (l : List Pd) (B bx f TB : Nat) (cs : Array Value) (w : World) (hB : B ≤ w.heap.size) (ho : Owns 5 Pd.cell 100 B w v l) (hl : l.length ≤ 4000) (hb : Blk w bx cs TB) (hf : cs[f]? = some v) (hne : v.ownBlock ≠ some bx) :
    Calls Tryz.prog 61 #[.pointer (some ⟨bx, f, none⟩)] w fun e w' => ∃ g cp, e = .returned (.pointer (some ⟨g, l.length * 5, none⟩)) ∧ AQ 5 Pd.cell 100 B w v l (podSL []) bx TB w' (.slice (some ⟨g, 0, none⟩) (l.length + 1) cp) (cs.setIfInBounds f (.slice (some ⟨g, 0, none⟩) (l.length + 1) cp)) := by
  obtain ⟨aw, cw, rfl, -⟩ := ho.form
  obtain ⟨inf100, i1, i2, i3, i4⟩ := info100
  have I1 := hid i1
  have I2 := hid i2
  have I3 := hid i3
  have I4 := hid i4
  clear i1 i2 i3 i4
  have HO := hid ho
  have HBX := hid hb
  have hbl := hb.lt
  have HF := hid hf
  have HNE := hid hne
  clear ho hb hf hne
  go_enter Tryz.func61, Tryz.ntmps61
  go_wp2_with fail
  obtain ⟨w1, hw1⟩ : ∃ w1, w.alloc (.cells #[.int .i64 0, .int .i64 0, .int .i64 0, .int .i64 0, .int .i64 0] 100) = w1 := ⟨_, rfl⟩
  have hz : Blk w1 w.heap.size #[.int .i64 0, .int .i64 0, .int .i64 0, .int .i64 0, .int .i64 0] 100 := hw1 ▸ Blk.new _ _ _
  have hb1 : Below w.heap.size w w1 := by rw [← hw1]; go_grown
  have ho1 := HO.out.keep hb1
  have hx1 := HBX.out.below hb1 hbl
  have hs1 := hb1.size
  rw [hw1]
  clear hw1
  have hxl := hx1.lt
  have hzl := hz.lt
  refine wp_region_tc [[(0, none)], [(0, none)], [(5, some 1)], [(6, some 2)], [(3, none)], [(8, some 4)], [(7, some 3), (9, some 5)], [(4, some 0)], [(11, some 7), (10, some 6)]]
    (fun i v => match i with | 0 => v = .pointer (some ⟨bx, f, none⟩) | 1 => v = .pointer (some ⟨bx, f, none⟩) | 2 => v = .pointer (some ⟨bx, f, none⟩) | 3 => v = .slice aw l.length cw | 4 => v = .agg #[.int .i64 0, .int .i64 0, .int .i64 0, .int .i64 0, .int .i64 0] | 7 => v = .pointer (some ⟨bx, f, none⟩) | _ => True)
    (AP 5 Pd.cell 100 B w1 (.slice aw l.length cw) l (podSL []) bx TB cs f 5 6 8 9 10) 21 rfl (by kernel_rfl) (AP.start (by go_grown)) ⟨?_, ?_, ?_, ?_, ?_, ?_, ?_, ?_, ?_, trivial⟩ ?_
  · rintro t A w2 Q K hsz hts hu hbf haf hC hK ⟨e0, -⟩
    replace e0 : A.tmps[0]?.getD undef = .pointer (some ⟨bx, f, none⟩) := e0
    simp [go_sem, e0]
    exact hK _ _ rfl (hC.other 0 4 _ (by decide) (by decide))
  · rintro t A w2 Q K hsz hts hu hbf haf hC hK ⟨e0, -⟩
    replace e0 : A.tmps[0]?.getD undef = .pointer (some ⟨bx, f, none⟩) := e0
    simp [go_sem, e0]
    exact hK _ _ rfl (hC.other 1 5 _ (by decide) (by decide))
  · rintro t A w2 Q K hsz hts hu hbf haf hC hK ⟨e5, -⟩
    replace e5 : A.tmps[5]?.getD undef = .pointer (some ⟨bx, f, none⟩) := e5
    simp [go_sem, e5]
    exact hK _ _ rfl (hC.other 2 6 _ (by decide) (by decide))
  · rintro t A w2 Q K hsz hts hu hbf haf hC hK ⟨e6, -⟩
    replace e6 : A.tmps[6]?.getD undef = .pointer (some ⟨bx, f, none⟩) := e6
    have yb := ((hx1.below (hC.pre (haf 6 _ rfl (by kernel_rfl))).1 hxl).cell f).trans HF.out
    simp [go_sem, e6, yb]
    exact hK _ _ rfl (hC.other 3 7 _ (by decide) (by decide))
  · rintro t A w2 Q K hsz hts hu hbf haf hC hK ⟨e3, -⟩
    replace e3 : A.tmps[3]?.getD undef = .pointer (some ⟨w.heap.size, 0, none⟩) := e3
    have yb := (hz.below (hC.pre (haf 6 _ rfl (by kernel_rfl))).1 hzl).cell
    simp [go_sem, e3, yb]
    exact hK _ _ rfl (hC.other 4 8 _ (by decide) (by decide))
  · rintro t A w2 Q K hsz hts hu hbf haf hC hK ⟨e8, -⟩
    replace e8 : A.tmps[8]?.getD undef = .agg #[.int .i64 0, .int .i64 0, .int .i64 0, .int .i64 0, .int .i64 0] := e8
    simp [go_sem, e8]
    exact hK _ _ trivial (hC.new hu (haf 6 _ rfl (by kernel_rfl)) (haf 8 _ rfl (by kernel_rfl)) (by decide) (by rw [hts]; show 9 < 21; decide) (news := [.int .i64 0, .int .i64 0, .int .i64 0, .int .i64 0, .int .i64 0]) rfl)
  · rintro t A w2 Q K hsz hts hu hbf haf hC hK ⟨e7, -⟩
    replace e7 : A.tmps[7]?.getD undef = .slice aw l.length cw := e7
    obtain ⟨hp, hy⟩ := hC.pre (getD_tf hu).1
    obtain ⟨bb, hy, hbk⟩ := hy (hbf 5 (by kernel_rfl))
    replace hy : A.tmps[9]?.getD undef = .slice (some ⟨bb, 0, none⟩) 1 1 := hy
    replace hbk : Blk w2 bb #[.int .i64 0, .int .i64 0, .int .i64 0, .int .i64 0, .int .i64 0] 100 := hbk
    refine oper_append_at rfl (.tmp 7) (.tmp 9) 31 rfl B 100 inf100 _ 5 40 Tryz.underlying31 I1.out I2.out I3.out I4.out (by rfl) (by omega) (.slice aw l.length cw) l.length (flat 5 Pd.cell l) (by simp [go_sem, e7]) (ho1.keep hp) ⟨bb, 0, none⟩ 1 1 [.int .i64 0, .int .i64 0, .int .i64 0, .int .i64 0, .int .i64 0] (by simp [go_sem, hy]) (by rfl) (fun q u hq => by rw [addmid, Nat.zero_add, hbk.cell]; simpa using hq) (by intro u hu; simp at hu; subst hu; rfl) (by unfold maxLen; omega) (by omega) (by have := hp.size; omega) ?_
    intro z2 w3 hown hgrow hfr
    exact hK z2 w3 trivial (hC.app hu (haf 8 _ rfl (by kernel_rfl)) (by decide) (by rw [hts]; show 10 < 21; decide) hx1 HNE.out (news := [.int .i64 0, .int .i64 0, .int .i64 0, .int .i64 0, .int .i64 0]) rfl hown hgrow hfr)
  · rintro t A w2 Q K hsz hts hu hbf haf hC hK ⟨e4, -⟩
    replace e4 : A.tmps[4]?.getD undef = .pointer (some ⟨bx, f, none⟩) := e4
    simp [go_sem, e4]
    exact hK _ _ rfl (hC.other 7 11 _ (by decide) (by decide))
  · rintro t A w2 Q K hsz hts hu hbf haf hC hK ⟨e11, -⟩
    replace e11 : A.tmps[11]?.getD undef = .pointer (some ⟨bx, f, none⟩) := e11
    have hA := hbf 6 (by kernel_rfl)
    have hq := hC.mid hA (getD_tf hu).1
    obtain ⟨a9, c9, hz9, -⟩ := hq.own.form
    have e10 : A.tmps[10]?.getD undef = .slice a9 (l ++ [(podSL [])]).length c9 := hz9
    have X := (hq.box.cell f).trans HF.out
    have F := hq.box.frozen f
    have hl9 := hC.last (f := f) hu hA (by decide) HNE.out hxl (u := undef) hz9
    clear hq hC hz9
    simp [go_sem, e11, e10, X, F]
    refine hK undef _ trivial ?_
    simpa using hl9
  · intro a' w3 ha' hC'
    refine fun v0 h0 v1 h1 v2 h2 v3 h3 v4 h4 v5 h5 v6 h6 v7 h7 => ?_
    intro he
    subst he
    have hq := hC'.fin (by simp)
    simp [Act.put, ev] at hq
    clear hC' ha' h0 h1 h2 h3 h4 h5 h6 h7
    have hq' : AQ 5 Pd.cell 100 B w (.slice aw l.length cw) l (podSL []) bx TB w3 v6 (cs.setIfInBounds f v6) := by
      refine ⟨(Only.of_below hb1).trans hq.only, hq.box, hq.own, hq.from'.imp id (fun ⟨k, h1, h2⟩ => ⟨k, h1, Nat.le_trans hs1 h2⟩)⟩
    obtain ⟨g, cp, rfl⟩ := row_form (show w3.ownsRow B 100 5 v6 (l.length + 1) _ from by have := hq.own; unfold Owns at this; rw [List.length_append] at this; exact this)
    have hX := (hq'.box.cell f)
    have hfs : f < cs.size := by
      have := HF.out
      rcases Nat.lt_or_ge f cs.size with h | h
      · exact h
      · rw [Array.getElem?_eq_none h] at this; cases this
    have hX2 : w3.cell? ⟨bx, f, none⟩ = some (.slice (some ⟨g, 0, none⟩) (l.length + 1) cp) := by rw [hX]; simp [hfs]
    have HQ := hid hq'
    have hn0 : (0 : Int) ≤ (l.length : Int) := by omega
    have hn1 : (l.length : Int) < (l.length : Int) + 1 := by omega
    clear hq hq' hX
    simp only [Act.put, List.setIfInBounds_toArray, List.set_cons_zero, List.set_cons_succ]
    have hbx3 := HQ.out.box.lt
    go_wp2
    refine wp_region_tw [[(0, none)], [(12, some 0)], [(13, some 1)], [(0, none)], [(15, some 3)], [(16, some 4)], [(17, some 5)], [(18, some 6)], [(14, some 2), (19, some 7)], [(20, some 8)]]
      (fun i v _ => match i with | 0 => v = .pointer (some ⟨bx, f, none⟩) | 1 => v = .pointer (some ⟨bx, f, none⟩) | 2 => v = .slice (some ⟨g, 0, none⟩) (l.length + 1) cp | 3 => v = .pointer (some ⟨bx, f, none⟩) | 4 => v = .pointer (some ⟨bx, f, none⟩) | 5 => v = .slice (some ⟨g, 0, none⟩) (l.length + 1) cp | 6 => v = .int .i64 ((l.length : Int) + 1) | 7 => v = .int .i64 (l.length : Int) | 8 => v = .pointer (some ⟨g, l.length * 5, none⟩) | 9 => v = .pointer (some ⟨g, l.length * 5, none⟩) | _ => True)
      (fun V => Below w3.heap.size w3 V) (fun _ _ => True) 21 rfl (by kernel_rfl) (fun _ _ _ _ _ _ h => h) (fun _ => trivial) (by go_grown) ⟨?_, ?_, ?_, ?_, ?_, ?_, ?_, ?_, ?_, ?_, trivial⟩ ?_
    · rintro A w' Q K hC hK ⟨e0, -⟩
      replace e0 : A.tmps[0]?.getD undef = .pointer (some ⟨bx, f, none⟩) := e0
      simp only [under]
      simp [go_sem, e0]
      exact hK _ _ rfl hC trivial
    · rintro A w' Q K hC hK ⟨e12, -⟩
      replace e12 : A.tmps[12]?.getD undef = .pointer (some ⟨bx, f, none⟩) := e12
      simp only [under]
      simp [go_sem, e12]
      exact hK _ _ rfl hC trivial
    · rintro A w' Q K hC hK ⟨e13, -⟩
      replace e13 : A.tmps[13]?.getD undef = .pointer (some ⟨bx, f, none⟩) := e13
      simp only [under]
      have yb := (hC.cell (p := ⟨bx, f, none⟩) hbx3).trans hX2
      simp [go_sem, e13, yb]
      exact hK _ _ rfl hC trivial
    · rintro A w' Q K hC hK ⟨e0, -⟩
      replace e0 : A.tmps[0]?.getD undef = .pointer (some ⟨bx, f, none⟩) := e0
      simp only [under]
      simp [go_sem, e0]
      exact hK _ _ rfl hC trivial
    · rintro A w' Q K hC hK ⟨e15, -⟩
      replace e15 : A.tmps[15]?.getD undef = .pointer (some ⟨bx, f, none⟩) := e15
      simp only [under]
      simp [go_sem, e15]
      exact hK _ _ rfl hC trivial
    · rintro A w' Q K hC hK ⟨e16, -⟩
      replace e16 : A.tmps[16]?.getD undef = .pointer (some ⟨bx, f, none⟩) := e16
      simp only [under]
      have yb := (hC.cell (p := ⟨bx, f, none⟩) hbx3).trans hX2
      simp [go_sem, e16, yb]
      exact hK _ _ rfl hC trivial
    · rintro A w' Q K hC hK ⟨e17, -⟩
      replace e17 : A.tmps[17]?.getD undef = .slice (some ⟨g, 0, none⟩) (l.length + 1) cp := e17
      simp only [under]
      simp [go_sem, e17]
      exact hK _ _ rfl hC trivial
    · rintro A w' Q K hC hK ⟨e18, -⟩
      replace e18 : A.tmps[18]?.getD undef = .int .i64 ((l.length : Int) + 1) := e18
      simp only [under]
      have hw1 : IntKind.i64.wrap (l.length : Int) = (l.length : Int) := by rw [IntKind.wrap_i64]; omega
      simp [go_sem, e18, hw1]
      exact hK _ _ rfl hC trivial
    · rintro A w' Q K hC hK ⟨e14, e19, -⟩
      replace e14 : A.tmps[14]?.getD undef = .slice (some ⟨g, 0, none⟩) (l.length + 1) cp := e14
      replace e19 : A.tmps[19]?.getD undef = .int .i64 (l.length : Int) := e19
      simp only [under]
      simp [go_sem, e14, e19, hn0, hn1]
      exact hK _ _ rfl hC trivial
    · rintro A w' Q K hC hK ⟨e20, -⟩
      replace e20 : A.tmps[20]?.getD undef = .pointer (some ⟨g, l.length * 5, none⟩) := e20
      simp only [under]
      simp [go_sem, e20]
      exact hK _ _ rfl hC trivial
    · intro W10 hW10
      refine fun v0 h0 v1 h1 v2 h2 v3 h3 v4 h4 v5 h5 v7 h7 v8 h8 v9 h9 v10 h10 => ?_
      obtain rfl := (h10 : v10 = .pointer (some ⟨g, l.length * 5, none⟩))
      clear h0 h1 h2 h3 h4 h5 h7 h8 h9
      simp only [upto, Act.put, List.setIfInBounds_toArray, List.set_cons_zero, List.set_cons_succ]
      go_wp2
      go_ret
      exact ⟨g, cp, rfl, HQ.out.keep hW10⟩

theorem PtrR.bel {w w' : World} {b r : Nat} {os : List Nat} (h : PtrR w b r os) (hb : Below w.heap.size w w') : PtrR w' b r os :=
  ⟨Nat.lt_of_lt_of_le h.1 hb.size, fun i hi => by rw [below_cell hb h.1]; exact h.2 i hi⟩

set_option maxRecDepth 100000 in
set_option maxHeartbeats 2000000 in
theorem fieldsWorks_any (r o : Nat) (w : World) :
    Calls Tryz.prog 169 #[.pointer (some ⟨r, o, none⟩)] w fun e w2 => ∃ b c, e = .returned (.slice (some ⟨b, 0, none⟩) [o, o + 1, o + 2].length c) ∧ w.heap.size ≤ b ∧ PtrR w2 b r [o, o + 1, o + 2] ∧ Below w.heap.size w w2 := by
  go_enter Tryz.func169, Tryz.ntmps169
  go_wp2_with fail
  refine wp_region_tw [[(0, none)], [(3, some 0)], [(4, some 1)], [(0, none)], [(6, some 3)], [(7, some 4)], [(0, none)], [(9, some 6)], [(10, some 7)], [(5, some 2), (8, some 5), (11, some 8)], [(12, some 9)]]
    (fun i v w1 => match i with | 0 => v = .pointer (some ⟨r, o, none⟩) | 1 => v = .pointer (some ⟨r, o, none⟩) | 2 => v = .pointer (some ⟨r, o, none⟩) | 3 => v = .pointer (some ⟨r, o, none⟩) | 4 => v = .pointer (some ⟨r, o, none⟩) | 5 => v = .pointer (some ⟨r, o + 1, none⟩) | 6 => v = .pointer (some ⟨r, o, none⟩) | 7 => v = .pointer (some ⟨r, o, none⟩) | 8 => v = .pointer (some ⟨r, o + 2, none⟩) | 9 => ∃ b, v = .slice (some ⟨b, 0, none⟩) 3 3 ∧ w.heap.size ≤ b ∧ PtrR w1 b r [o, o + 1, o + 2] | 10 => ∃ b, v = .slice (some ⟨b, 0, none⟩) 3 3 ∧ w.heap.size ≤ b ∧ PtrR w1 b r [o, o + 1, o + 2] | _ => True)
    (fun V => Below w.heap.size w V) (fun w1 w2 => Below w1.heap.size w1 w2) 13 rfl (by kernel_rfl)
    (fun i v w1 w2 _ hR hT => by
      match i, hT with
      | 0, hT => exact hT
      | 1, hT => exact hT
      | 2, hT => exact hT
      | 3, hT => exact hT
      | 4, hT => exact hT
      | 5, hT => exact hT
      | 6, hT => exact hT
      | 7, hT => exact hT
      | 8, hT => exact hT
      | 9, hT => obtain ⟨b, h1, h2, h3⟩ := hT; exact ⟨b, h1, h2, h3.bel hR⟩
      | 10, hT => obtain ⟨b, h1, h2, h3⟩ := hT; exact ⟨b, h1, h2, h3.bel hR⟩
      | (n + 11), hT => exact hT)
    (fun _ => Below.refl _ _) (by go_grown) ⟨?_, ?_, ?_, ?_, ?_, ?_, ?_, ?_, ?_, ?_, ?_, trivial⟩ ?_
  · rintro A w1 Q K hC hK ⟨e0, -⟩
    replace e0 : A.tmps[0]?.getD undef = .pointer (some ⟨r, o, none⟩) := e0
    simp only [under]
    simp [go_sem, e0]
    exact hK _ _ rfl hC (Below.refl _ _)
  · rintro A w1 Q K hC hK ⟨e3, -⟩
    replace e3 : A.tmps[3]?.getD undef = .pointer (some ⟨r, o, none⟩) := e3
    simp only [under]
    simp [go_sem, e3]
    exact hK _ _ rfl hC (Below.refl _ _)
  · rintro A w1 Q K hC hK ⟨e4, -⟩
    replace e4 : A.tmps[4]?.getD undef = .pointer (some ⟨r, o, none⟩) := e4
    simp only [under]
    simp [go_sem, e4]
    exact hK _ _ rfl hC (Below.refl _ _)
  · rintro A w1 Q K hC hK ⟨e0, -⟩
    replace e0 : A.tmps[0]?.getD undef = .pointer (some ⟨r, o, none⟩) := e0
    simp only [under]
    simp [go_sem, e0]
    exact hK _ _ rfl hC (Below.refl _ _)
  · rintro A w1 Q K hC hK ⟨e6, -⟩
    replace e6 : A.tmps[6]?.getD undef = .pointer (some ⟨r, o, none⟩) := e6
    simp only [under]
    simp [go_sem, e6]
    exact hK _ _ rfl hC (Below.refl _ _)
  · rintro A w1 Q K hC hK ⟨e7, -⟩
    replace e7 : A.tmps[7]?.getD undef = .pointer (some ⟨r, o, none⟩) := e7
    simp only [under]
    simp [go_sem, e7]
    exact hK _ _ rfl hC (Below.refl _ _)
  · rintro A w1 Q K hC hK ⟨e0, -⟩
    replace e0 : A.tmps[0]?.getD undef = .pointer (some ⟨r, o, none⟩) := e0
    simp only [under]
    simp [go_sem, e0]
    exact hK _ _ rfl hC (Below.refl _ _)
  · rintro A w1 Q K hC hK ⟨e9, -⟩
    replace e9 : A.tmps[9]?.getD undef = .pointer (some ⟨r, o, none⟩) := e9
    simp only [under]
    simp [go_sem, e9]
    exact hK _ _ rfl hC (Below.refl _ _)
  · rintro A w1 Q K hC hK ⟨e10, -⟩
    replace e10 : A.tmps[10]?.getD undef = .pointer (some ⟨r, o, none⟩) := e10
    simp only [under]
    simp [go_sem, e10]
    exact hK _ _ rfl hC (Below.refl _ _)
  · rintro A w1 Q K hC hK ⟨e5, e8, e11, -⟩
    replace e5 : A.tmps[5]?.getD undef = .pointer (some ⟨r, o, none⟩) := e5
    replace e8 : A.tmps[8]?.getD undef = .pointer (some ⟨r, o + 1, none⟩) := e8
    replace e11 : A.tmps[11]?.getD undef = .pointer (some ⟨r, o + 2, none⟩) := e11
    simp only [under]
    simp [go_sem, e5, e8, e11]
    have hg : Below w1.heap.size w1 (w1.alloc (.cells #[.pointer (some ⟨r, o, none⟩), .pointer (some ⟨r, o + 1, none⟩), .pointer (some ⟨r, o + 2, none⟩)] 140)) := by go_grown
    refine hK _ _ ⟨w1.heap.size, rfl, hC.size, by simp, fun i hi => ?_⟩ (hC.trans (hg.mono hC.size)) hg
    match i, hi with
    | 0, _ => simp [go_sem]
    | 1, _ => simp [go_sem]
    | 2, _ => simp [go_sem]
  · rintro A w1 Q K hC hK ⟨e12, -⟩
    replace e12 : ∃ b, A.tmps[12]?.getD undef = .slice (some ⟨b, 0, none⟩) 3 3 ∧ w.heap.size ≤ b ∧ PtrR w1 b r [o, o + 1, o + 2] := e12
    obtain ⟨b, e12, h2, h3⟩ := e12
    simp only [under]
    simp [go_sem, e12]
    exact hK _ _ ⟨b, rfl, h2, h3⟩ hC (Below.refl _ _)
  · intro W10 hW10
    refine fun v0 h0 v1 h1 v2 h2 v3 h3 v4 h4 v5 h5 v6 h6 v7 h7 v8 h8 v9 h9 v10 h10 => ?_
    obtain ⟨b, rfl, hq2, hq3⟩ := h10
    clear h0 h1 h2 h3 h4 h5 h6 h7 h8 h9
    simp only [upto, Act.put, List.setIfInBounds_toArray, List.set_cons_zero, List.set_cons_succ]
    go_wp2
    go_ret
    exact ⟨b, _, rfl, hq2, hq3, hW10⟩

set_option maxRecDepth 100000 in
set_option maxHeartbeats 2000000 in
theorem fieldsGroups_any (r o : Nat) (w : World) :
    Calls Tryz.prog 171 #[.pointer (some ⟨r, o, none⟩)] w fun e w2 => ∃ b c, e = .returned (.slice (some ⟨b, 0, none⟩) [o, o + 1, o + 2].length c) ∧ w.heap.size ≤ b ∧ PtrR w2 b r [o, o + 1, o + 2] ∧ Below w.heap.size w w2 := by
  go_enter Tryz.func171, Tryz.ntmps171
  go_wp2_with fail
  refine wp_region_tw [[(0, none)], [(3, some 0)], [(4, some 1)], [(0, none)], [(6, some 3)], [(7, some 4)], [(0, none)], [(9, some 6)], [(10, some 7)], [(5, some 2), (8, some 5), (11, some 8)], [(12, some 9)]]
    (fun i v w1 => match i with | 0 => v = .pointer (some ⟨r, o, none⟩) | 1 => v = .pointer (some ⟨r, o, none⟩) | 2 => v = .pointer (some ⟨r, o, none⟩) | 3 => v = .pointer (some ⟨r, o, none⟩) | 4 => v = .pointer (some ⟨r, o, none⟩) | 5 => v = .pointer (some ⟨r, o + 1, none⟩) | 6 => v = .pointer (some ⟨r, o, none⟩) | 7 => v = .pointer (some ⟨r, o, none⟩) | 8 => v = .pointer (some ⟨r, o + 2, none⟩) | 9 => ∃ b, v = .slice (some ⟨b, 0, none⟩) 3 3 ∧ w.heap.size ≤ b ∧ PtrR w1 b r [o, o + 1, o + 2] | 10 => ∃ b, v = .slice (some ⟨b, 0, none⟩) 3 3 ∧ w.heap.size ≤ b ∧ PtrR w1 b r [o, o + 1, o + 2] | _ => True)
    (fun V => Below w.heap.size w V) (fun w1 w2 => Below w1.heap.size w1 w2) 13 rfl (by kernel_rfl)
    (fun i v w1 w2 _ hR hT => by
      match i, hT with
      | 0, hT => exact hT
      | 1, hT => exact hT
      | 2, hT => exact hT
      | 3, hT => exact hT
      | 4, hT => exact hT
      | 5, hT => exact hT
      | 6, hT => exact hT
      | 7, hT => exact hT
      | 8, hT => exact hT
      | 9, hT => obtain ⟨b, h1, h2, h3⟩ := hT; exact ⟨b, h1, h2, h3.bel hR⟩
      | 10, hT => obtain ⟨b, h1, h2, h3⟩ := hT; exact ⟨b, h1, h2, h3.bel hR⟩
      | (n + 11), hT => exact hT)
    (fun _ => Below.refl _ _) (by go_grown) ⟨?_, ?_, ?_, ?_, ?_, ?_, ?_, ?_, ?_, ?_, ?_, trivial⟩ ?_
  · rintro A w1 Q K hC hK ⟨e0, -⟩
    replace e0 : A.tmps[0]?.getD undef = .pointer (some ⟨r, o, none⟩) := e0
    simp only [under]
    simp [go_sem, e0]
    exact hK _ _ rfl hC (Below.refl _ _)
  · rintro A w1 Q K hC hK ⟨e3, -⟩
    replace e3 : A.tmps[3]?.getD undef = .pointer (some ⟨r, o, none⟩) := e3
    simp only [under]
    simp [go_sem, e3]
    exact hK _ _ rfl hC (Below.refl _ _)
  · rintro A w1 Q K hC hK ⟨e4, -⟩
    replace e4 : A.tmps[4]?.getD undef = .pointer (some ⟨r, o, none⟩) := e4
    simp only [under]
    simp [go_sem, e4]
    exact hK _ _ rfl hC (Below.refl _ _)
  · rintro A w1 Q K hC hK ⟨e0, -⟩
    replace e0 : A.tmps[0]?.getD undef = .pointer (some ⟨r, o, none⟩) := e0
    simp only [under]
    simp [go_sem, e0]
    exact hK _ _ rfl hC (Below.refl _ _)
  · rintro A w1 Q K hC hK ⟨e6, -⟩
    replace e6 : A.tmps[6]?.getD undef = .pointer (some ⟨r, o, none⟩) := e6
    simp only [under]
    simp [go_sem, e6]
    exact hK _ _ rfl hC (Below.refl _ _)
  · rintro A w1 Q K hC hK ⟨e7, -⟩
    replace e7 : A.tmps[7]?.getD undef = .pointer (some ⟨r, o, none⟩) := e7
    simp only [under]
    simp [go_sem, e7]
    exact hK _ _ rfl hC (Below.refl _ _)
  · rintro A w1 Q K hC hK ⟨e0, -⟩
    replace e0 : A.tmps[0]?.getD undef = .pointer (some ⟨r, o, none⟩) := e0
    simp only [under]
    simp [go_sem, e0]
    exact hK _ _ rfl hC (Below.refl _ _)
  · rintro A w1 Q K hC hK ⟨e9, -⟩
    replace e9 : A.tmps[9]?.getD undef = .pointer (some ⟨r, o, none⟩) := e9
    simp only [under]
    simp [go_sem, e9]
    exact hK _ _ rfl hC (Below.refl _ _)
  · rintro A w1 Q K hC hK ⟨e10, -⟩
    replace e10 : A.tmps[10]?.getD undef = .pointer (some ⟨r, o, none⟩) := e10
    simp only [under]
    simp [go_sem, e10]
    exact hK _ _ rfl hC (Below.refl _ _)
  · rintro A w1 Q K hC hK ⟨e5, e8, e11, -⟩
    replace e5 : A.tmps[5]?.getD undef = .pointer (some ⟨r, o, none⟩) := e5
    replace e8 : A.tmps[8]?.getD undef = .pointer (some ⟨r, o + 1, none⟩) := e8
    replace e11 : A.tmps[11]?.getD undef = .pointer (some ⟨r, o + 2, none⟩) := e11
    simp only [under]
    simp [go_sem, e5, e8, e11]
    have hg : Below w1.heap.size w1 (w1.alloc (.cells #[.pointer (some ⟨r, o, none⟩), .pointer (some ⟨r, o + 1, none⟩), .pointer (some ⟨r, o + 2, none⟩)] 140)) := by go_grown
    refine hK _ _ ⟨w1.heap.size, rfl, hC.size, by simp, fun i hi => ?_⟩ (hC.trans (hg.mono hC.size)) hg
    match i, hi with
    | 0, _ => simp [go_sem]
    | 1, _ => simp [go_sem]
    | 2, _ => simp [go_sem]
  · rintro A w1 Q K hC hK ⟨e12, -⟩
    replace e12 : ∃ b, A.tmps[12]?.getD undef = .slice (some ⟨b, 0, none⟩) 3 3 ∧ w.heap.size ≤ b ∧ PtrR w1 b r [o, o + 1, o + 2] := e12
    obtain ⟨b, e12, h2, h3⟩ := e12
    simp only [under]
    simp [go_sem, e12]
    exact hK _ _ ⟨b, rfl, h2, h3⟩ hC (Below.refl _ _)
  · intro W10 hW10
    refine fun v0 h0 v1 h1 v2 h2 v3 h3 v4 h4 v5 h5 v6 h6 v7 h7 v8 h8 v9 h9 v10 h10 => ?_
    obtain ⟨b, rfl, hq2, hq3⟩ := h10
    clear h0 h1 h2 h3 h4 h5 h6 h7 h8 h9
    simp only [upto, Act.put, List.setIfInBounds_toArray, List.set_cons_zero, List.set_cons_succ]
    go_wp2
    go_ret
    exact ⟨b, _, rfl, hq2, hq3, hW10⟩

set_option maxRecDepth 100000 in
set_option maxHeartbeats 2000000 in
theorem fieldsNodes_any (r o : Nat) (w : World) :
    Calls Tryz.prog 173 #[.pointer (some ⟨r, o, none⟩)] w fun e w2 => ∃ b c, e = .returned (.slice (some ⟨b, 0, none⟩) [o, o + 1, o + 2, o + 3].length c) ∧ w.heap.size ≤ b ∧ PtrR w2 b r [o, o + 1, o + 2, o + 3] ∧ Below w.heap.size w w2 := by
  go_enter Tryz.func173, Tryz.ntmps173
  go_wp2_with fail
  refine wp_region_tw [[(0, none)], [(3, some 0)], [(4, some 1)], [(0, none)], [(6, some 3)], [(7, some 4)], [(0, none)], [(9, some 6)], [(10, some 7)], [(0, none)], [(12, some 9)], [(13, some 10)], [(5, some 2), (8, some 5), (11, some 8), (14, some 11)], [(15, some 12)]]
    (fun i v w1 => match i with | 0 => v = .pointer (some ⟨r, o, none⟩) | 1 => v = .pointer (some ⟨r, o, none⟩) | 2 => v = .pointer (some ⟨r, o, none⟩) | 3 => v = .pointer (some ⟨r, o, none⟩) | 4 => v = .pointer (some ⟨r, o, none⟩) | 5 => v = .pointer (some ⟨r, o + 1, none⟩) | 6 => v = .pointer (some ⟨r, o, none⟩) | 7 => v = .pointer (some ⟨r, o, none⟩) | 8 => v = .pointer (some ⟨r, o + 2, none⟩) | 9 => v = .pointer (some ⟨r, o, none⟩) | 10 => v = .pointer (some ⟨r, o, none⟩) | 11 => v = .pointer (some ⟨r, o + 3, none⟩) | 12 => ∃ b, v = .slice (some ⟨b, 0, none⟩) 4 4 ∧ w.heap.size ≤ b ∧ PtrR w1 b r [o, o + 1, o + 2, o + 3] | 13 => ∃ b, v = .slice (some ⟨b, 0, none⟩) 4 4 ∧ w.heap.size ≤ b ∧ PtrR w1 b r [o, o + 1, o + 2, o + 3] | _ => True)
    (fun V => Below w.heap.size w V) (fun w1 w2 => Below w1.heap.size w1 w2) 16 rfl (by kernel_rfl)
    (fun i v w1 w2 _ hR hT => by
      match i, hT with
      | 0, hT => exact hT
      | 1, hT => exact hT
      | 2, hT => exact hT
      | 3, hT => exact hT
      | 4, hT => exact hT
      | 5, hT => exact hT
      | 6, hT => exact hT
      | 7, hT => exact hT
      | 8, hT => exact hT
      | 9, hT => exact hT
      | 10, hT => exact hT
      | 11, hT => exact hT
      | 12, hT => obtain ⟨b, h1, h2, h3⟩ := hT; exact ⟨b, h1, h2, h3.bel hR⟩
      | 13, hT => obtain ⟨b, h1, h2, h3⟩ := hT; exact ⟨b, h1, h2, h3.bel hR⟩
      | (n + 14), hT => exact hT)
    (fun _ => Below.refl _ _) (by go_grown) ⟨?_, ?_, ?_, ?_, ?_, ?_, ?_, ?_, ?_, ?_, ?_, ?_, ?_, ?_, trivial⟩ ?_
  · rintro A w1 Q K hC hK ⟨e0, -⟩
    replace e0 : A.tmps[0]?.getD undef = .pointer (some ⟨r, o, none⟩) := e0
    simp only [under]
    simp [go_sem, e0]
    exact hK _ _ rfl hC (Below.refl _ _)
  · rintro A w1 Q K hC hK ⟨e3, -⟩
    replace e3 : A.tmps[3]?.getD undef = .pointer (some ⟨r, o, none⟩) := e3
    simp only [under]
    simp [go_sem, e3]
    exact hK _ _ rfl hC (Below.refl _ _)
  · rintro A w1 Q K hC hK ⟨e4, -⟩
    replace e4 : A.tmps[4]?.getD undef = .pointer (some ⟨r, o, none⟩) := e4
    simp only [under]
    simp [go_sem, e4]
    exact hK _ _ rfl hC (Below.refl _ _)
  · rintro A w1 Q K hC hK ⟨e0, -⟩
    replace e0 : A.tmps[0]?.getD undef = .pointer (some ⟨r, o, none⟩) := e0
    simp only [under]
    simp [go_sem, e0]
    exact hK _ _ rfl hC (Below.refl _ _)
  · rintro A w1 Q K hC hK ⟨e6, -⟩
    replace e6 : A.tmps[6]?.getD undef = .pointer (some ⟨r, o, none⟩) := e6
    simp only [under]
    simp [go_sem, e6]
    exact hK _ _ rfl hC (Below.refl _ _)
  · rintro A w1 Q K hC hK ⟨e7, -⟩
    replace e7 : A.tmps[7]?.getD undef = .pointer (some ⟨r, o, none⟩) := e7
    simp only [under]
    simp [go_sem, e7]
    exact hK _ _ rfl hC (Below.refl _ _)
  · rintro A w1 Q K hC hK ⟨e0, -⟩
    replace e0 : A.tmps[0]?.getD undef = .pointer (some ⟨r, o, none⟩) := e0
    simp only [under]
    simp [go_sem, e0]
    exact hK _ _ rfl hC (Below.refl _ _)
  · rintro A w1 Q K hC hK ⟨e9, -⟩
    replace e9 : A.tmps[9]?.getD undef = .pointer (some ⟨r, o, none⟩) := e9
    simp only [under]
    simp [go_sem, e9]
    exact hK _ _ rfl hC (Below.refl _ _)
  · rintro A w1 Q K hC hK ⟨e10, -⟩
    replace e10 : A.tmps[10]?.getD undef = .pointer (some ⟨r, o, none⟩) := e10
    simp only [under]
    simp [go_sem, e10]
    exact hK _ _ rfl hC (Below.refl _ _)
  · rintro A w1 Q K hC hK ⟨e0, -⟩
    replace e0 : A.tmps[0]?.getD undef = .pointer (some ⟨r, o, none⟩) := e0
    simp only [under]
    simp [go_sem, e0]
    exact hK _ _ rfl hC (Below.refl _ _)
  · rintro A w1 Q K hC hK ⟨e12, -⟩
    replace e12 : A.tmps[12]?.getD undef = .pointer (some ⟨r, o, none⟩) := e12
    simp only [under]
    simp [go_sem, e12]
    exact hK _ _ rfl hC (Below.refl _ _)
  · rintro A w1 Q K hC hK ⟨e13, -⟩
    replace e13 : A.tmps[13]?.getD undef = .pointer (some ⟨r, o, none⟩) := e13
    simp only [under]
    simp [go_sem, e13]
    exact hK _ _ rfl hC (Below.refl _ _)
  · rintro A w1 Q K hC hK ⟨e5, e8, e11, e14, -⟩
    replace e5 : A.tmps[5]?.getD undef = .pointer (some ⟨r, o, none⟩) := e5
    replace e8 : A.tmps[8]?.getD undef = .pointer (some ⟨r, o + 1, none⟩) := e8
    replace e11 : A.tmps[11]?.getD undef = .pointer (some ⟨r, o + 2, none⟩) := e11
    replace e14 : A.tmps[14]?.getD undef = .pointer (some ⟨r, o + 3, none⟩) := e14
    simp only [under]
    simp [go_sem, e5, e8, e11, e14]
    have hg : Below w1.heap.size w1 (w1.alloc (.cells #[.pointer (some ⟨r, o, none⟩), .pointer (some ⟨r, o + 1, none⟩), .pointer (some ⟨r, o + 2, none⟩), .pointer (some ⟨r, o + 3, none⟩)] 140)) := by go_grown
    refine hK _ _ ⟨w1.heap.size, rfl, hC.size, by simp, fun i hi => ?_⟩ (hC.trans (hg.mono hC.size)) hg
    match i, hi with
    | 0, _ => simp [go_sem]
    | 1, _ => simp [go_sem]
    | 2, _ => simp [go_sem]
    | 3, _ => simp [go_sem]
  · rintro A w1 Q K hC hK ⟨e15, -⟩
    replace e15 : ∃ b, A.tmps[15]?.getD undef = .slice (some ⟨b, 0, none⟩) 4 4 ∧ w.heap.size ≤ b ∧ PtrR w1 b r [o, o + 1, o + 2, o + 3] := e15
    obtain ⟨b, e15, h2, h3⟩ := e15
    simp only [under]
    simp [go_sem, e15]
    exact hK _ _ ⟨b, rfl, h2, h3⟩ hC (Below.refl _ _)
  · intro W10 hW10
    refine fun v0 h0 v1 h1 v2 h2 v3 h3 v4 h4 v5 h5 v6 h6 v7 h7 v8 h8 v9 h9 v10 h10 v11 h11 v12 h12 v13 h13 => ?_
    obtain ⟨b, rfl, hq2, hq3⟩ := h13
    clear h0 h1 h2 h3 h4 h5 h6 h7 h8 h9 h10 h11 h12
    simp only [upto, Act.put, List.setIfInBounds_toArray, List.set_cons_zero, List.set_cons_succ]
    go_wp2
    go_ret
    exact ⟨b, _, rfl, hq2, hq3, hW10⟩

set_option maxRecDepth 100000 in
set_option maxHeartbeats 2000000 in
theorem fieldsPods_any (r o : Nat) (w : World) :
    Calls Tryz.prog 175 #[.pointer (some ⟨r, o, none⟩)] w fun e w2 => ∃ b c, e = .returned (.slice (some ⟨b, 0, none⟩) [o, o + 1, o + 2, o + 3, o + 4].length c) ∧ w.heap.size ≤ b ∧ PtrR w2 b r [o, o + 1, o + 2, o + 3, o + 4] ∧ Below w.heap.size w w2 := by
  go_enter Tryz.func175, Tryz.ntmps175
  go_wp2_with fail
  refine wp_region_tw [[(0, none)], [(3, some 0)], [(4, some 1)], [(0, none)], [(6, some 3)], [(7, some 4)], [(0, none)], [(9, some 6)], [(10, some 7)], [(0, none)], [(12, some 9)], [(13, some 10)], [(0, none)], [(15, some 12)], [(16, some 13)], [(5, some 2), (8, some 5), (11, some 8), (14, some 11), (17, some 14)], [(18, some 15)]]
    (fun i v w1 => match i with | 0 => v = .pointer (some ⟨r, o, none⟩) | 1 => v = .pointer (some ⟨r, o, none⟩) | 2 => v = .pointer (some ⟨r, o, none⟩) | 3 => v = .pointer (some ⟨r, o, none⟩) | 4 => v = .pointer (some ⟨r, o, none⟩) | 5 => v = .pointer (some ⟨r, o + 1, none⟩) | 6 => v = .pointer (some ⟨r, o, none⟩) | 7 => v = .pointer (some ⟨r, o, none⟩) | 8 => v = .pointer (some ⟨r, o + 2, none⟩) | 9 => v = .pointer (some ⟨r, o, none⟩) | 10 => v = .pointer (some ⟨r, o, none⟩) | 11 => v = .pointer (some ⟨r, o + 3, none⟩) | 12 => v = .pointer (some ⟨r, o, none⟩) | 13 => v = .pointer (some ⟨r, o, none⟩) | 14 => v = .pointer (some ⟨r, o + 4, none⟩) | 15 => ∃ b, v = .slice (some ⟨b, 0, none⟩) 5 5 ∧ w.heap.size ≤ b ∧ PtrR w1 b r [o, o + 1, o + 2, o + 3, o + 4] | 16 => ∃ b, v = .slice (some ⟨b, 0, none⟩) 5 5 ∧ w.heap.size ≤ b ∧ PtrR w1 b r [o, o + 1, o + 2, o + 3, o + 4] | _ => True)
    (fun V => Below w.heap.size w V) (fun w1 w2 => Below w1.heap.size w1 w2) 19 rfl (by kernel_rfl)
    (fun i v w1 w2 _ hR hT => by
      match i, hT with
      | 0, hT => exact hT
      | 1, hT => exact hT
      | 2, hT => exact hT
      | 3, hT => exact hT
      | 4, hT => exact hT
      | 5, hT => exact hT
      | 6, hT => exact hT
      | 7, hT => exact hT
      | 8, hT => exact hT
      | 9, hT => exact hT
      | 10, hT => exact hT
      | 11, hT => exact hT
      | 12, hT => exact hT
      | 13, hT => exact hT
      | 14, hT => exact hT
      | 15, hT => obtain ⟨b, h1, h2, h3⟩ := hT; exact ⟨b, h1, h2, h3.bel hR⟩
      | 16, hT => obtain ⟨b, h1, h2, h3⟩ := hT; exact ⟨b, h1, h2, h3.bel hR⟩
      | (n + 17), hT => exact hT)
    (fun _ => Below.refl _ _) (by go_grown) ⟨?_, ?_, ?_, ?_, ?_, ?_, ?_, ?_, ?_, ?_, ?_, ?_, ?_, ?_, ?_, ?_, ?_, trivial⟩ ?_
  · rintro A w1 Q K hC hK ⟨e0, -⟩
    replace e0 : A.tmps[0]?.getD undef = .pointer (some ⟨r, o, none⟩) := e0
    simp only [under]
    simp [go_sem, e0]
    exact hK _ _ rfl hC (Below.refl _ _)
  · rintro A w1 Q K hC hK ⟨e3, -⟩
    replace e3 : A.tmps[3]?.getD undef = .pointer (some ⟨r, o, none⟩) := e3
    simp only [under]
    simp [go_sem, e3]
    exact hK _ _ rfl hC (Below.refl _ _)
  · rintro A w1 Q K hC hK ⟨e4, -⟩
    replace e4 : A.tmps[4]?.getD undef = .pointer (some ⟨r, o, none⟩) := e4
    simp only [under]
    simp [go_sem, e4]
    exact hK _ _ rfl hC (Below.refl _ _)
  · rintro A w1 Q K hC hK ⟨e0, -⟩
    replace e0 : A.tmps[0]?.getD undef = .pointer (some ⟨r, o, none⟩) := e0
    simp only [under]
    simp [go_sem, e0]
    exact hK _ _ rfl hC (Below.refl _ _)
  · rintro A w1 Q K hC hK ⟨e6, -⟩
    replace e6 : A.tmps[6]?.getD undef = .pointer (some ⟨r, o, none⟩) := e6
    simp only [under]
    simp [go_sem, e6]
    exact hK _ _ rfl hC (Below.refl _ _)
  · rintro A w1 Q K hC hK ⟨e7, -⟩
    replace e7 : A.tmps[7]?.getD undef = .pointer (some ⟨r, o, none⟩) := e7
    simp only [under]
    simp [go_sem, e7]
    exact hK _ _ rfl hC (Below.refl _ _)
  · rintro A w1 Q K hC hK ⟨e0, -⟩
    replace e0 : A.tmps[0]?.getD undef = .pointer (some ⟨r, o, none⟩) := e0
    simp only [under]
    simp [go_sem, e0]
    exact hK _ _ rfl hC (Below.refl _ _)
  · rintro A w1 Q K hC hK ⟨e9, -⟩
    replace e9 : A.tmps[9]?.getD undef = .pointer (some ⟨r, o, none⟩) := e9
    simp only [under]
    simp [go_sem, e9]
    exact hK _ _ rfl hC (Below.refl _ _)
  · rintro A w1 Q K hC hK ⟨e10, -⟩
    replace e10 : A.tmps[10]?.getD undef = .pointer (some ⟨r, o, none⟩) := e10
    simp only [under]
    simp [go_sem, e10]
    exact hK _ _ rfl hC (Below.refl _ _)
  · rintro A w1 Q K hC hK ⟨e0, -⟩
    replace e0 : A.tmps[0]?.getD undef = .pointer (some ⟨r, o, none⟩) := e0
    simp only [under]
    simp [go_sem, e0]
    exact hK _ _ rfl hC (Below.refl _ _)
  · rintro A w1 Q K hC hK ⟨e12, -⟩
    replace e12 : A.tmps[12]?.getD undef = .pointer (some ⟨r, o, none⟩) := e12
    simp only [under]
    simp [go_sem, e12]
    exact hK _ _ rfl hC (Below.refl _ _)
  · rintro A w1 Q K hC hK ⟨e13, -⟩
    replace e13 : A.tmps[13]?.getD undef = .pointer (some ⟨r, o, none⟩) := e13
    simp only [under]
    simp [go_sem, e13]
    exact hK _ _ rfl hC (Below.refl _ _)
  · rintro A w1 Q K hC hK ⟨e0, -⟩
    replace e0 : A.tmps[0]?.getD undef = .pointer (some ⟨r, o, none⟩) := e0
    simp only [under]
    simp [go_sem, e0]
    exact hK _ _ rfl hC (Below.refl _ _)
  · rintro A w1 Q K hC hK ⟨e15, -⟩
    replace e15 : A.tmps[15]?.getD undef = .pointer (some ⟨r, o, none⟩) := e15
    simp only [under]
    simp [go_sem, e15]
    exact hK _ _ rfl hC (Below.refl _ _)
  · rintro A w1 Q K hC hK ⟨e16, -⟩
    replace e16 : A.tmps[16]?.getD undef = .pointer (some ⟨r, o, none⟩) := e16
    simp only [under]
    simp [go_sem, e16]
    exact hK _ _ rfl hC (Below.refl _ _)
  · rintro A w1 Q K hC hK ⟨e5, e8, e11, e14, e17, -⟩
    replace e5 : A.tmps[5]?.getD undef = .pointer (some ⟨r, o, none⟩) := e5
    replace e8 : A.tmps[8]?.getD undef = .pointer (some ⟨r, o + 1, none⟩) := e8
    replace e11 : A.tmps[11]?.getD undef = .pointer (some ⟨r, o + 2, none⟩) := e11
    replace e14 : A.tmps[14]?.getD undef = .pointer (some ⟨r, o + 3, none⟩) := e14
    replace e17 : A.tmps[17]?.getD undef = .pointer (some ⟨r, o + 4, none⟩) := e17
    simp only [under]
    simp [go_sem, e5, e8, e11, e14, e17]
    have hg : Below w1.heap.size w1 (w1.alloc (.cells #[.pointer (some ⟨r, o, none⟩), .pointer (some ⟨r, o + 1, none⟩), .pointer (some ⟨r, o + 2, none⟩), .pointer (some ⟨r, o + 3, none⟩), .pointer (some ⟨r, o + 4, none⟩)] 140)) := by go_grown
    refine hK _ _ ⟨w1.heap.size, rfl, hC.size, by simp, fun i hi => ?_⟩ (hC.trans (hg.mono hC.size)) hg
    match i, hi with
    | 0, _ => simp [go_sem]
    | 1, _ => simp [go_sem]
    | 2, _ => simp [go_sem]
    | 3, _ => simp [go_sem]
    | 4, _ => simp [go_sem]
  · rintro A w1 Q K hC hK ⟨e18, -⟩
    replace e18 : ∃ b, A.tmps[18]?.getD undef = .slice (some ⟨b, 0, none⟩) 5 5 ∧ w.heap.size ≤ b ∧ PtrR w1 b r [o, o + 1, o + 2, o + 3, o + 4] := e18
    obtain ⟨b, e18, h2, h3⟩ := e18
    simp only [under]
    simp [go_sem, e18]
    exact hK _ _ ⟨b, rfl, h2, h3⟩ hC (Below.refl _ _)
  · intro W10 hW10
    refine fun v0 h0 v1 h1 v2 h2 v3 h3 v4 h4 v5 h5 v6 h6 v7 h7 v8 h8 v9 h9 v10 h10 v11 h11 v12 h12 v13 h13 v14 h14 v15 h15 v16 h16 => ?_
    obtain ⟨b, rfl, hq2, hq3⟩ := h16
    clear h0 h1 h2 h3 h4 h5 h6 h7 h8 h9 h10 h11 h12 h13 h14 h15
    simp only [upto, Act.put, List.setIfInBounds_toArray, List.set_cons_zero, List.set_cons_succ]
    go_wp2
    go_ret
    exact ⟨b, _, rfl, hq2, hq3, hW10⟩

set_option maxRecDepth 100000 in
set_option maxHeartbeats 2000000 in
theorem fieldsState_any (r o : Nat) (w : World) :
    Calls Tryz.prog 177 #[.pointer (some ⟨r, o, none⟩)] w fun e w2 => ∃ b c, e = .returned (.slice (some ⟨b, 0, none⟩) [o + 4, o + 5].length c) ∧ w.heap.size ≤ b ∧ PtrR w2 b r [o + 4, o + 5] ∧ Below w.heap.size w w2 := by
  go_enter Tryz.func177, Tryz.ntmps177
  go_wp2_with fail
  refine wp_region_tw [[(0, none)], [(3, some 0)], [(4, some 1)], [(0, none)], [(6, some 3)], [(7, some 4)], [(5, some 2), (8, some 5)], [(9, some 6)]]
    (fun i v w1 => match i with | 0 => v = .pointer (some ⟨r, o, none⟩) | 1 => v = .pointer (some ⟨r, o, none⟩) | 2 => v = .pointer (some ⟨r, o + 4, none⟩) | 3 => v = .pointer (some ⟨r, o, none⟩) | 4 => v = .pointer (some ⟨r, o, none⟩) | 5 => v = .pointer (some ⟨r, o + 5, none⟩) | 6 => ∃ b, v = .slice (some ⟨b, 0, none⟩) 2 2 ∧ w.heap.size ≤ b ∧ PtrR w1 b r [o + 4, o + 5] | 7 => ∃ b, v = .slice (some ⟨b, 0, none⟩) 2 2 ∧ w.heap.size ≤ b ∧ PtrR w1 b r [o + 4, o + 5] | _ => True)
    (fun V => Below w.heap.size w V) (fun w1 w2 => Below w1.heap.size w1 w2) 10 rfl (by kernel_rfl)
    (fun i v w1 w2 _ hR hT => by
      match i, hT with
      | 0, hT => exact hT
      | 1, hT => exact hT
      | 2, hT => exact hT
      | 3, hT => exact hT
      | 4, hT => exact hT
      | 5, hT => exact hT
      | 6, hT => obtain ⟨b, h1, h2, h3⟩ := hT; exact ⟨b, h1, h2, h3.bel hR⟩
      | 7, hT => obtain ⟨b, h1, h2, h3⟩ := hT; exact ⟨b, h1, h2, h3.bel hR⟩
      | (n + 8), hT => exact hT)
    (fun _ => Below.refl _ _) (by go_grown) ⟨?_, ?_, ?_, ?_, ?_, ?_, ?_, ?_, trivial⟩ ?_
  · rintro A w1 Q K hC hK ⟨e0, -⟩
    replace e0 : A.tmps[0]?.getD undef = .pointer (some ⟨r, o, none⟩) := e0
    simp only [under]
    simp [go_sem, e0]
    exact hK _ _ rfl hC (Below.refl _ _)
  · rintro A w1 Q K hC hK ⟨e3, -⟩
    replace e3 : A.tmps[3]?.getD undef = .pointer (some ⟨r, o, none⟩) := e3
    simp only [under]
    simp [go_sem, e3]
    exact hK _ _ rfl hC (Below.refl _ _)
  · rintro A w1 Q K hC hK ⟨e4, -⟩
    replace e4 : A.tmps[4]?.getD undef = .pointer (some ⟨r, o, none⟩) := e4
    simp only [under]
    simp [go_sem, e4]
    exact hK _ _ rfl hC (Below.refl _ _)
  · rintro A w1 Q K hC hK ⟨e0, -⟩
    replace e0 : A.tmps[0]?.getD undef = .pointer (some ⟨r, o, none⟩) := e0
    simp only [under]
    simp [go_sem, e0]
    exact hK _ _ rfl hC (Below.refl _ _)
  · rintro A w1 Q K hC hK ⟨e6, -⟩
    replace e6 : A.tmps[6]?.getD undef = .pointer (some ⟨r, o, none⟩) := e6
    simp only [under]
    simp [go_sem, e6]
    exact hK _ _ rfl hC (Below.refl _ _)
  · rintro A w1 Q K hC hK ⟨e7, -⟩
    replace e7 : A.tmps[7]?.getD undef = .pointer (some ⟨r, o, none⟩) := e7
    simp only [under]
    simp [go_sem, e7]
    exact hK _ _ rfl hC (Below.refl _ _)
  · rintro A w1 Q K hC hK ⟨e5, e8, -⟩
    replace e5 : A.tmps[5]?.getD undef = .pointer (some ⟨r, o + 4, none⟩) := e5
    replace e8 : A.tmps[8]?.getD undef = .pointer (some ⟨r, o + 5, none⟩) := e8
    simp only [under]
    simp [go_sem, e5, e8]
    have hg : Below w1.heap.size w1 (w1.alloc (.cells #[.pointer (some ⟨r, o + 4, none⟩), .pointer (some ⟨r, o + 5, none⟩)] 140)) := by go_grown
    refine hK _ _ ⟨w1.heap.size, rfl, hC.size, by simp, fun i hi => ?_⟩ (hC.trans (hg.mono hC.size)) hg
    match i, hi with
    | 0, _ => simp [go_sem]
    | 1, _ => simp [go_sem]
  · rintro A w1 Q K hC hK ⟨e9, -⟩
    replace e9 : ∃ b, A.tmps[9]?.getD undef = .slice (some ⟨b, 0, none⟩) 2 2 ∧ w.heap.size ≤ b ∧ PtrR w1 b r [o + 4, o + 5] := e9
    obtain ⟨b, e9, h2, h3⟩ := e9
    simp only [under]
    simp [go_sem, e9]
    exact hK _ _ ⟨b, rfl, h2, h3⟩ hC (Below.refl _ _)
  · intro W10 hW10
    refine fun v0 h0 v1 h1 v2 h2 v3 h3 v4 h4 v5 h5 v6 h6 v7 h7 => ?_
    obtain ⟨b, rfl, hq2, hq3⟩ := h7
    clear h0 h1 h2 h3 h4 h5 h6
    simp only [upto, Act.put, List.setIfInBounds_toArray, List.set_cons_zero, List.set_cons_succ]
    go_wp2
    go_ret
    exact ⟨b, _, rfl, hq2, hq3, hW10⟩
theorem fWorks (r o : Nat) (w : World) : FieldsAt w 102 169 r o [o, o + 1, o + 2] where
  mf := fun _ => by kernel_rfl
  ef := fun args w => by kernel_rfl
  cf := fieldsWorks_any r o w
theorem fGroups (r o : Nat) (w : World) : FieldsAt w 105 171 r o [o, o + 1, o + 2] where
  mf := fun _ => by kernel_rfl
  ef := fun args w => by kernel_rfl
  cf := fieldsGroups_any r o w
theorem fNodes (r o : Nat) (w : World) : FieldsAt w 108 173 r o [o, o + 1, o + 2, o + 3] where
  mf := fun _ => by kernel_rfl
  ef := fun args w => by kernel_rfl
  cf := fieldsNodes_any r o w
theorem fPods (r o : Nat) (w : World) : FieldsAt w 111 175 r o [o, o + 1, o + 2, o + 3, o + 4] where
  mf := fun _ => by kernel_rfl
  ef := fun args w => by kernel_rfl
  cf := fieldsPods_any r o w
theorem fState (r o : Nat) (w : World) : FieldsAt w 114 177 r o [o + 4, o + 5] where
  mf := fun _ => by kernel_rfl
  ef := fun args w => by kernel_rfl
  cf := fieldsState_any r o w

theorem setN_run : ∀ (ns : List Int) (o : Nat) (cs : Array Value), o + ns.length ≤ cs.size → (setN cs (List.range' o ns.length) ns).toList = cs.toList.take o ++ ns.map (Value.int .i64) ++ cs.toList.drop (o + ns.length)
  | [], o, cs, _ => by simp [setN]
  | n :: ns, o, cs, h => by
    simp only [List.length_cons] at h
    have hl : o < cs.toList.length := by simp; omega
    rw [List.length_cons, List.range'_succ, setN, setN_run ns (o + 1) _ (by simp; omega)]
    rw [Array.toList_setIfInBounds, List.set_eq_take_append_cons_drop, if_pos hl]
    have hlt : (cs.toList.take o).length = o := by rw [List.length_take]; omega
    have e1 : (cs.toList.take o ++ Value.int .i64 n :: cs.toList.drop (o + 1)).take (o + 1) = cs.toList.take o ++ [Value.int .i64 n] := by
      rw [List.take_append, hlt, List.take_of_length_le (by omega), show o + 1 - o = 1 by omega]
      rfl
    have e2 : (cs.toList.take o ++ Value.int .i64 n :: cs.toList.drop (o + 1)).drop (o + 1 + ns.length) = cs.toList.drop (o + (ns.length + 1)) := by
      rw [List.drop_append, hlt, List.drop_of_length_le (by omega), show o + 1 + ns.length - o = ns.length + 1 by omega, List.drop_succ_cons, List.drop_drop, List.nil_append]
      congr 1
      omega
    rw [e1, e2]
    simp
/-- The numbers of the last record of a row are laid into it. -/
theorem Owns.fill {α : Type} {m : Nat} {cell : α → Nat → Int} {T : TypeId} {B : Nat} {w : World} {g cp : Nat} {l : List α} {x : α} (h : Owns m cell T B w (.slice (some ⟨g, 0, none⟩) (l.length + 1) cp) (l ++ [x])) :
    ∃ cur, Blk w g cur T ∧ (l.length * m + m ≤ cur.size) ∧ ∀ (ns : List Int) (y : α) (w' : World), ns.length = m → rowOf m cell y = ns.map (Value.int .i64) → Blk w' g (setN cur (List.range' (l.length * m) m) ns) T → Owns m cell T B w' (.slice (some ⟨g, 0, none⟩) (l.length + 1) cp) (l ++ [y]) := by
  rcases h.2 with ⟨h1, _⟩ | ⟨g', cap, cur, h1, h2, h3, h4, h5, h6, h7⟩
  · cases h1
  · simp only [Value.slice.injEq, Option.some.injEq, Addr.mk.injEq, and_true] at h1
    obtain ⟨rfl, -, rfl⟩ := h1
    have hlen : (l ++ [x]).length = l.length + 1 := by simp
    rw [hlen] at h7
    have hcs : l.length * m + m ≤ cur.size := by
      have := Nat.mul_le_mul_right m h4
      rw [hlen, Nat.add_mul] at this
      omega
    refine ⟨cur, h3, hcs, fun ns y w' hn hy hb => ?_⟩
    have hfl : (flat m cell l).length = l.length * m := flat_length l
    refine ⟨by rw [flat_length], .inr ⟨g, cp, _, by simp, h2, hb, by simpa using h4, h5, by rw [setN_size]; exact h6, ?_⟩⟩
    subst hn
    rw [setN_run ns _ cur hcs]
    have e1 : cur.toList.take (l.length * ns.length) = flat ns.length cell l := by
      have h8 := congrArg (List.take (l.length * ns.length)) h7
      rw [List.take_take, flat_append, List.take_append_of_le_length (by omega), List.take_of_length_le (l := flat ns.length cell l) (by omega), show min (l.length * ns.length) ((l.length + 1) * ns.length) = l.length * ns.length by rw [Nat.add_mul]; omega] at h8
      exact h8
    rw [e1, flat_append, flat_one, hy, show (l ++ [y]).length * ns.length = (flat ns.length cell l ++ ns.map (Value.int .i64)).length by simp [hfl, Nat.add_mul], List.take_left']
    rfl
set_option maxRecDepth 100000 in
set_option maxHeartbeats 2000000 in
theorem lineOf_work (v : Value) (l : List Ws) (B bx TB : Nat) (cs : Array Value) (w : World) (hB : B ≤ w.heap.size) (ho : Owns 3 Ws.cell 94 B w v l) (hl : l.length ≤ 4000) (hb : Blk w bx cs TB) (hf : cs[2]? = some v) (hne : v.ownBlock ≠ some bx) :
    Calls Tryz.prog 57 #[str [119, 111, 114, 107], .pointer (some ⟨bx, 0, none⟩)] w fun e w' => ∃ g cp, e = .returned (.iface 102 (.pointer (some ⟨g, l.length * 3, none⟩))) ∧ AQ 3 Ws.cell 94 B w v l (workSL []) bx TB w' (.slice (some ⟨g, 0, none⟩) (l.length + 1) cp) (cs.setIfInBounds 2 (.slice (some ⟨g, 0, none⟩) (l.length + 1) cp)) := by
  go_enter Tryz.func57, Tryz.ntmps57
  go_wp2_with fail
  refine (oneWorks_any v l B bx 2 TB cs w hB ho hl hb hf hne).mono ?_
  rintro e w1 ⟨g, cp, rfl, hq⟩
  have HQ := hid hq
  clear hq
  go_wp2
  go_ret
  exact ⟨g, cp, rfl, HQ.out⟩
set_option maxRecDepth 100000 in
set_option maxHeartbeats 2000000 in
theorem lineOf_group (v : Value) (l : List Gs) (B bx TB : Nat) (cs : Array Value) (w : World) (hB : B ≤ w.heap.size) (ho : Owns 3 Gs.cell 96 B w v l) (hl : l.length ≤ 4000) (hb : Blk w bx cs TB) (hf : cs[3]? = some v) (hne : v.ownBlock ≠ some bx) :
    Calls Tryz.prog 57 #[str [103, 114, 111, 117, 112], .pointer (some ⟨bx, 0, none⟩)] w fun e w' => ∃ g cp, e = .returned (.iface 105 (.pointer (some ⟨g, l.length * 3, none⟩))) ∧ AQ 3 Gs.cell 96 B w v l (groupSL []) bx TB w' (.slice (some ⟨g, 0, none⟩) (l.length + 1) cp) (cs.setIfInBounds 3 (.slice (some ⟨g, 0, none⟩) (l.length + 1) cp)) := by
  go_enter Tryz.func57, Tryz.ntmps57
  go_wp2_with fail
  refine (oneGroups_any v l B bx 3 TB cs w hB ho hl hb hf hne).mono ?_
  rintro e w1 ⟨g, cp, rfl, hq⟩
  have HQ := hid hq
  clear hq
  go_wp2
  go_ret
  exact ⟨g, cp, rfl, HQ.out⟩
set_option maxRecDepth 100000 in
set_option maxHeartbeats 2000000 in
theorem lineOf_node (v : Value) (l : List Nd) (B bx TB : Nat) (cs : Array Value) (w : World) (hB : B ≤ w.heap.size) (ho : Owns 4 Nd.cell 98 B w v l) (hl : l.length ≤ 4000) (hb : Blk w bx cs TB) (hf : cs[1]? = some v) (hne : v.ownBlock ≠ some bx) :
    Calls Tryz.prog 57 #[str [110, 111, 100, 101], .pointer (some ⟨bx, 0, none⟩)] w fun e w' => ∃ g cp, e = .returned (.iface 108 (.pointer (some ⟨g, l.length * 4, none⟩))) ∧ AQ 4 Nd.cell 98 B w v l (nodeSL []) bx TB w' (.slice (some ⟨g, 0, none⟩) (l.length + 1) cp) (cs.setIfInBounds 1 (.slice (some ⟨g, 0, none⟩) (l.length + 1) cp)) := by
  go_enter Tryz.func57, Tryz.ntmps57
  go_wp2_with fail
  refine (oneNodes_any v l B bx 1 TB cs w hB ho hl hb hf hne).mono ?_
  rintro e w1 ⟨g, cp, rfl, hq⟩
  have HQ := hid hq
  clear hq
  go_wp2
  go_ret
  exact ⟨g, cp, rfl, HQ.out⟩
set_option maxRecDepth 100000 in
set_option maxHeartbeats 2000000 in
theorem lineOf_pod (v : Value) (l : List Pd) (B bx TB : Nat) (cs : Array Value) (w : World) (hB : B ≤ w.heap.size) (ho : Owns 5 Pd.cell 100 B w v l) (hl : l.length ≤ 4000) (hb : Blk w bx cs TB) (hf : cs[0]? = some v) (hne : v.ownBlock ≠ some bx) :
    Calls Tryz.prog 57 #[str [112, 111, 100], .pointer (some ⟨bx, 0, none⟩)] w fun e w' => ∃ g cp, e = .returned (.iface 111 (.pointer (some ⟨g, l.length * 5, none⟩))) ∧ AQ 5 Pd.cell 100 B w v l (podSL []) bx TB w' (.slice (some ⟨g, 0, none⟩) (l.length + 1) cp) (cs.setIfInBounds 0 (.slice (some ⟨g, 0, none⟩) (l.length + 1) cp)) := by
  go_enter Tryz.func57, Tryz.ntmps57
  go_wp2_with fail
  refine (onePods_any v l B bx 0 TB cs w hB ho hl hb hf hne).mono ?_
  rintro e w1 ⟨g, cp, rfl, hq⟩
  have HQ := hid hq
  clear hq
  go_wp2
  go_ret
  exact ⟨g, cp, rfl, HQ.out⟩
set_option maxRecDepth 100000 in
set_option maxHeartbeats 2000000 in
theorem lineOf_head (bx : Nat) (w : World) :
    Calls Tryz.prog 57 #[str [115, 116, 97, 116, 101], .pointer (some ⟨bx, 0, none⟩)] w fun e w' => e = .returned (.iface 114 (.pointer (some ⟨bx, 0, none⟩))) ∧ w' = w := by
  go_enter Tryz.func57, Tryz.ntmps57
  go_wp2
  go_ret
  exact ⟨rfl, rfl⟩

theorem cut_count (c : UInt8) : ∀ l : List UInt8, (cutB c l).length = l.count c + 1
  | [] => rfl
  | b :: l => by
    have ih := cut_count c l
    by_cases h : b = c
    · subst h
      simp [cutB, ih]
    · rw [cutB, if_neg h, List.count_cons_of_ne h]
      cases hc : cutB c l with
      | nil => have := cut_pos c l; rw [hc] at this; simp at this
      | cons p ps => rw [hc] at ih; simpa using ih
theorem split_any (l : List UInt8) (w : World) (hl : l.length ≤ 2000000) (hM : ∃ m : Int, w.cell? ⟨1, 0, none⟩ = some (.int .i64 m)) :
    Calls Tryz.prog 70 #[str l, str [10]] w fun e w' => e = .returned (.slice (some ⟨w.heap.size, 0, none⟩) (cutB 10 l).length (cutB 10 l).length) ∧ w.heap.size < w'.heap.size ∧
      (∀ (i : Nat) (h : i < (cutB 10 l).length), w'.cell? ⟨w.heap.size, i, none⟩ = some (str (cutB 10 l)[i])) ∧ Below w.heap.size w w' := by
  obtain ⟨k, hk⟩ := hM
  have hsz : (ByteArray.mk l.toArray).size = l.length := by show l.toArray.size = l.length; simp
  refine Calls.mono (Tryz.strings_Split ⟨l.toArray⟩ ⟨#[10]⟩ k w (by rw [hsz]; omega) hk (by decide)) ?_
  rintro e w' ⟨rfl, rfl⟩
  have hct : Lib.countB ⟨l.toArray⟩ ⟨#[10]⟩ = l.count 10 := by
    show Lib.count l [10] = _
    exact Lib.count_one 10 l
  have hcc := cut_count 10 l
  have hd := Lib.splitB_data ⟨#[10]⟩ 0 (Lib.countB ⟨l.toArray⟩ ⟨#[10]⟩) ⟨l.toArray⟩
  rw [hct] at hd ⊢
  have hk2 : Lib.splitK [10] 0 (l.count 10) l = cutB 10 l := (splitK_one 10 _ l).1 (by omega)
  obtain ⟨bs, hbs⟩ : ∃ bs, Lib.splitB ⟨#[10]⟩ 0 (l.count 10) ⟨l.toArray⟩ = bs := ⟨_, rfl⟩
  rw [hbs] at hd ⊢
  have hd2 : bs.map (·.data.toList) = cutB 10 l := by rw [← hk2]; simpa using hd
  rw [← hcc]
  refine ⟨rfl, by simp, fun i hi => ?_, by go_grown⟩
  have hlen : bs.length = (cutB 10 l).length := by rw [← hd2, List.length_map]
  have hi2 : i < bs.length := by omega
  simp only [go_sem]
  simp [hi2]
  rw [show (cutB 10 l)[i] = (bs.map (·.data.toList))[i]'(by simpa using hi2) by simp [hd2]]
  simp
theorem lineN_lib {wd row : List UInt8} {n : Nat} {xs : List Int} (hn : 0 < n) (hw : (32 : UInt8) ∉ wd) : lineN wd n row = some xs ↔ (Lib.cut row [32]).1 = wd ∧ readB (Lib.cut row [32]).2.1 n = some xs := by
  have key : lineN wd n row = some xs ↔ ∃ a, row = wd ++ 32 :: a ∧ readB a n = some xs := by
    unfold lineN
    cases hr : restB row wd with
    | none =>
      simp only
      constructor
      · intro h; cases h
      · rintro ⟨a, h, _⟩
        rw [restB_iff.2 h] at hr
        cases hr
    | some a =>
      have ht := restB_iff.1 hr
      simp only
      constructor
      · intro h; exact ⟨a, ht, h⟩
      · rintro ⟨a', h, h'⟩
        have : a' = a := by
          rw [ht] at h
          simpa using (List.append_cancel_left h).symm
        subst this
        exact h'
  rw [key]
  constructor
  · rintro ⟨a, rfl, h⟩
    rw [cut_lib, if_pos (by simp), cut_some a hw]
    simpa using h
  · rintro ⟨h3, h4⟩
    by_cases hm : (32 : UInt8) ∈ row
    · rcases idx_one 32 row with ⟨h5, _⟩ | ⟨p, q, h5, h6, _⟩
      · exact absurd hm h5
      · subst h5
        rw [cut_lib, if_pos hm, cut_some q h6] at h3 h4
        simp only [List.headD_cons] at h3 h4
        subst h3
        exact ⟨q, rfl, by simpa using h4⟩
    · rw [cut_lib, if_neg hm] at h4
      exfalso
      have := ((readB_iff hn).1 h4)
      cases xs with
      | nil => simp at this; omega
      | cons x l =>
        have h5 := this.2.2
        have h6 := cut_nums x l (fun n hn => inM_i64 (this.2.1 n hn))
        rw [h5] at h6
        simp only [cutB, List.map_cons, List.cons.injEq] at h6
        have h7 := h6.1
        unfold decB at h7
        split at h7
        · cases h7
        · exact digsN_ne _ h7.symm
theorem lineN_row {wd row : List UInt8} {n : Nat} {xs : List Int} (hn : 0 < n) (h : lineN wd n row = some xs) : row = wd ++ 32 :: numsB xs ∧ xs.length = n := by
  unfold lineN at h
  split at h
  · rename_i a ha
    have h1 := (readB_iff hn).1 h
    exact ⟨by rw [restB_iff.1 ha, h1.2.2], h1.1⟩
  · cases h
theorem join_cut (c : UInt8) : ∀ l : List UInt8, ∃ p ps, cutB c l = p :: ps ∧ l = p ++ (ps.map (fun x => c :: x)).flatten
  | [] => ⟨[], [], rfl, rfl⟩
  | b :: l => by
    obtain ⟨p, ps, h1, h2⟩ := join_cut c l
    by_cases h : b = c
    · subst h
      exact ⟨[], p :: ps, by rw [cutB, if_pos rfl, h1], by rw [h2]; simp⟩
    · refine ⟨b :: p, ps, by rw [cutB, if_neg h, h1], by rw [h2]; simp⟩
theorem lineN_at {wd row : List UInt8} {n : Nat} (hn : 0 < n) (hw : (32 : UInt8) ∉ wd) (h : (Lib.cut row [32]).1 = wd) : lineN wd n row = readB (Lib.cut row [32]).2.1 n := by
  have hk := fun xs => lineN_lib (row := row) (n := n) (wd := wd) (xs := xs) hn hw
  cases hr : readB (Lib.cut row [32]).2.1 n with
  | some xs => exact (hk xs).2 ⟨h, hr⟩
  | none =>
    cases hx : lineN wd n row with
    | none => rfl
    | some xs => have := ((hk xs).1 hx).2; rw [hr] at this; cases this
theorem lineN_ne {wd wd' row : List UInt8} {n : Nat} (hn : 0 < n) (hw : (32 : UInt8) ∉ wd') (h : (Lib.cut row [32]).1 = wd) (hne : wd ≠ wd') : lineN wd' n row = none := by
  cases hx : lineN wd' n row with
  | none => rfl
  | some xs => exact absurd (h.symm.trans ((lineN_lib hn hw).1 hx).1) hne

abbrev wState : List UInt8 := [115, 116, 97, 116, 101]
abbrev wWork : List UInt8 := [119, 111, 114, 107]
abbrev wGroup : List UInt8 := [103, 114, 111, 117, 112]
abbrev wNode : List UInt8 := [110, 111, 100, 101]
abbrev wPod : List UInt8 := [112, 111, 100]
abbrev words5 : List (List UInt8) := [wState, wWork, wGroup, wNode, wPod]
/-- One line more: its place among the words may not be ahead of the last one's. -/
def lineP (i last : Nat) (s : St) (row : List UInt8) : Option (Nat × St) :=
  if i = 0 then match lineN wState 2 row with
    | some xs => some (0, { s with nextPod := xs.getD 0 0, nextNode := xs.getD 1 0 })
    | none => none
  else match lineN wWork 3 row with
    | some xs => if last ≤ 1 then some (1, { s with works := s.works ++ [workSL xs] }) else none
    | none => match lineN wGroup 3 row with
      | some xs => if last ≤ 2 then some (2, { s with groups := s.groups ++ [groupSL xs] }) else none
      | none => match lineN wNode 4 row with
        | some xs => if last ≤ 3 then some (3, { s with nodes := s.nodes ++ [nodeSL xs] }) else none
        | none => match lineN wPod 5 row with
          | some xs => if last ≤ 4 then some (4, { s with pods := s.pods ++ [podSL xs] }) else none
          | none => none
def rowsP : Nat → Nat → St → List (List UInt8) → Option (Nat × St)
  | _, last, s, [] => some (last, s)
  | i, last, s, r :: rs => match lineP i last s r with
    | some (last', s') => rowsP (i + 1) last' s' rs
    | none => none
def s00 : St := { pods := [], nodes := [], works := [], groups := [], nextPod := 0, nextNode := 0 }
def progR (t : List UInt8) : Option St := if t.length ≤ 4000 then match rowsP 0 0 s00 (cutB 10 t) with
    | some (_, s) => some s
    | none => none
  else none
theorem lineP_lineS {i last : Nat} {s : St} {row : List UInt8} {r : Nat × St} (hi : i ≠ 0) (h : lineP i last s row = some r) : lineS s row = some r.2 := by
  rw [lineP, if_neg hi] at h
  rw [lineS]
  cases h1 : lineN wWork 3 row with
  | some xs =>
    rw [h1] at h
    simp only at h
    split at h
    · cases h; rfl
    · cases h
  | none =>
    rw [h1] at h
    simp only at h
    simp only
    cases h2 : lineN wGroup 3 row with
    | some xs =>
      rw [h2] at h
      simp only at h
      split at h
      · cases h; rfl
      · cases h
    | none =>
      rw [h2] at h
      simp only at h
      simp only
      cases h3 : lineN wNode 4 row with
      | some xs =>
        rw [h3] at h
        simp only at h
        split at h
        · cases h; rfl
        · cases h
      | none =>
        rw [h3] at h
        simp only at h
        simp only
        cases h4 : lineN wPod 5 row with
        | some xs =>
          rw [h4] at h
          simp only at h
          split at h
          · cases h; rfl
          · cases h
        | none => rw [h4] at h; cases h
theorem rowsP_linesS : ∀ (rs : List (List UInt8)) (i last : Nat) (s : St) (r : Nat × St), 0 < i → rowsP i last s rs = some r → linesS s rs = some r.2
  | [], i, last, s, r, _, h => by cases h; rfl
  | x :: rs, i, last, s, r, hi, h => by
    rw [rowsP] at h
    cases h1 : lineP i last s x with
    | none => rw [h1] at h; cases h
    | some r1 =>
      rw [h1] at h
      rw [linesS, lineP_lineS (by omega) h1]
      exact rowsP_linesS rs (i + 1) r1.1 r1.2 r (by omega) h
theorem rowsP_rows : ∀ (rs : List (List UInt8)) (i last : Nat) (s : St) (r : Nat × St), 0 < i → rowsP i last s rs = some r → ∃ (ws : List Ws) (gs : List Gs) (ns : List Nd) (ps : List Pd), (1 < last → ws = []) ∧ (2 < last → gs = []) ∧ (3 < last → ns = []) ∧ rs = ws.map workSLine ++ (gs.map groupSLine ++ (ns.map nodeSLine ++ ps.map podSLine)) ∧ r.2 = { s with works := s.works ++ ws, groups := s.groups ++ gs, nodes := s.nodes ++ ns, pods := s.pods ++ ps }
  | [], i, last, s, r, _, h => by
    cases h
    exact ⟨[], [], [], [], fun _ => rfl, fun _ => rfl, fun _ => rfl, rfl, by simp⟩
  | row :: rs, i, last, s, r, hi, h => by
    rw [rowsP] at h
    unfold lineP at h
    rw [if_neg (by omega)] at h
    cases h0 : lineN wWork 3 row with
    | some xs =>
      rw [h0] at h
      simp only at h
      by_cases hl : last ≤ 1
      · rw [if_pos hl] at h
        simp only at h
        obtain ⟨ws, gs, ns, ps, g1, g2, g3, g4, g5⟩ := rowsP_rows rs (i + 1) 1 _ r (by omega) h
        obtain ⟨e1, e2⟩ := lineN_row (by omega) h0
        refine ⟨workSL xs :: ws, gs, ns, ps, fun h => by omega, fun h => by omega, fun h => by omega, ?_, by rw [g5]; simp⟩
        rw [e1, g4]
        simp only [List.nil_append, List.map_cons, List.cons_append, workSLine, workS_back e2]
      · rw [if_neg hl] at h; cases h
    | none =>
      rw [h0] at h
      simp only at h
      cases h1 : lineN wGroup 3 row with
      | some xs =>
        rw [h1] at h
        simp only at h
        by_cases hl : last ≤ 2
        · rw [if_pos hl] at h
          simp only at h
          obtain ⟨ws, gs, ns, ps, g1, g2, g3, g4, g5⟩ := rowsP_rows rs (i + 1) 2 _ r (by omega) h
          obtain ⟨e1, e2⟩ := lineN_row (by omega) h1
          have z0 := g1 (by omega)
          subst z0
          refine ⟨[], groupSL xs :: gs, ns, ps, fun _ => rfl, fun h => by omega, fun h => by omega, ?_, by rw [g5]; simp⟩
          rw [e1, g4]
          simp only [List.map_nil, List.nil_append, List.map_cons, List.cons_append, groupSLine, groupS_back e2]
        · rw [if_neg hl] at h; cases h
      | none =>
        rw [h1] at h
        simp only at h
        cases h2 : lineN wNode 4 row with
        | some xs =>
          rw [h2] at h
          simp only at h
          by_cases hl : last ≤ 3
          · rw [if_pos hl] at h
            simp only at h
            obtain ⟨ws, gs, ns, ps, g1, g2, g3, g4, g5⟩ := rowsP_rows rs (i + 1) 3 _ r (by omega) h
            obtain ⟨e1, e2⟩ := lineN_row (by omega) h2
            have z0 := g1 (by omega)
            have z1 := g2 (by omega)
            subst z0 z1
            refine ⟨[], [], nodeSL xs :: ns, ps, fun _ => rfl, fun _ => rfl, fun h => by omega, ?_, by rw [g5]; simp⟩
            rw [e1, g4]
            simp only [List.map_nil, List.nil_append, List.map_cons, List.cons_append, nodeSLine, nodeS_back e2]
          · rw [if_neg hl] at h; cases h
        | none =>
          rw [h2] at h
          simp only at h
          cases h3 : lineN wPod 5 row with
          | some xs =>
            rw [h3] at h
            simp only at h
            by_cases hl : last ≤ 4
            · rw [if_pos hl] at h
              simp only at h
              obtain ⟨ws, gs, ns, ps, g1, g2, g3, g4, g5⟩ := rowsP_rows rs (i + 1) 4 _ r (by omega) h
              obtain ⟨e1, e2⟩ := lineN_row (by omega) h3
              have z0 := g1 (by omega)
              have z1 := g2 (by omega)
              have z2 := g3 (by omega)
              subst z0 z1 z2
              refine ⟨[], [], [], podSL xs :: ps, fun _ => rfl, fun _ => rfl, fun _ => rfl, ?_, by rw [g5]; simp⟩
              rw [e1, g4]
              simp only [List.map_nil, List.nil_append, List.map_cons, List.cons_append, podSLine, podS_back e2]
            · rw [if_neg hl] at h; cases h
          | none =>
            rw [h3] at h
            simp only at h
            cases h
theorem rowsP_works : ∀ (ws : List Ws) (i last : Nat) (s : St) (rs : List (List UInt8)), 0 < i → last ≤ 1 → (∀ x ∈ ws, ∀ n ∈ workSN x, inM n = true) → ∃ j last', 0 < j ∧ last' ≤ 1 ∧ rowsP i last s (ws.map workSLine ++ rs) = rowsP j last' { s with works := s.works ++ ws } rs
  | [], i, last, s, rs, hi, hl, _ => ⟨i, last, hi, hl, by simp⟩
  | x :: ws, i, last, s, rs, hi, hl, h => by
    obtain ⟨j, l', h1, h2, h3⟩ := rowsP_works ws (i + 1) 1 { s with works := s.works ++ [x] } rs (by omega) (by omega) (fun y hy => h y (by simp [hy]))
    refine ⟨j, l', h1, h2, ?_⟩
    rw [List.map_cons, List.cons_append, rowsP, lineP, if_neg (by omega), workSLine, lineN_yes (n := 3) (by omega) rfl (h x (by simp))]
    simp only [if_pos hl]
    rw [show workSL (workSN x) = x from rfl, h3]
    simp
theorem rowsP_groups : ∀ (ws : List Gs) (i last : Nat) (s : St) (rs : List (List UInt8)), 0 < i → last ≤ 2 → (∀ x ∈ ws, ∀ n ∈ groupSN x, inM n = true) → ∃ j last', 0 < j ∧ last' ≤ 2 ∧ rowsP i last s (ws.map groupSLine ++ rs) = rowsP j last' { s with groups := s.groups ++ ws } rs
  | [], i, last, s, rs, hi, hl, _ => ⟨i, last, hi, hl, by simp⟩
  | x :: ws, i, last, s, rs, hi, hl, h => by
    obtain ⟨j, l', h1, h2, h3⟩ := rowsP_groups ws (i + 1) 2 { s with groups := s.groups ++ [x] } rs (by omega) (by omega) (fun y hy => h y (by simp [hy]))
    refine ⟨j, l', h1, h2, ?_⟩
    have zws : lineN wWork 3 (groupSLine x) = none := by rw [lineN, restB_no (by simp [groupSLine])]
    rw [List.map_cons, List.cons_append, rowsP, lineP, if_neg (by omega), zws, groupSLine, lineN_yes (n := 3) (by omega) rfl (h x (by simp))]
    simp only [if_pos hl]
    rw [show groupSL (groupSN x) = x from rfl, h3]
    simp
theorem rowsP_nodes : ∀ (ws : List Nd) (i last : Nat) (s : St) (rs : List (List UInt8)), 0 < i → last ≤ 3 → (∀ x ∈ ws, ∀ n ∈ nodeSN x, inM n = true) → ∃ j last', 0 < j ∧ last' ≤ 3 ∧ rowsP i last s (ws.map nodeSLine ++ rs) = rowsP j last' { s with nodes := s.nodes ++ ws } rs
  | [], i, last, s, rs, hi, hl, _ => ⟨i, last, hi, hl, by simp⟩
  | x :: ws, i, last, s, rs, hi, hl, h => by
    obtain ⟨j, l', h1, h2, h3⟩ := rowsP_nodes ws (i + 1) 3 { s with nodes := s.nodes ++ [x] } rs (by omega) (by omega) (fun y hy => h y (by simp [hy]))
    refine ⟨j, l', h1, h2, ?_⟩
    have zws : lineN wWork 3 (nodeSLine x) = none := by rw [lineN, restB_no (by simp [nodeSLine])]
    have zgs : lineN wGroup 3 (nodeSLine x) = none := by rw [lineN, restB_no (by simp [nodeSLine])]
    rw [List.map_cons, List.cons_append, rowsP, lineP, if_neg (by omega), zws, zgs, nodeSLine, lineN_yes (n := 4) (by omega) rfl (h x (by simp))]
    simp only [if_pos hl]
    rw [show nodeSL (nodeSN x) = x from rfl, h3]
    simp
theorem rowsP_pods : ∀ (ws : List Pd) (i last : Nat) (s : St) (rs : List (List UInt8)), 0 < i → last ≤ 4 → (∀ x ∈ ws, ∀ n ∈ podSN x, inM n = true) → ∃ j last', 0 < j ∧ last' ≤ 4 ∧ rowsP i last s (ws.map podSLine ++ rs) = rowsP j last' { s with pods := s.pods ++ ws } rs
  | [], i, last, s, rs, hi, hl, _ => ⟨i, last, hi, hl, by simp⟩
  | x :: ws, i, last, s, rs, hi, hl, h => by
    obtain ⟨j, l', h1, h2, h3⟩ := rowsP_pods ws (i + 1) 4 { s with pods := s.pods ++ [x] } rs (by omega) (by omega) (fun y hy => h y (by simp [hy]))
    refine ⟨j, l', h1, h2, ?_⟩
    have zws : lineN wWork 3 (podSLine x) = none := by rw [lineN, restB_no (by simp [podSLine])]
    have zgs : lineN wGroup 3 (podSLine x) = none := by rw [lineN, restB_no (by simp [podSLine])]
    have zns : lineN wNode 4 (podSLine x) = none := by rw [lineN, restB_no (by simp [podSLine])]
    rw [List.map_cons, List.cons_append, rowsP, lineP, if_neg (by omega), zws, zgs, zns, podSLine, lineN_yes (n := 5) (by omega) rfl (h x (by simp))]
    simp only [if_pos hl]
    rw [show podSL (podSN x) = x from rfl, h3]
    simp
/-- What the program's lines read is what the document reads. -/
theorem progR_eq (t : List UInt8) : progR t = stateR t := by
  have key : ∀ s, progR t = some s ↔ stateR t = some s := by
    intro s
    rw [stateR_iff]
    constructor
    · intro h
      unfold progR at h
      split at h
      · rename_i hl
        split at h
        · rename_i l1 s1 h1
          cases h
          obtain ⟨p, ps, e1, e2⟩ := join_cut 10 t
          rw [e1, rowsP] at h1
          unfold lineP at h1
          rw [if_pos rfl] at h1
          cases hx : lineN wState 2 p with
          | none => rw [hx] at h1; cases h1
          | some xs =>
            rw [hx] at h1
            simp only at h1
            obtain ⟨ws, gs, ns, qs, -, -, -, h3, h4⟩ := rowsP_rows ps 1 0 _ _ (by omega) h1
            have hin := linesS_in _ _ _ (rowsP_linesS ps 1 0 _ _ (by omega) h1)
            obtain ⟨e3, e4⟩ := lineN_row (by omega) hx
            have hm := (lineN_in (by omega) hx).2
            obtain ⟨a0, a1, rfl⟩ := two_of e4
            refine ⟨hl, hin ⟨by simpa using hm, by simp [s00], by simp [s00], by simp [s00], by simp [s00]⟩, ?_⟩
            simp only [s00, List.nil_append] at h4
            subst h4
            rw [stateB_lines]
            conv => rhs; rw [e2, e3, h3]
            rfl
        · cases h
      · cases h
    · rintro ⟨h1, ⟨m0, m1, m2, m3, m4⟩, h3⟩
      have hcut : cutB 10 t = ([115, 116, 97, 116, 101] ++ 32 :: numsB [s.nextPod, s.nextNode]) :: allLines s := by
        rw [← h3, stateB_lines s]
        refine cut_lines _ _ ?_ ?_
        · have := numsB_line m0
          simp [this]
        · intro l hl
          simp only [allLines, List.mem_append, List.mem_map] at hl
          rcases hl with ⟨x, hx, rfl⟩ | ⟨x, hx, rfl⟩ | ⟨x, hx, rfl⟩ | ⟨x, hx, rfl⟩
          · have := numsB_line (m1 x hx)
            simp [workSLine, this]
          · have := numsB_line (m2 x hx)
            simp [groupSLine, this]
          · have := numsB_line (m3 x hx)
            simp [nodeSLine, this]
          · have := numsB_line (m4 x hx)
            simp [podSLine, this]
      rw [progR, if_pos h1, hcut, rowsP, lineP, if_pos rfl, lineN_yes (n := 2) (by omega) rfl m0]
      simp only
      obtain ⟨j1, l1, a1, b1, c1⟩ := rowsP_works s.works 1 0 { s00 with nextPod := s.nextPod, nextNode := s.nextNode } (s.groups.map groupSLine ++ (s.nodes.map nodeSLine ++ s.pods.map podSLine)) (by omega) (by omega) m1
      obtain ⟨j2, l2, a2, b2, c2⟩ := rowsP_groups s.groups j1 l1 _ (s.nodes.map nodeSLine ++ s.pods.map podSLine) a1 (by omega) m2
      obtain ⟨j3, l3, a3, b3, c3⟩ := rowsP_nodes s.nodes j2 l2 _ (s.pods.map podSLine) a2 (by omega) m3
      obtain ⟨j4, l4, a4, b4, c4⟩ := rowsP_pods s.pods j3 l3 _ [] a3 (by omega) m4
      rw [List.append_nil] at c4
      have h8 := ((c1.trans c2).trans c3).trans c4
      have h9 : rowsP (0 + 1) 0 { pods := s00.pods, nodes := s00.nodes, works := s00.works, groups := s00.groups, nextPod := [s.nextPod, s.nextNode].getD 0 0, nextNode := [s.nextPod, s.nextNode].getD 1 0 } (allLines s) = some (l4, s) := by
        refine h8.trans ?_
        simp [rowsP, s00]
      rw [h9]
  cases hp : progR t with
  | some c => exact ((key c).1 hp).symm
  | none =>
    cases hc : stateR t with
    | none => rfl
    | some c => rw [(key c).2 hc] at hp; cases hp

theorem rowsP_append : ∀ (a b : List (List UInt8)) (i last : Nat) (s : St), rowsP i last s (a ++ b) = match rowsP i last s a with
    | some (l', s') => rowsP (i + a.length) l' s' b
    | none => none
  | [], b, i, last, s => rfl
  | x :: a, b, i, last, s => by
    simp only [List.cons_append, rowsP]
    cases lineP i last s x with
    | none => rfl
    | some r =>
      simp only
      rw [rowsP_append a b (i + 1) r.1 r.2]
      simp only [List.length_cons]
      rw [show i + 1 + a.length = i + (a.length + 1) by omega]
theorem lineP_len {i last : Nat} {s : St} {row : List UInt8} {r : Nat × St} (h : lineP i last s row = some r) : r.1 ≤ 4 ∧ r.2.pods.length ≤ s.pods.length + 1 ∧ r.2.nodes.length ≤ s.nodes.length + 1 ∧ r.2.works.length ≤ s.works.length + 1 ∧ r.2.groups.length ≤ s.groups.length + 1 := by
  unfold lineP at h
  repeat' split at h
  all_goals first
    | (cases h; simp; done)
    | cases h
theorem rowsP_len : ∀ (a : List (List UInt8)) (i last : Nat) (s : St) (r : Nat × St), last ≤ 4 → rowsP i last s a = some r → r.1 ≤ 4 ∧ r.2.pods.length ≤ s.pods.length + a.length ∧ r.2.nodes.length ≤ s.nodes.length + a.length ∧ r.2.works.length ≤ s.works.length + a.length ∧ r.2.groups.length ≤ s.groups.length + a.length
  | [], i, last, s, r, hl, h => by cases h; simp [hl]
  | x :: a, i, last, s, r, hl, h => by
    rw [rowsP] at h
    cases h1 : lineP i last s x with
    | none => rw [h1] at h; cases h
    | some r1 =>
      rw [h1] at h
      have h2 := lineP_len h1
      have h3 := rowsP_len a (i + 1) r1.1 r1.2 r h2.1 h
      simp only [List.length_cons]
      omega
theorem place_cases (x : List UInt8) : (idxB words5 x = -1 ∧ x ≠ wState ∧ x ≠ wWork ∧ x ≠ wGroup ∧ x ≠ wNode ∧ x ≠ wPod) ∨ (x = wState ∧ idxB words5 x = 0) ∨ (x = wWork ∧ idxB words5 x = 1) ∨ (x = wGroup ∧ idxB words5 x = 2) ∨ (x = wNode ∧ idxB words5 x = 3) ∨ (x = wPod ∧ idxB words5 x = 4) := by
  rcases idxB_cases words5 x with ⟨h1, h2⟩ | ⟨j, hj, h1, h2⟩
  · simp only [words5, List.mem_cons, List.not_mem_nil, or_false, not_or] at h2
    exact .inl ⟨h1, h2.1, h2.2.1, h2.2.2.1, h2.2.2.2.1, h2.2.2.2.2⟩
  · match j, hj with
    | 0, _ => exact .inr (.inl ⟨h1.symm, h2⟩)
    | 1, _ => exact .inr (.inr (.inl ⟨h1.symm, h2⟩))
    | 2, _ => exact .inr (.inr (.inr (.inl ⟨h1.symm, h2⟩)))
    | 3, _ => exact .inr (.inr (.inr (.inr (.inl ⟨h1.symm, h2⟩))))
    | 4, _ => exact .inr (.inr (.inr (.inr (.inr ⟨h1.symm, h2⟩))))
theorem lineP_head {i last : Nat} {s : St} {row : List UInt8} (hi : i = 0) (h : (Lib.cut row [32]).1 = wState) : lineP i last s row = match readB (Lib.cut row [32]).2.1 2 with
    | some xs => some (0, { s with nextPod := xs.getD 0 0, nextNode := xs.getD 1 0 })
    | none => none := by
  rw [lineP, if_pos hi, lineN_at (by omega) (by decide) h] <;> rfl
theorem lineP_work {i last : Nat} {s : St} {row : List UInt8} (hi : i ≠ 0) (hl : last ≤ 1) (h : (Lib.cut row [32]).1 = wWork) : lineP i last s row = match readB (Lib.cut row [32]).2.1 3 with
    | some xs => some (1, { s with works := s.works ++ [workSL xs] })
    | none => none := by
  rw [lineP, if_neg hi, lineN_at (n := 3) (by omega) (by decide) h]
  cases readB (Lib.cut row [32]).2.1 3 with
  | some xs => simp [hl]
  | none =>
    simp only
    rw [lineN_ne (wd' := wGroup) (n := 3) (by omega) (by decide) h (by decide), lineN_ne (wd' := wNode) (n := 4) (by omega) (by decide) h (by decide), lineN_ne (wd' := wPod) (n := 5) (by omega) (by decide) h (by decide)]
theorem lineP_group {i last : Nat} {s : St} {row : List UInt8} (hi : i ≠ 0) (hl : last ≤ 2) (h : (Lib.cut row [32]).1 = wGroup) : lineP i last s row = match readB (Lib.cut row [32]).2.1 3 with
    | some xs => some (2, { s with groups := s.groups ++ [groupSL xs] })
    | none => none := by
  rw [lineP, if_neg hi, lineN_ne (wd' := wWork) (n := 3) (by omega) (by decide) h (by decide), lineN_at (n := 3) (by omega) (by decide) h]
  cases readB (Lib.cut row [32]).2.1 3 with
  | some xs => simp [hl]
  | none =>
    simp only
    rw [lineN_ne (wd' := wNode) (n := 4) (by omega) (by decide) h (by decide), lineN_ne (wd' := wPod) (n := 5) (by omega) (by decide) h (by decide)]
theorem lineP_node {i last : Nat} {s : St} {row : List UInt8} (hi : i ≠ 0) (hl : last ≤ 3) (h : (Lib.cut row [32]).1 = wNode) : lineP i last s row = match readB (Lib.cut row [32]).2.1 4 with
    | some xs => some (3, { s with nodes := s.nodes ++ [nodeSL xs] })
    | none => none := by
  rw [lineP, if_neg hi, lineN_ne (wd' := wWork) (n := 3) (by omega) (by decide) h (by decide), lineN_ne (wd' := wGroup) (n := 3) (by omega) (by decide) h (by decide), lineN_at (n := 4) (by omega) (by decide) h]
  cases readB (Lib.cut row [32]).2.1 4 with
  | some xs => simp [hl]
  | none =>
    simp only
    rw [lineN_ne (wd' := wPod) (n := 5) (by omega) (by decide) h (by decide)]
theorem lineP_pod {i last : Nat} {s : St} {row : List UInt8} (hi : i ≠ 0) (hl : last ≤ 4) (h : (Lib.cut row [32]).1 = wPod) : lineP i last s row = match readB (Lib.cut row [32]).2.1 5 with
    | some xs => some (4, { s with pods := s.pods ++ [podSL xs] })
    | none => none := by
  rw [lineP, if_neg hi, lineN_ne (wd' := wWork) (n := 3) (by omega) (by decide) h (by decide), lineN_ne (wd' := wGroup) (n := 3) (by omega) (by decide) h (by decide), lineN_ne (wd' := wNode) (n := 4) (by omega) (by decide) h (by decide), lineN_at (n := 5) (by omega) (by decide) h]
  cases readB (Lib.cut row [32]).2.1 5 with
  | some xs => simp [hl]
  | none => rfl
theorem lineP_fail {i last : Nat} {s : St} {row : List UInt8} (h0 : i = 0 → last = 0) (h : ¬ ((last : Int) ≤ idxB words5 (Lib.cut row [32]).1 ∧ (idxB words5 (Lib.cut row [32]).1 = 0 ↔ i = 0))) : lineP i last s row = none := by
  obtain ⟨x, hx⟩ : ∃ x, (Lib.cut row [32]).1 = x := ⟨_, rfl⟩
  rw [hx] at h
  by_cases hi : i = 0
  · by_cases hw : x = wState
    · exfalso
      apply h
      have h2 := h0 hi
      rcases place_cases x with h1 | h1 | h1 | h1 | h1 | h1
      · exact absurd hw h1.2.1
      · rw [h1.2]; exact ⟨by omega, by simp [hi]⟩
      · rw [hw] at h1; cases h1.1
      · rw [hw] at h1; cases h1.1
      · rw [hw] at h1; cases h1.1
      · rw [hw] at h1; cases h1.1
    · rw [lineP, if_pos hi, lineN_ne (wd' := wState) (n := 2) (by omega) (by decide) hx hw]
  · rcases place_cases x with h1 | h1 | h1 | h1 | h1 | h1
    · rw [lineP, if_neg hi, lineN_ne (wd' := wWork) (n := 3) (by omega) (by decide) hx h1.2.2.1, lineN_ne (wd' := wGroup) (n := 3) (by omega) (by decide) hx h1.2.2.2.1, lineN_ne (wd' := wNode) (n := 4) (by omega) (by decide) hx h1.2.2.2.2.1, lineN_ne (wd' := wPod) (n := 5) (by omega) (by decide) hx h1.2.2.2.2.2]
    · rw [h1.1] at hx
      rw [lineP, if_neg hi, lineN_ne (wd' := wWork) (n := 3) (by omega) (by decide) hx (by decide), lineN_ne (wd' := wGroup) (n := 3) (by omega) (by decide) hx (by decide), lineN_ne (wd' := wNode) (n := 4) (by omega) (by decide) hx (by decide), lineN_ne (wd' := wPod) (n := 5) (by omega) (by decide) hx (by decide)]
    · rw [h1.2] at h
      have hl : ¬ last ≤ 1 := fun h3 => h ⟨by omega, by simp [hi]⟩
      rw [h1.1] at hx
      rw [lineP, if_neg hi]
      cases lineN wWork 3 row with
      | some xs => simp [hl]
      | none =>
        simp only
        rw [lineN_ne (wd' := wGroup) (n := 3) (by omega) (by decide) hx (by decide), lineN_ne (wd' := wNode) (n := 4) (by omega) (by decide) hx (by decide), lineN_ne (wd' := wPod) (n := 5) (by omega) (by decide) hx (by decide)]
    · rw [h1.2] at h
      have hl : ¬ last ≤ 2 := fun h3 => h ⟨by omega, by simp [hi]⟩
      rw [h1.1] at hx
      rw [lineP, if_neg hi, lineN_ne (wd' := wWork) (n := 3) (by omega) (by decide) hx (by decide)]
      cases lineN wGroup 3 row with
      | some xs => simp [hl]
      | none =>
        simp only
        rw [lineN_ne (wd' := wNode) (n := 4) (by omega) (by decide) hx (by decide), lineN_ne (wd' := wPod) (n := 5) (by omega) (by decide) hx (by decide)]
    · rw [h1.2] at h
      have hl : ¬ last ≤ 3 := fun h3 => h ⟨by omega, by simp [hi]⟩
      rw [h1.1] at hx
      rw [lineP, if_neg hi, lineN_ne (wd' := wWork) (n := 3) (by omega) (by decide) hx (by decide), lineN_ne (wd' := wGroup) (n := 3) (by omega) (by decide) hx (by decide)]
      cases lineN wNode 4 row with
      | some xs => simp [hl]
      | none =>
        simp only
        rw [lineN_ne (wd' := wPod) (n := 5) (by omega) (by decide) hx (by decide)]
    · rw [h1.2] at h
      have hl : ¬ last ≤ 4 := fun h3 => h ⟨by omega, by simp [hi]⟩
      rw [h1.1] at hx
      rw [lineP, if_neg hi, lineN_ne (wd' := wWork) (n := 3) (by omega) (by decide) hx (by decide), lineN_ne (wd' := wGroup) (n := 3) (by omega) (by decide) hx (by decide), lineN_ne (wd' := wNode) (n := 4) (by omega) (by decide) hx (by decide)]
      cases lineN wPod 5 row with
      | some xs => simp [hl]
      | none => rfl
theorem gl_only {ev : Value} {w w' : World} {r : Nat} (G : Gl ev w) (h : Only (fun k => k = r) w w') (hr : 9 ≤ r) : Gl ev w' :=
  gl_heap G (r := r) ⟨h.os, h.tape, h.output, h.size, fun k hk hne => h.block k hk (fun e => hne (by rw [e]))⟩ hr
theorem only_grown {S : Nat → Prop} {w w' : World} {g : Nat} (h : w.grownBy w' (some g)) (hg : S g) : Only S w w' :=
  Only.of_grown h (fun k hk => by cases hk; exact hg)
/-- The state while lines are read. -/
structure RdC (w1 : World) (bx : Nat) (w : World) (vp vn vw vg : Value) (s : St) : Prop where
  oc : OS w w1.heap.size vp vn vw vg s
  box : Blk w bx (sva vp vn vw vg s) 36
  only : Only (fun k => k = bx) w1 w
theorem RdC.bel {w1 w w' : World} {bx : Nat} {vp vn vw vg : Value} {s : St} (h : RdC w1 bx w vp vn vw vg s) (hb : Below w.heap.size w w') : RdC w1 bx w' vp vn vw vg s :=
  ⟨h.oc.keep hb, h.box.below hb h.box.lt, h.only.trans (Only.of_below hb)⟩
theorem RdC.head {w1 w w' : World} {bx : Nat} {vp vn vw vg : Value} {s : St} (h : RdC w1 bx w vp vn vw vg s) (hx : bx < w1.heap.size) (hg : w.grownBy w' (some bx)) {x0 x1 : Int} (hb : Blk w' bx (setN (sva vp vn vw vg s) [0 + 4, 0 + 5] [x0, x1]) 36) :
    RdC w1 bx w' vp vn vw vg { s with nextPod := x0, nextNode := x1 } := by
  have ho : Only (fun k => k = bx) w w' := only_grown hg rfl
  have h1 := h.oc.only ho (fun k hk e => by have := (h.oc.lt k hk).1; omega)
  exact ⟨⟨h1.P, h1.N, h1.W, h1.G, h1.nPN, h1.nPW, h1.nPG, h1.nNW, h1.nNG, h1.nWG⟩, hb, h.only.trans ho⟩
theorem RdC.pod {w1 w w2 w3 : World} {bx g cp : Nat} {vp vn vw vg : Value} {s : St} {x0 x : Pd} (h : RdC w1 bx w vp vn vw vg s) (hx : bx < w1.heap.size)
    (hq : AQ 5 Pd.cell 100 w1.heap.size w vp s.pods x0 bx 36 w2 (.slice (some ⟨g, 0, none⟩) (s.pods.length + 1) cp) ((sva vp vn vw vg s).setIfInBounds 0 (.slice (some ⟨g, 0, none⟩) (s.pods.length + 1) cp)))
    (hg : w2.grownBy w3 (some g)) : w1.heap.size ≤ g ∧ Only (fun k => k = bx) w1 w3 ∧ (Owns 5 Pd.cell 100 w1.heap.size w3 (.slice (some ⟨g, 0, none⟩) (s.pods.length + 1) cp) (s.pods ++ [x]) → RdC w1 bx w3 (.slice (some ⟨g, 0, none⟩) (s.pods.length + 1) cp) vn vw vg { s with pods := s.pods ++ [x] }) := by
  have hgb := (hq.own.lt g rfl).1
  have hon3 : Only (fun k => k = g) w2 w3 := only_grown hg rfl
  have hon : Only (fun k => k = bx) w1 w3 := (h.only.into hq.only (fun k hk e => e.elim (fun e => by have := (h.oc.lt k (.inl e)).1; omega) id)).into hon3 (fun k hk e => by omega)
  have hG1 : vn.ownBlock ≠ some g := fun e => by
    rcases hq.from' with h1 | ⟨k, h1, h2⟩
    · exact h.oc.nPN _ h1.symm e
    · have hk : g = k := Option.some.inj h1
      have := (h.oc.lt g (.inr (.inl e))).2
      omega
  have hO1 := (h.oc.N.only hq.only (fun k hk e => e.elim (fun e => h.oc.nPN _ e hk) (fun e => by have := (h.oc.lt k (.inr (.inl hk))).1; omega))).only hon3 (fun k hk e => hG1 (e ▸ hk))
  have hG2 : vw.ownBlock ≠ some g := fun e => by
    rcases hq.from' with h1 | ⟨k, h1, h2⟩
    · exact h.oc.nPW _ h1.symm e
    · have hk : g = k := Option.some.inj h1
      have := (h.oc.lt g (.inr (.inr (.inl e)))).2
      omega
  have hO2 := (h.oc.W.only hq.only (fun k hk e => e.elim (fun e => h.oc.nPW _ e hk) (fun e => by have := (h.oc.lt k (.inr (.inr (.inl hk)))).1; omega))).only hon3 (fun k hk e => hG2 (e ▸ hk))
  have hG3 : vg.ownBlock ≠ some g := fun e => by
    rcases hq.from' with h1 | ⟨k, h1, h2⟩
    · exact h.oc.nPG _ h1.symm e
    · have hk : g = k := Option.some.inj h1
      have := (h.oc.lt g (.inr (.inr (.inr e)))).2
      omega
  have hO3 := (h.oc.G.only hq.only (fun k hk e => e.elim (fun e => h.oc.nPG _ e hk) (fun e => by have := (h.oc.lt k (.inr (.inr (.inr hk)))).1; omega))).only hon3 (fun k hk e => hG3 (e ▸ hk))
  exact ⟨hgb, hon, fun hn => ⟨⟨hn, hO1, hO2, hO3, (fun k hk hk2 => by cases hk; exact hG1 hk2), (fun k hk hk2 => by cases hk; exact hG2 hk2), (fun k hk hk2 => by cases hk; exact hG3 hk2), (h.oc.nNW), (h.oc.nNG), (h.oc.nWG)⟩, hq.box.only hon3 (by omega), hon⟩⟩
theorem RdC.node {w1 w w2 w3 : World} {bx g cp : Nat} {vp vn vw vg : Value} {s : St} {x0 x : Nd} (h : RdC w1 bx w vp vn vw vg s) (hx : bx < w1.heap.size)
    (hq : AQ 4 Nd.cell 98 w1.heap.size w vn s.nodes x0 bx 36 w2 (.slice (some ⟨g, 0, none⟩) (s.nodes.length + 1) cp) ((sva vp vn vw vg s).setIfInBounds 1 (.slice (some ⟨g, 0, none⟩) (s.nodes.length + 1) cp)))
    (hg : w2.grownBy w3 (some g)) : w1.heap.size ≤ g ∧ Only (fun k => k = bx) w1 w3 ∧ (Owns 4 Nd.cell 98 w1.heap.size w3 (.slice (some ⟨g, 0, none⟩) (s.nodes.length + 1) cp) (s.nodes ++ [x]) → RdC w1 bx w3 vp (.slice (some ⟨g, 0, none⟩) (s.nodes.length + 1) cp) vw vg { s with nodes := s.nodes ++ [x] }) := by
  have hgb := (hq.own.lt g rfl).1
  have hon3 : Only (fun k => k = g) w2 w3 := only_grown hg rfl
  have hon : Only (fun k => k = bx) w1 w3 := (h.only.into hq.only (fun k hk e => e.elim (fun e => by have := (h.oc.lt k (.inr (.inl e))).1; omega) id)).into hon3 (fun k hk e => by omega)
  have hG0 : vp.ownBlock ≠ some g := fun e => by
    rcases hq.from' with h1 | ⟨k, h1, h2⟩
    · exact h.oc.nPN _ e h1.symm
    · have hk : g = k := Option.some.inj h1
      have := (h.oc.lt g (.inl e)).2
      omega
  have hO0 := (h.oc.P.only hq.only (fun k hk e => e.elim (fun e => h.oc.nPN _ hk e) (fun e => by have := (h.oc.lt k (.inl hk)).1; omega))).only hon3 (fun k hk e => hG0 (e ▸ hk))
  have hG2 : vw.ownBlock ≠ some g := fun e => by
    rcases hq.from' with h1 | ⟨k, h1, h2⟩
    · exact h.oc.nNW _ h1.symm e
    · have hk : g = k := Option.some.inj h1
      have := (h.oc.lt g (.inr (.inr (.inl e)))).2
      omega
  have hO2 := (h.oc.W.only hq.only (fun k hk e => e.elim (fun e => h.oc.nNW _ e hk) (fun e => by have := (h.oc.lt k (.inr (.inr (.inl hk)))).1; omega))).only hon3 (fun k hk e => hG2 (e ▸ hk))
  have hG3 : vg.ownBlock ≠ some g := fun e => by
    rcases hq.from' with h1 | ⟨k, h1, h2⟩
    · exact h.oc.nNG _ h1.symm e
    · have hk : g = k := Option.some.inj h1
      have := (h.oc.lt g (.inr (.inr (.inr e)))).2
      omega
  have hO3 := (h.oc.G.only hq.only (fun k hk e => e.elim (fun e => h.oc.nNG _ e hk) (fun e => by have := (h.oc.lt k (.inr (.inr (.inr hk)))).1; omega))).only hon3 (fun k hk e => hG3 (e ▸ hk))
  exact ⟨hgb, hon, fun hn => ⟨⟨hO0, hn, hO2, hO3, (fun k hk hk2 => by cases hk2; exact hG0 hk), (h.oc.nPW), (h.oc.nPG), (fun k hk hk2 => by cases hk; exact hG2 hk2), (fun k hk hk2 => by cases hk; exact hG3 hk2), (h.oc.nWG)⟩, hq.box.only hon3 (by omega), hon⟩⟩
theorem RdC.work {w1 w w2 w3 : World} {bx g cp : Nat} {vp vn vw vg : Value} {s : St} {x0 x : Ws} (h : RdC w1 bx w vp vn vw vg s) (hx : bx < w1.heap.size)
    (hq : AQ 3 Ws.cell 94 w1.heap.size w vw s.works x0 bx 36 w2 (.slice (some ⟨g, 0, none⟩) (s.works.length + 1) cp) ((sva vp vn vw vg s).setIfInBounds 2 (.slice (some ⟨g, 0, none⟩) (s.works.length + 1) cp)))
    (hg : w2.grownBy w3 (some g)) : w1.heap.size ≤ g ∧ Only (fun k => k = bx) w1 w3 ∧ (Owns 3 Ws.cell 94 w1.heap.size w3 (.slice (some ⟨g, 0, none⟩) (s.works.length + 1) cp) (s.works ++ [x]) → RdC w1 bx w3 vp vn (.slice (some ⟨g, 0, none⟩) (s.works.length + 1) cp) vg { s with works := s.works ++ [x] }) := by
  have hgb := (hq.own.lt g rfl).1
  have hon3 : Only (fun k => k = g) w2 w3 := only_grown hg rfl
  have hon : Only (fun k => k = bx) w1 w3 := (h.only.into hq.only (fun k hk e => e.elim (fun e => by have := (h.oc.lt k (.inr (.inr (.inl e)))).1; omega) id)).into hon3 (fun k hk e => by omega)
  have hG0 : vp.ownBlock ≠ some g := fun e => by
    rcases hq.from' with h1 | ⟨k, h1, h2⟩
    · exact h.oc.nPW _ e h1.symm
    · have hk : g = k := Option.some.inj h1
      have := (h.oc.lt g (.inl e)).2
      omega
  have hO0 := (h.oc.P.only hq.only (fun k hk e => e.elim (fun e => h.oc.nPW _ hk e) (fun e => by have := (h.oc.lt k (.inl hk)).1; omega))).only hon3 (fun k hk e => hG0 (e ▸ hk))
  have hG1 : vn.ownBlock ≠ some g := fun e => by
    rcases hq.from' with h1 | ⟨k, h1, h2⟩
    · exact h.oc.nNW _ e h1.symm
    · have hk : g = k := Option.some.inj h1
      have := (h.oc.lt g (.inr (.inl e))).2
      omega
  have hO1 := (h.oc.N.only hq.only (fun k hk e => e.elim (fun e => h.oc.nNW _ hk e) (fun e => by have := (h.oc.lt k (.inr (.inl hk))).1; omega))).only hon3 (fun k hk e => hG1 (e ▸ hk))
  have hG3 : vg.ownBlock ≠ some g := fun e => by
    rcases hq.from' with h1 | ⟨k, h1, h2⟩
    · exact h.oc.nWG _ h1.symm e
    · have hk : g = k := Option.some.inj h1
      have := (h.oc.lt g (.inr (.inr (.inr e)))).2
      omega
  have hO3 := (h.oc.G.only hq.only (fun k hk e => e.elim (fun e => h.oc.nWG _ e hk) (fun e => by have := (h.oc.lt k (.inr (.inr (.inr hk)))).1; omega))).only hon3 (fun k hk e => hG3 (e ▸ hk))
  exact ⟨hgb, hon, fun hn => ⟨⟨hO0, hO1, hn, hO3, (h.oc.nPN), (fun k hk hk2 => by cases hk2; exact hG0 hk), (h.oc.nPG), (fun k hk hk2 => by cases hk2; exact hG1 hk), (h.oc.nNG), (fun k hk hk2 => by cases hk; exact hG3 hk2)⟩, hq.box.only hon3 (by omega), hon⟩⟩
theorem RdC.group {w1 w w2 w3 : World} {bx g cp : Nat} {vp vn vw vg : Value} {s : St} {x0 x : Gs} (h : RdC w1 bx w vp vn vw vg s) (hx : bx < w1.heap.size)
    (hq : AQ 3 Gs.cell 96 w1.heap.size w vg s.groups x0 bx 36 w2 (.slice (some ⟨g, 0, none⟩) (s.groups.length + 1) cp) ((sva vp vn vw vg s).setIfInBounds 3 (.slice (some ⟨g, 0, none⟩) (s.groups.length + 1) cp)))
    (hg : w2.grownBy w3 (some g)) : w1.heap.size ≤ g ∧ Only (fun k => k = bx) w1 w3 ∧ (Owns 3 Gs.cell 96 w1.heap.size w3 (.slice (some ⟨g, 0, none⟩) (s.groups.length + 1) cp) (s.groups ++ [x]) → RdC w1 bx w3 vp vn vw (.slice (some ⟨g, 0, none⟩) (s.groups.length + 1) cp) { s with groups := s.groups ++ [x] }) := by
  have hgb := (hq.own.lt g rfl).1
  have hon3 : Only (fun k => k = g) w2 w3 := only_grown hg rfl
  have hon : Only (fun k => k = bx) w1 w3 := (h.only.into hq.only (fun k hk e => e.elim (fun e => by have := (h.oc.lt k (.inr (.inr (.inr e)))).1; omega) id)).into hon3 (fun k hk e => by omega)
  have hG0 : vp.ownBlock ≠ some g := fun e => by
    rcases hq.from' with h1 | ⟨k, h1, h2⟩
    · exact h.oc.nPG _ e h1.symm
    · have hk : g = k := Option.some.inj h1
      have := (h.oc.lt g (.inl e)).2
      omega
  have hO0 := (h.oc.P.only hq.only (fun k hk e => e.elim (fun e => h.oc.nPG _ hk e) (fun e => by have := (h.oc.lt k (.inl hk)).1; omega))).only hon3 (fun k hk e => hG0 (e ▸ hk))
  have hG1 : vn.ownBlock ≠ some g := fun e => by
    rcases hq.from' with h1 | ⟨k, h1, h2⟩
    · exact h.oc.nNG _ e h1.symm
    · have hk : g = k := Option.some.inj h1
      have := (h.oc.lt g (.inr (.inl e))).2
      omega
  have hO1 := (h.oc.N.only hq.only (fun k hk e => e.elim (fun e => h.oc.nNG _ hk e) (fun e => by have := (h.oc.lt k (.inr (.inl hk))).1; omega))).only hon3 (fun k hk e => hG1 (e ▸ hk))
  have hG2 : vw.ownBlock ≠ some g := fun e => by
    rcases hq.from' with h1 | ⟨k, h1, h2⟩
    · exact h.oc.nWG _ e h1.symm
    · have hk : g = k := Option.some.inj h1
      have := (h.oc.lt g (.inr (.inr (.inl e)))).2
      omega
  have hO2 := (h.oc.W.only hq.only (fun k hk e => e.elim (fun e => h.oc.nWG _ hk e) (fun e => by have := (h.oc.lt k (.inr (.inr (.inl hk)))).1; omega))).only hon3 (fun k hk e => hG2 (e ▸ hk))
  exact ⟨hgb, hon, fun hn => ⟨⟨hO0, hO1, hO2, hn, (h.oc.nPN), (h.oc.nPW), (fun k hk hk2 => by cases hk2; exact hG0 hk), (h.oc.nNW), (fun k hk hk2 => by cases hk2; exact hG1 hk), (fun k hk hk2 => by cases hk2; exact hG2 hk)⟩, hq.box.only hon3 (by omega), hon⟩⟩
end Go.Proofs.YthdlkpgialmlfaaGreatDoor
