/- Texts: the lines of what is asked, as the program reads them. -/
import Derived.Test.YtoceohacplmgnaaGreatDoorTr
import Derived.Test.YtoceohacplmgnaaGreatDoorXd
namespace Go.Proofs.YtoceohacplmgnaaGreatDoor
open Go.RowKit

theorem AQ.keep {α : Type} {m : Nat} {cell : α → Nat → Int} {T : TypeId} {B : Nat} {w0 w w' : World} {v : Value} {l : List α} {x : α} {bx : Nat} {TB : TypeId} {v' : Value} {cs : Array Value} (h : AQ m cell T B w0 v l x bx TB w v' cs) (hb : Below w.heap.size w w') : AQ m cell T B w0 v l x bx TB w' v' cs :=
  ⟨h.only.trans (Only.of_below hb), h.box.below hb h.box.lt, h.own.keep hb, h.from'⟩

set_option maxRecDepth 100000 in
set_option maxHeartbeats 4000000 in
theorem oneWork_any (v : Value) (l : List Wk) (B bx f TB : Nat) (cs : Array Value) (w : World) (hB : B ≤ w.heap.size) (ho : Owns 8 Wk.cell 74 B w v l) (hl : l.length ≤ 4000) (hb : Blk w bx cs TB) (hf : cs[f]? = some v) (hne : v.ownBlock ≠ some bx) :
    Calls Tryz.prog 50 #[.pointer (some ⟨bx, f, none⟩)] w fun e w' => ∃ g cp, e = .returned (.pointer (some ⟨g, l.length * 8, none⟩)) ∧ AQ 8 Wk.cell 74 B w v l (wkL []) bx TB w' (.slice (some ⟨g, 0, none⟩) (l.length + 1) cp) (cs.setIfInBounds f (.slice (some ⟨g, 0, none⟩) (l.length + 1) cp)) := by
  obtain ⟨aw, cw, rfl, -⟩ := ho.form
  obtain ⟨inf74, i1, i2, i3, i4⟩ := info74
  have I1 := hid i1
  have I2 := hid i2
  have I3 := hid i3
  have I4 := hid i4
  clear i1 i2 i3 i4
  have HO := hid ho
  have HBX := hid hb
  have hbl := hb.lt
  have HF := hid hf
  have HNE := hid hne
  clear ho hb hf hne
  go_enter Tryz.func50, Tryz.ntmps50
  go_wp2_with fail
  obtain ⟨w1, hw1⟩ : ∃ w1, w.alloc (.cells #[.int .i64 0, .int .i64 0, .int .i64 0, .int .i64 0, .int .i64 0, .int .i64 0, .int .i64 0, .int .i64 0] 74) = w1 := ⟨_, rfl⟩
  have hz : Blk w1 w.heap.size #[.int .i64 0, .int .i64 0, .int .i64 0, .int .i64 0, .int .i64 0, .int .i64 0, .int .i64 0, .int .i64 0] 74 := hw1 ▸ Blk.new _ _ _
  have hb1 : Below w.heap.size w w1 := by rw [← hw1]; go_grown
  have ho1 := HO.out.keep hb1
  have hx1 := HBX.out.below hb1 hbl
  have hs1 := hb1.size
  rw [hw1]
  clear hw1
  have hxl := hx1.lt
  have hzl := hz.lt
  refine wp_region_tc [[(0, none)], [(0, none)], [(5, some 1)], [(6, some 2)], [(3, none)], [(8, some 4)], [(7, some 3), (9, some 5)], [(4, some 0)], [(11, some 7), (10, some 6)]]
    (fun i v => match i with | 0 => v = .pointer (some ⟨bx, f, none⟩) | 1 => v = .pointer (some ⟨bx, f, none⟩) | 2 => v = .pointer (some ⟨bx, f, none⟩) | 3 => v = .slice aw l.length cw | 4 => v = .agg #[.int .i64 0, .int .i64 0, .int .i64 0, .int .i64 0, .int .i64 0, .int .i64 0, .int .i64 0, .int .i64 0] | 7 => v = .pointer (some ⟨bx, f, none⟩) | _ => True)
    (AP 8 Wk.cell 74 B w1 (.slice aw l.length cw) l (wkL []) bx TB cs f 5 6 8 9 10) 21 rfl (by kernel_rfl) (AP.start (by go_grown)) ⟨?_, ?_, ?_, ?_, ?_, ?_, ?_, ?_, ?_, trivial⟩ ?_
  · rintro t A w2 Q K hsz hts hu hbf haf hC hK ⟨e0, -⟩
    replace e0 : A.tmps[0]?.getD undef = .pointer (some ⟨bx, f, none⟩) := e0
    simp [go_sem, e0]
    exact hK _ _ rfl (hC.other 0 4 _ (by decide) (by decide))
  · rintro t A w2 Q K hsz hts hu hbf haf hC hK ⟨e0, -⟩
    replace e0 : A.tmps[0]?.getD undef = .pointer (some ⟨bx, f, none⟩) := e0
    simp [go_sem, e0]
    exact hK _ _ rfl (hC.other 1 5 _ (by decide) (by decide))
  · rintro t A w2 Q K hsz hts hu hbf haf hC hK ⟨e5, -⟩
    replace e5 : A.tmps[5]?.getD undef = .pointer (some ⟨bx, f, none⟩) := e5
    simp [go_sem, e5]
    exact hK _ _ rfl (hC.other 2 6 _ (by decide) (by decide))
  · rintro t A w2 Q K hsz hts hu hbf haf hC hK ⟨e6, -⟩
    replace e6 : A.tmps[6]?.getD undef = .pointer (some ⟨bx, f, none⟩) := e6
    have yb := ((hx1.below (hC.pre (haf 6 _ rfl (by kernel_rfl))).1 hxl).cell f).trans HF.out
    simp [go_sem, e6, yb]
    exact hK _ _ rfl (hC.other 3 7 _ (by decide) (by decide))
  · rintro t A w2 Q K hsz hts hu hbf haf hC hK ⟨e3, -⟩
    replace e3 : A.tmps[3]?.getD undef = .pointer (some ⟨w.heap.size, 0, none⟩) := e3
    have yb := (hz.below (hC.pre (haf 6 _ rfl (by kernel_rfl))).1 hzl).cell
    simp [go_sem, e3, yb]
    exact hK _ _ rfl (hC.other 4 8 _ (by decide) (by decide))
  · rintro t A w2 Q K hsz hts hu hbf haf hC hK ⟨e8, -⟩
    replace e8 : A.tmps[8]?.getD undef = .agg #[.int .i64 0, .int .i64 0, .int .i64 0, .int .i64 0, .int .i64 0, .int .i64 0, .int .i64 0, .int .i64 0] := e8
    simp [go_sem, e8]
    exact hK _ _ trivial (hC.new hu (haf 6 _ rfl (by kernel_rfl)) (haf 8 _ rfl (by kernel_rfl)) (by decide) (by rw [hts]; show 9 < 21; decide) (news := [.int .i64 0, .int .i64 0, .int .i64 0, .int .i64 0, .int .i64 0, .int .i64 0, .int .i64 0, .int .i64 0]) rfl)
  · rintro t A w2 Q K hsz hts hu hbf haf hC hK ⟨e7, -⟩
    replace e7 : A.tmps[7]?.getD undef = .slice aw l.length cw := e7
    obtain ⟨hp, hy⟩ := hC.pre (getD_tf hu).1
    obtain ⟨bb, hy, hbk⟩ := hy (hbf 5 (by kernel_rfl))
    replace hy : A.tmps[9]?.getD undef = .slice (some ⟨bb, 0, none⟩) 1 1 := hy
    replace hbk : Blk w2 bb #[.int .i64 0, .int .i64 0, .int .i64 0, .int .i64 0, .int .i64 0, .int .i64 0, .int .i64 0, .int .i64 0] 74 := hbk
    refine oper_append_at rfl (.tmp 7) (.tmp 9) 22 rfl B 74 inf74 _ 8 64 Tryz.underlying22 I1.out I2.out I3.out I4.out (by rfl) (by omega) (.slice aw l.length cw) l.length (flat 8 Wk.cell l) (by simp [go_sem, e7]) (ho1.keep hp) ⟨bb, 0, none⟩ 1 1 [.int .i64 0, .int .i64 0, .int .i64 0, .int .i64 0, .int .i64 0, .int .i64 0, .int .i64 0, .int .i64 0] (by simp [go_sem, hy]) (by rfl) (fun q u hq => by rw [addmid, Nat.zero_add, hbk.cell]; simpa using hq) (by intro u hu; simp at hu; subst hu; rfl) (by unfold maxLen; omega) (by omega) (by have := hp.size; omega) ?_
    intro z2 w3 hown hgrow hfr
    exact hK z2 w3 trivial (hC.app hu (haf 8 _ rfl (by kernel_rfl)) (by decide) (by rw [hts]; show 10 < 21; decide) hx1 HNE.out (news := [.int .i64 0, .int .i64 0, .int .i64 0, .int .i64 0, .int .i64 0, .int .i64 0, .int .i64 0, .int .i64 0]) rfl hown hgrow hfr)
  · rintro t A w2 Q K hsz hts hu hbf haf hC hK ⟨e4, -⟩
    replace e4 : A.tmps[4]?.getD undef = .pointer (some ⟨bx, f, none⟩) := e4
    simp [go_sem, e4]
    exact hK _ _ rfl (hC.other 7 11 _ (by decide) (by decide))
  · rintro t A w2 Q K hsz hts hu hbf haf hC hK ⟨e11, -⟩
    replace e11 : A.tmps[11]?.getD undef = .pointer (some ⟨bx, f, none⟩) := e11
    have hA := hbf 6 (by kernel_rfl)
    have hq := hC.mid hA (getD_tf hu).1
    obtain ⟨a9, c9, hz9, -⟩ := hq.own.form
    have e10 : A.tmps[10]?.getD undef = .slice a9 (l ++ [(wkL [])]).length c9 := hz9
    have X := (hq.box.cell f).trans HF.out
    have F := hq.box.frozen f
    have hl9 := hC.last (f := f) hu hA (by decide) HNE.out hxl (u := undef) hz9
    clear hq hC hz9
    simp [go_sem, e11, e10, X, F]
    refine hK undef _ trivial ?_
    simpa using hl9
  · intro a' w3 ha' hC'
    refine fun v0 h0 v1 h1 v2 h2 v3 h3 v4 h4 v5 h5 v6 h6 v7 h7 => ?_
    intro he
    subst he
    have hq := hC'.fin (by simp)
    simp [Act.put, ev] at hq
    clear hC' ha' h0 h1 h2 h3 h4 h5 h6 h7
    have hq' : AQ 8 Wk.cell 74 B w (.slice aw l.length cw) l (wkL []) bx TB w3 v6 (cs.setIfInBounds f v6) := by
      refine ⟨(Only.of_below hb1).trans hq.only, hq.box, hq.own, hq.from'.imp id (fun ⟨k, h1, h2⟩ => ⟨k, h1, Nat.le_trans hs1 h2⟩)⟩
    obtain ⟨g, cp, rfl⟩ := row_form (show w3.ownsRow B 74 8 v6 (l.length + 1) _ from by have := hq.own; unfold Owns at this; rw [List.length_append] at this; exact this)
    have hX := (hq'.box.cell f)
    have hfs : f < cs.size := by
      have := HF.out
      rcases Nat.lt_or_ge f cs.size with h | h
      · exact h
      · rw [Array.getElem?_eq_none h] at this; cases this
    have hX2 : w3.cell? ⟨bx, f, none⟩ = some (.slice (some ⟨g, 0, none⟩) (l.length + 1) cp) := by rw [hX]; simp [hfs]
    have HQ := hid hq'
    have hn0 : (0 : Int) ≤ (l.length : Int) := by omega
    have hn1 : (l.length : Int) < (l.length : Int) + 1 := by omega
    clear hq hq' hX
    simp only [Act.put, List.setIfInBounds_toArray, List.set_cons_zero, List.set_cons_succ]
    have hbx3 := HQ.out.box.lt
    go_wp2
    refine wp_region_tw [[(0, none)], [(12, some 0)], [(13, some 1)], [(0, none)], [(15, some 3)], [(16, some 4)], [(17, some 5)], [(18, some 6)], [(14, some 2), (19, some 7)], [(20, some 8)]]
      (fun i v _ => match i with | 0 => v = .pointer (some ⟨bx, f, none⟩) | 1 => v = .pointer (some ⟨bx, f, none⟩) | 2 => v = .slice (some ⟨g, 0, none⟩) (l.length + 1) cp | 3 => v = .pointer (some ⟨bx, f, none⟩) | 4 => v = .pointer (some ⟨bx, f, none⟩) | 5 => v = .slice (some ⟨g, 0, none⟩) (l.length + 1) cp | 6 => v = .int .i64 ((l.length : Int) + 1) | 7 => v = .int .i64 (l.length : Int) | 8 => v = .pointer (some ⟨g, l.length * 8, none⟩) | 9 => v = .pointer (some ⟨g, l.length * 8, none⟩) | _ => True)
      (fun V => Below w3.heap.size w3 V) (fun _ _ => True) 21 rfl (by kernel_rfl) (fun _ _ _ _ _ _ h => h) (fun _ => trivial) (by go_grown) ⟨?_, ?_, ?_, ?_, ?_, ?_, ?_, ?_, ?_, ?_, trivial⟩ ?_
    · rintro A w' Q K hC hK ⟨e0, -⟩
      replace e0 : A.tmps[0]?.getD undef = .pointer (some ⟨bx, f, none⟩) := e0
      simp only [under]
      simp [go_sem, e0]
      exact hK _ _ rfl hC trivial
    · rintro A w' Q K hC hK ⟨e12, -⟩
      replace e12 : A.tmps[12]?.getD undef = .pointer (some ⟨bx, f, none⟩) := e12
      simp only [under]
      simp [go_sem, e12]
      exact hK _ _ rfl hC trivial
    · rintro A w' Q K hC hK ⟨e13, -⟩
      replace e13 : A.tmps[13]?.getD undef = .pointer (some ⟨bx, f, none⟩) := e13
      simp only [under]
      have yb := (hC.cell (p := ⟨bx, f, none⟩) hbx3).trans hX2
      simp [go_sem, e13, yb]
      exact hK _ _ rfl hC trivial
    · rintro A w' Q K hC hK ⟨e0, -⟩
      replace e0 : A.tmps[0]?.getD undef = .pointer (some ⟨bx, f, none⟩) := e0
      simp only [under]
      simp [go_sem, e0]
      exact hK _ _ rfl hC trivial
    · rintro A w' Q K hC hK ⟨e15, -⟩
      replace e15 : A.tmps[15]?.getD undef = .pointer (some ⟨bx, f, none⟩) := e15
      simp only [under]
      simp [go_sem, e15]
      exact hK _ _ rfl hC trivial
    · rintro A w' Q K hC hK ⟨e16, -⟩
      replace e16 : A.tmps[16]?.getD undef = .pointer (some ⟨bx, f, none⟩) := e16
      simp only [under]
      have yb := (hC.cell (p := ⟨bx, f, none⟩) hbx3).trans hX2
      simp [go_sem, e16, yb]
      exact hK _ _ rfl hC trivial
    · rintro A w' Q K hC hK ⟨e17, -⟩
      replace e17 : A.tmps[17]?.getD undef = .slice (some ⟨g, 0, none⟩) (l.length + 1) cp := e17
      simp only [under]
      simp [go_sem, e17]
      exact hK _ _ rfl hC trivial
    · rintro A w' Q K hC hK ⟨e18, -⟩
      replace e18 : A.tmps[18]?.getD undef = .int .i64 ((l.length : Int) + 1) := e18
      simp only [under]
      have hw1 : IntKind.i64.wrap (l.length : Int) = (l.length : Int) := by rw [IntKind.wrap_i64]; omega
      simp [go_sem, e18, hw1]
      exact hK _ _ rfl hC trivial
    · rintro A w' Q K hC hK ⟨e14, e19, -⟩
      replace e14 : A.tmps[14]?.getD undef = .slice (some ⟨g, 0, none⟩) (l.length + 1) cp := e14
      replace e19 : A.tmps[19]?.getD undef = .int .i64 (l.length : Int) := e19
      simp only [under]
      simp [go_sem, e14, e19, hn0, hn1]
      exact hK _ _ rfl hC trivial
    · rintro A w' Q K hC hK ⟨e20, -⟩
      replace e20 : A.tmps[20]?.getD undef = .pointer (some ⟨g, l.length * 8, none⟩) := e20
      simp only [under]
      simp [go_sem, e20]
      exact hK _ _ rfl hC trivial
    · intro W10 hW10
      refine fun v0 h0 v1 h1 v2 h2 v3 h3 v4 h4 v5 h5 v7 h7 v8 h8 v9 h9 v10 h10 => ?_
      obtain rfl := (h10 : v10 = .pointer (some ⟨g, l.length * 8, none⟩))
      clear h0 h1 h2 h3 h4 h5 h7 h8 h9
      simp only [upto, Act.put, List.setIfInBounds_toArray, List.set_cons_zero, List.set_cons_succ]
      go_wp2
      go_ret
      exact ⟨g, cp, rfl, HQ.out.keep hW10⟩

set_option maxRecDepth 100000 in
set_option maxHeartbeats 4000000 in
theorem oneGroup_any (v : Value) (l : List Gp) (B bx f TB : Nat) (cs : Array Value) (w : World) (hB : B ≤ w.heap.size) (ho : Owns 5 Gp.cell 76 B w v l) (hl : l.length ≤ 4000) (hb : Blk w bx cs TB) (hf : cs[f]? = some v) (hne : v.ownBlock ≠ some bx) :
    Calls Tryz.prog 51 #[.pointer (some ⟨bx, f, none⟩)] w fun e w' => ∃ g cp, e = .returned (.pointer (some ⟨g, l.length * 5, none⟩)) ∧ AQ 5 Gp.cell 76 B w v l (gpL []) bx TB w' (.slice (some ⟨g, 0, none⟩) (l.length + 1) cp) (cs.setIfInBounds f (.slice (some ⟨g, 0, none⟩) (l.length + 1) cp)) := by
  obtain ⟨aw, cw, rfl, -⟩ := ho.form
  obtain ⟨inf76, i1, i2, i3, i4⟩ := info76
  have I1 := hid i1
  have I2 := hid i2
  have I3 := hid i3
  have I4 := hid i4
  clear i1 i2 i3 i4
  have HO := hid ho
  have HBX := hid hb
  have hbl := hb.lt
  have HF := hid hf
  have HNE := hid hne
  clear ho hb hf hne
  go_enter Tryz.func51, Tryz.ntmps51
  go_wp2_with fail
  obtain ⟨w1, hw1⟩ : ∃ w1, w.alloc (.cells #[.int .i64 0, .int .i64 0, .int .i64 0, .int .i64 0, .int .i64 0] 76) = w1 := ⟨_, rfl⟩
  have hz : Blk w1 w.heap.size #[.int .i64 0, .int .i64 0, .int .i64 0, .int .i64 0, .int .i64 0] 76 := hw1 ▸ Blk.new _ _ _
  have hb1 : Below w.heap.size w w1 := by rw [← hw1]; go_grown
  have ho1 := HO.out.keep hb1
  have hx1 := HBX.out.below hb1 hbl
  have hs1 := hb1.size
  rw [hw1]
  clear hw1
  have hxl := hx1.lt
  have hzl := hz.lt
  refine wp_region_tc [[(0, none)], [(0, none)], [(5, some 1)], [(6, some 2)], [(3, none)], [(8, some 4)], [(7, some 3), (9, some 5)], [(4, some 0)], [(11, some 7), (10, some 6)]]
    (fun i v => match i with | 0 => v = .pointer (some ⟨bx, f, none⟩) | 1 => v = .pointer (some ⟨bx, f, none⟩) | 2 => v = .pointer (some ⟨bx, f, none⟩) | 3 => v = .slice aw l.length cw | 4 => v = .agg #[.int .i64 0, .int .i64 0, .int .i64 0, .int .i64 0, .int .i64 0] | 7 => v = .pointer (some ⟨bx, f, none⟩) | _ => True)
    (AP 5 Gp.cell 76 B w1 (.slice aw l.length cw) l (gpL []) bx TB cs f 5 6 8 9 10) 21 rfl (by kernel_rfl) (AP.start (by go_grown)) ⟨?_, ?_, ?_, ?_, ?_, ?_, ?_, ?_, ?_, trivial⟩ ?_
  · rintro t A w2 Q K hsz hts hu hbf haf hC hK ⟨e0, -⟩
    replace e0 : A.tmps[0]?.getD undef = .pointer (some ⟨bx, f, none⟩) := e0
    simp [go_sem, e0]
    exact hK _ _ rfl (hC.other 0 4 _ (by decide) (by decide))
  · rintro t A w2 Q K hsz hts hu hbf haf hC hK ⟨e0, -⟩
    replace e0 : A.tmps[0]?.getD undef = .pointer (some ⟨bx, f, none⟩) := e0
    simp [go_sem, e0]
    exact hK _ _ rfl (hC.other 1 5 _ (by decide) (by decide))
  · rintro t A w2 Q K hsz hts hu hbf haf hC hK ⟨e5, -⟩
    replace e5 : A.tmps[5]?.getD undef = .pointer (some ⟨bx, f, none⟩) := e5
    simp [go_sem, e5]
    exact hK _ _ rfl (hC.other 2 6 _ (by decide) (by decide))
  · rintro t A w2 Q K hsz hts hu hbf haf hC hK ⟨e6, -⟩
    replace e6 : A.tmps[6]?.getD undef = .pointer (some ⟨bx, f, none⟩) := e6
    have yb := ((hx1.below (hC.pre (haf 6 _ rfl (by kernel_rfl))).1 hxl).cell f).trans HF.out
    simp [go_sem, e6, yb]
    exact hK _ _ rfl (hC.other 3 7 _ (by decide) (by decide))
  · rintro t A w2 Q K hsz hts hu hbf haf hC hK ⟨e3, -⟩
    replace e3 : A.tmps[3]?.getD undef = .pointer (some ⟨w.heap.size, 0, none⟩) := e3
    have yb := (hz.below (hC.pre (haf 6 _ rfl (by kernel_rfl))).1 hzl).cell
    simp [go_sem, e3, yb]
    exact hK _ _ rfl (hC.other 4 8 _ (by decide) (by decide))
  · rintro t A w2 Q K hsz hts hu hbf haf hC hK ⟨e8, -⟩
    replace e8 : A.tmps[8]?.getD undef = .agg #[.int .i64 0, .int .i64 0, .int .i64 0, .int .i64 0, .int .i64 0] := e8
    simp [go_sem, e8]
    exact hK _ _ trivial (hC.new hu (haf 6 _ rfl (by kernel_rfl)) (haf 8 _ rfl (by kernel_rfl)) (by decide) (by rw [hts]; show 9 < 21; decide) (news := [.int .i64 0, .int .i64 0, .int .i64 0, .int .i64 0, .int .i64 0]) rfl)
  · rintro t A w2 Q K hsz hts hu hbf haf hC hK ⟨e7, -⟩
    replace e7 : A.tmps[7]?.getD undef = .slice aw l.length cw := e7
    obtain ⟨hp, hy⟩ := hC.pre (getD_tf hu).1
    obtain ⟨bb, hy, hbk⟩ := hy (hbf 5 (by kernel_rfl))
    replace hy : A.tmps[9]?.getD undef = .slice (some ⟨bb, 0, none⟩) 1 1 := hy
    replace hbk : Blk w2 bb #[.int .i64 0, .int .i64 0, .int .i64 0, .int .i64 0, .int .i64 0] 76 := hbk
    refine oper_append_at rfl (.tmp 7) (.tmp 9) 23 rfl B 76 inf76 _ 5 40 Tryz.underlying23 I1.out I2.out I3.out I4.out (by rfl) (by omega) (.slice aw l.length cw) l.length (flat 5 Gp.cell l) (by simp [go_sem, e7]) (ho1.keep hp) ⟨bb, 0, none⟩ 1 1 [.int .i64 0, .int .i64 0, .int .i64 0, .int .i64 0, .int .i64 0] (by simp [go_sem, hy]) (by rfl) (fun q u hq => by rw [addmid, Nat.zero_add, hbk.cell]; simpa using hq) (by intro u hu; simp at hu; subst hu; rfl) (by unfold maxLen; omega) (by omega) (by have := hp.size; omega) ?_
    intro z2 w3 hown hgrow hfr
    exact hK z2 w3 trivial (hC.app hu (haf 8 _ rfl (by kernel_rfl)) (by decide) (by rw [hts]; show 10 < 21; decide) hx1 HNE.out (news := [.int .i64 0, .int .i64 0, .int .i64 0, .int .i64 0, .int .i64 0]) rfl hown hgrow hfr)
  · rintro t A w2 Q K hsz hts hu hbf haf hC hK ⟨e4, -⟩
    replace e4 : A.tmps[4]?.getD undef = .pointer (some ⟨bx, f, none⟩) := e4
    simp [go_sem, e4]
    exact hK _ _ rfl (hC.other 7 11 _ (by decide) (by decide))
  · rintro t A w2 Q K hsz hts hu hbf haf hC hK ⟨e11, -⟩
    replace e11 : A.tmps[11]?.getD undef = .pointer (some ⟨bx, f, none⟩) := e11
    have hA := hbf 6 (by kernel_rfl)
    have hq := hC.mid hA (getD_tf hu).1
    obtain ⟨a9, c9, hz9, -⟩ := hq.own.form
    have e10 : A.tmps[10]?.getD undef = .slice a9 (l ++ [(gpL [])]).length c9 := hz9
    have X := (hq.box.cell f).trans HF.out
    have F := hq.box.frozen f
    have hl9 := hC.last (f := f) hu hA (by decide) HNE.out hxl (u := undef) hz9
    clear hq hC hz9
    simp [go_sem, e11, e10, X, F]
    refine hK undef _ trivial ?_
    simpa using hl9
  · intro a' w3 ha' hC'
    refine fun v0 h0 v1 h1 v2 h2 v3 h3 v4 h4 v5 h5 v6 h6 v7 h7 => ?_
    intro he
    subst he
    have hq := hC'.fin (by simp)
    simp [Act.put, ev] at hq
    clear hC' ha' h0 h1 h2 h3 h4 h5 h6 h7
    have hq' : AQ 5 Gp.cell 76 B w (.slice aw l.length cw) l (gpL []) bx TB w3 v6 (cs.setIfInBounds f v6) := by
      refine ⟨(Only.of_below hb1).trans hq.only, hq.box, hq.own, hq.from'.imp id (fun ⟨k, h1, h2⟩ => ⟨k, h1, Nat.le_trans hs1 h2⟩)⟩
    obtain ⟨g, cp, rfl⟩ := row_form (show w3.ownsRow B 76 5 v6 (l.length + 1) _ from by have := hq.own; unfold Owns at this; rw [List.length_append] at this; exact this)
    have hX := (hq'.box.cell f)
    have hfs : f < cs.size := by
      have := HF.out
      rcases Nat.lt_or_ge f cs.size with h | h
      · exact h
      · rw [Array.getElem?_eq_none h] at this; cases this
    have hX2 : w3.cell? ⟨bx, f, none⟩ = some (.slice (some ⟨g, 0, none⟩) (l.length + 1) cp) := by rw [hX]; simp [hfs]
    have HQ := hid hq'
    have hn0 : (0 : Int) ≤ (l.length : Int) := by omega
    have hn1 : (l.length : Int) < (l.length : Int) + 1 := by omega
    clear hq hq' hX
    simp only [Act.put, List.setIfInBounds_toArray, List.set_cons_zero, List.set_cons_succ]
    have hbx3 := HQ.out.box.lt
    go_wp2
    refine wp_region_tw [[(0, none)], [(12, some 0)], [(13, some 1)], [(0, none)], [(15, some 3)], [(16, some 4)], [(17, some 5)], [(18, some 6)], [(14, some 2), (19, some 7)], [(20, some 8)]]
      (fun i v _ => match i with | 0 => v = .pointer (some ⟨bx, f, none⟩) | 1 => v = .pointer (some ⟨bx, f, none⟩) | 2 => v = .slice (some ⟨g, 0, none⟩) (l.length + 1) cp | 3 => v = .pointer (some ⟨bx, f, none⟩) | 4 => v = .pointer (some ⟨bx, f, none⟩) | 5 => v = .slice (some ⟨g, 0, none⟩) (l.length + 1) cp | 6 => v = .int .i64 ((l.length : Int) + 1) | 7 => v = .int .i64 (l.length : Int) | 8 => v = .pointer (some ⟨g, l.length * 5, none⟩) | 9 => v = .pointer (some ⟨g, l.length * 5, none⟩) | _ => True)
      (fun V => Below w3.heap.size w3 V) (fun _ _ => True) 21 rfl (by kernel_rfl) (fun _ _ _ _ _ _ h => h) (fun _ => trivial) (by go_grown) ⟨?_, ?_, ?_, ?_, ?_, ?_, ?_, ?_, ?_, ?_, trivial⟩ ?_
    · rintro A w' Q K hC hK ⟨e0, -⟩
      replace e0 : A.tmps[0]?.getD undef = .pointer (some ⟨bx, f, none⟩) := e0
      simp only [under]
      simp [go_sem, e0]
      exact hK _ _ rfl hC trivial
    · rintro A w' Q K hC hK ⟨e12, -⟩
      replace e12 : A.tmps[12]?.getD undef = .pointer (some ⟨bx, f, none⟩) := e12
      simp only [under]
      simp [go_sem, e12]
      exact hK _ _ rfl hC trivial
    · rintro A w' Q K hC hK ⟨e13, -⟩
      replace e13 : A.tmps[13]?.getD undef = .pointer (some ⟨bx, f, none⟩) := e13
      simp only [under]
      have yb := (hC.cell (p := ⟨bx, f, none⟩) hbx3).trans hX2
      simp [go_sem, e13, yb]
      exact hK _ _ rfl hC trivial
    · rintro A w' Q K hC hK ⟨e0, -⟩
      replace e0 : A.tmps[0]?.getD undef = .pointer (some ⟨bx, f, none⟩) := e0
      simp only [under]
      simp [go_sem, e0]
      exact hK _ _ rfl hC trivial
    · rintro A w' Q K hC hK ⟨e15, -⟩
      replace e15 : A.tmps[15]?.getD undef = .pointer (some ⟨bx, f, none⟩) := e15
      simp only [under]
      simp [go_sem, e15]
      exact hK _ _ rfl hC trivial
    · rintro A w' Q K hC hK ⟨e16, -⟩
      replace e16 : A.tmps[16]?.getD undef = .pointer (some ⟨bx, f, none⟩) := e16
      simp only [under]
      have yb := (hC.cell (p := ⟨bx, f, none⟩) hbx3).trans hX2
      simp [go_sem, e16, yb]
      exact hK _ _ rfl hC trivial
    · rintro A w' Q K hC hK ⟨e17, -⟩
      replace e17 : A.tmps[17]?.getD undef = .slice (some ⟨g, 0, none⟩) (l.length + 1) cp := e17
      simp only [under]
      simp [go_sem, e17]
      exact hK _ _ rfl hC trivial
    · rintro A w' Q K hC hK ⟨e18, -⟩
      replace e18 : A.tmps[18]?.getD undef = .int .i64 ((l.length : Int) + 1) := e18
      simp only [under]
      have hw1 : IntKind.i64.wrap (l.length : Int) = (l.length : Int) := by rw [IntKind.wrap_i64]; omega
      simp [go_sem, e18, hw1]
      exact hK _ _ rfl hC trivial
    · rintro A w' Q K hC hK ⟨e14, e19, -⟩
      replace e14 : A.tmps[14]?.getD undef = .slice (some ⟨g, 0, none⟩) (l.length + 1) cp := e14
      replace e19 : A.tmps[19]?.getD undef = .int .i64 (l.length : Int) := e19
      simp only [under]
      simp [go_sem, e14, e19, hn0, hn1]
      exact hK _ _ rfl hC trivial
    · rintro A w' Q K hC hK ⟨e20, -⟩
      replace e20 : A.tmps[20]?.getD undef = .pointer (some ⟨g, l.length * 5, none⟩) := e20
      simp only [under]
      simp [go_sem, e20]
      exact hK _ _ rfl hC trivial
    · intro W10 hW10
      refine fun v0 h0 v1 h1 v2 h2 v3 h3 v4 h4 v5 h5 v7 h7 v8 h8 v9 h9 v10 h10 => ?_
      obtain rfl := (h10 : v10 = .pointer (some ⟨g, l.length * 5, none⟩))
      clear h0 h1 h2 h3 h4 h5 h7 h8 h9
      simp only [upto, Act.put, List.setIfInBounds_toArray, List.set_cons_zero, List.set_cons_succ]
      go_wp2
      go_ret
      exact ⟨g, cp, rfl, HQ.out.keep hW10⟩

theorem PtrR.bel {w w' : World} {b r : Nat} {os : List Nat} (h : PtrR w b r os) (hb : Below w.heap.size w w') : PtrR w' b r os :=
  ⟨Nat.lt_of_lt_of_le h.1 hb.size, fun i hi => by rw [below_cell hb h.1]; exact h.2 i hi⟩

set_option maxRecDepth 100000 in
set_option maxHeartbeats 2000000 in
theorem fieldsWork_any (r o : Nat) (w : World) :
    Calls Tryz.prog 159 #[.pointer (some ⟨r, o, none⟩)] w fun e w2 => ∃ b c, e = .returned (.slice (some ⟨b, 0, none⟩) [o, o + 1, o + 2, o + 3, o + 4, o + 5, o + 6, o + 7].length c) ∧ w.heap.size ≤ b ∧ PtrR w2 b r [o, o + 1, o + 2, o + 3, o + 4, o + 5, o + 6, o + 7] ∧ Below w.heap.size w w2 := by
  go_enter Tryz.func159, Tryz.ntmps159
  go_wp2_with fail
  refine wp_region_tw [[(0, none)], [(3, some 0)], [(4, some 1)], [(5, some 2)], [(0, none)], [(7, some 4)], [(8, some 5)], [(9, some 6)], [(0, none)], [(11, some 8)], [(12, some 9)], [(0, none)], [(14, some 11)], [(15, some 12)], [(0, none)], [(17, some 14)], [(18, some 15)], [(0, none)], [(20, some 17)], [(21, some 18)], [(0, none)], [(23, some 20)], [(24, some 21)], [(0, none)], [(26, some 23)], [(27, some 24)], [(6, some 3), (10, some 7), (13, some 10), (16, some 13), (19, some 16), (22, some 19), (25, some 22), (28, some 25)], [(29, some 26)]]
    (fun i v w1 => match i with | 0 => v = .pointer (some ⟨r, o, none⟩) | 1 => v = .pointer (some ⟨r, o, none⟩) | 2 => v = .pointer (some ⟨r, o, none⟩) | 3 => v = .pointer (some ⟨r, o, none⟩) | 4 => v = .pointer (some ⟨r, o, none⟩) | 5 => v = .pointer (some ⟨r, o, none⟩) | 6 => v = .pointer (some ⟨r, o, none⟩) | 7 => v = .pointer (some ⟨r, o + 1, none⟩) | 8 => v = .pointer (some ⟨r, o, none⟩) | 9 => v = .pointer (some ⟨r, o, none⟩) | 10 => v = .pointer (some ⟨r, o + 2, none⟩) | 11 => v = .pointer (some ⟨r, o, none⟩) | 12 => v = .pointer (some ⟨r, o, none⟩) | 13 => v = .pointer (some ⟨r, o + 3, none⟩) | 14 => v = .pointer (some ⟨r, o, none⟩) | 15 => v = .pointer (some ⟨r, o, none⟩) | 16 => v = .pointer (some ⟨r, o + 4, none⟩) | 17 => v = .pointer (some ⟨r, o, none⟩) | 18 => v = .pointer (some ⟨r, o, none⟩) | 19 => v = .pointer (some ⟨r, o + 5, none⟩) | 20 => v = .pointer (some ⟨r, o, none⟩) | 21 => v = .pointer (some ⟨r, o, none⟩) | 22 => v = .pointer (some ⟨r, o + 6, none⟩) | 23 => v = .pointer (some ⟨r, o, none⟩) | 24 => v = .pointer (some ⟨r, o, none⟩) | 25 => v = .pointer (some ⟨r, o + 7, none⟩) | 26 => ∃ b, v = .slice (some ⟨b, 0, none⟩) 8 8 ∧ w.heap.size ≤ b ∧ PtrR w1 b r [o, o + 1, o + 2, o + 3, o + 4, o + 5, o + 6, o + 7] | 27 => ∃ b, v = .slice (some ⟨b, 0, none⟩) 8 8 ∧ w.heap.size ≤ b ∧ PtrR w1 b r [o, o + 1, o + 2, o + 3, o + 4, o + 5, o + 6, o + 7] | _ => True)
    (fun V => Below w.heap.size w V) (fun w1 w2 => Below w1.heap.size w1 w2) 30 rfl (by kernel_rfl)
    (fun i v w1 w2 _ hR hT => by
      match i, hT with
      | 0, hT => exact hT
      | 1, hT => exact hT
      | 2, hT => exact hT
      | 3, hT => exact hT
      | 4, hT => exact hT
      | 5, hT => exact hT
      | 6, hT => exact hT
      | 7, hT => exact hT
      | 8, hT => exact hT
      | 9, hT => exact hT
      | 10, hT => exact hT
      | 11, hT => exact hT
      | 12, hT => exact hT
      | 13, hT => exact hT
      | 14, hT => exact hT
      | 15, hT => exact hT
      | 16, hT => exact hT
      | 17, hT => exact hT
      | 18, hT => exact hT
      | 19, hT => exact hT
      | 20, hT => exact hT
      | 21, hT => exact hT
      | 22, hT => exact hT
      | 23, hT => exact hT
      | 24, hT => exact hT
      | 25, hT => exact hT
      | 26, hT => obtain ⟨b, h1, h2, h3⟩ := hT; exact ⟨b, h1, h2, h3.bel hR⟩
      | 27, hT => obtain ⟨b, h1, h2, h3⟩ := hT; exact ⟨b, h1, h2, h3.bel hR⟩
      | (n + 28), hT => exact hT)
    (fun _ => Below.refl _ _) (by go_grown) ⟨?_, ?_, ?_, ?_, ?_, ?_, ?_, ?_, ?_, ?_, ?_, ?_, ?_, ?_, ?_, ?_, ?_, ?_, ?_, ?_, ?_, ?_, ?_, ?_, ?_, ?_, ?_, ?_, trivial⟩ ?_
  · rintro A w1 Q K hC hK ⟨e0, -⟩
    replace e0 : A.tmps[0]?.getD undef = .pointer (some ⟨r, o, none⟩) := e0
    simp only [under]
    simp [go_sem, e0]
    exact hK _ _ rfl hC (Below.refl _ _)
  · rintro A w1 Q K hC hK ⟨e3, -⟩
    replace e3 : A.tmps[3]?.getD undef = .pointer (some ⟨r, o, none⟩) := e3
    simp only [under]
    simp [go_sem, e3]
    exact hK _ _ rfl hC (Below.refl _ _)
  · rintro A w1 Q K hC hK ⟨e4, -⟩
    replace e4 : A.tmps[4]?.getD undef = .pointer (some ⟨r, o, none⟩) := e4
    simp only [under]
    simp [go_sem, e4]
    exact hK _ _ rfl hC (Below.refl _ _)
  · rintro A w1 Q K hC hK ⟨e5, -⟩
    replace e5 : A.tmps[5]?.getD undef = .pointer (some ⟨r, o, none⟩) := e5
    simp only [under]
    simp [go_sem, e5]
    exact hK _ _ rfl hC (Below.refl _ _)
  · rintro A w1 Q K hC hK ⟨e0, -⟩
    replace e0 : A.tmps[0]?.getD undef = .pointer (some ⟨r, o, none⟩) := e0
    simp only [under]
    simp [go_sem, e0]
    exact hK _ _ rfl hC (Below.refl _ _)
  · rintro A w1 Q K hC hK ⟨e7, -⟩
    replace e7 : A.tmps[7]?.getD undef = .pointer (some ⟨r, o, none⟩) := e7
    simp only [under]
    simp [go_sem, e7]
    exact hK _ _ rfl hC (Below.refl _ _)
  · rintro A w1 Q K hC hK ⟨e8, -⟩
    replace e8 : A.tmps[8]?.getD undef = .pointer (some ⟨r, o, none⟩) := e8
    simp only [under]
    simp [go_sem, e8]
    exact hK _ _ rfl hC (Below.refl _ _)
  · rintro A w1 Q K hC hK ⟨e9, -⟩
    replace e9 : A.tmps[9]?.getD undef = .pointer (some ⟨r, o, none⟩) := e9
    simp only [under]
    simp [go_sem, e9]
    exact hK _ _ rfl hC (Below.refl _ _)
  · rintro A w1 Q K hC hK ⟨e0, -⟩
    replace e0 : A.tmps[0]?.getD undef = .pointer (some ⟨r, o, none⟩) := e0
    simp only [under]
    simp [go_sem, e0]
    exact hK _ _ rfl hC (Below.refl _ _)
  · rintro A w1 Q K hC hK ⟨e11, -⟩
    replace e11 : A.tmps[11]?.getD undef = .pointer (some ⟨r, o, none⟩) := e11
    simp only [under]
    simp [go_sem, e11]
    exact hK _ _ rfl hC (Below.refl _ _)
  · rintro A w1 Q K hC hK ⟨e12, -⟩
    replace e12 : A.tmps[12]?.getD undef = .pointer (some ⟨r, o, none⟩) := e12
    simp only [under]
    simp [go_sem, e12]
    exact hK _ _ rfl hC (Below.refl _ _)
  · rintro A w1 Q K hC hK ⟨e0, -⟩
    replace e0 : A.tmps[0]?.getD undef = .pointer (some ⟨r, o, none⟩) := e0
    simp only [under]
    simp [go_sem, e0]
    exact hK _ _ rfl hC (Below.refl _ _)
  · rintro A w1 Q K hC hK ⟨e14, -⟩
    replace e14 : A.tmps[14]?.getD undef = .pointer (some ⟨r, o, none⟩) := e14
    simp only [under]
    simp [go_sem, e14]
    exact hK _ _ rfl hC (Below.refl _ _)
  · rintro A w1 Q K hC hK ⟨e15, -⟩
    replace e15 : A.tmps[15]?.getD undef = .pointer (some ⟨r, o, none⟩) := e15
    simp only [under]
    simp [go_sem, e15]
    exact hK _ _ rfl hC (Below.refl _ _)
  · rintro A w1 Q K hC hK ⟨e0, -⟩
    replace e0 : A.tmps[0]?.getD undef = .pointer (some ⟨r, o, none⟩) := e0
    simp only [under]
    simp [go_sem, e0]
    exact hK _ _ rfl hC (Below.refl _ _)
  · rintro A w1 Q K hC hK ⟨e17, -⟩
    replace e17 : A.tmps[17]?.getD undef = .pointer (some ⟨r, o, none⟩) := e17
    simp only [under]
    simp [go_sem, e17]
    exact hK _ _ rfl hC (Below.refl _ _)
  · rintro A w1 Q K hC hK ⟨e18, -⟩
    replace e18 : A.tmps[18]?.getD undef = .pointer (some ⟨r, o, none⟩) := e18
    simp only [under]
    simp [go_sem, e18]
    exact hK _ _ rfl hC (Below.refl _ _)
  · rintro A w1 Q K hC hK ⟨e0, -⟩
    replace e0 : A.tmps[0]?.getD undef = .pointer (some ⟨r, o, none⟩) := e0
    simp only [under]
    simp [go_sem, e0]
    exact hK _ _ rfl hC (Below.refl _ _)
  · rintro A w1 Q K hC hK ⟨e20, -⟩
    replace e20 : A.tmps[20]?.getD undef = .pointer (some ⟨r, o, none⟩) := e20
    simp only [under]
    simp [go_sem, e20]
    exact hK _ _ rfl hC (Below.refl _ _)
  · rintro A w1 Q K hC hK ⟨e21, -⟩
    replace e21 : A.tmps[21]?.getD undef = .pointer (some ⟨r, o, none⟩) := e21
    simp only [under]
    simp [go_sem, e21]
    exact hK _ _ rfl hC (Below.refl _ _)
  · rintro A w1 Q K hC hK ⟨e0, -⟩
    replace e0 : A.tmps[0]?.getD undef = .pointer (some ⟨r, o, none⟩) := e0
    simp only [under]
    simp [go_sem, e0]
    exact hK _ _ rfl hC (Below.refl _ _)
  · rintro A w1 Q K hC hK ⟨e23, -⟩
    replace e23 : A.tmps[23]?.getD undef = .pointer (some ⟨r, o, none⟩) := e23
    simp only [under]
    simp [go_sem, e23]
    exact hK _ _ rfl hC (Below.refl _ _)
  · rintro A w1 Q K hC hK ⟨e24, -⟩
    replace e24 : A.tmps[24]?.getD undef = .pointer (some ⟨r, o, none⟩) := e24
    simp only [under]
    simp [go_sem, e24]
    exact hK _ _ rfl hC (Below.refl _ _)
  · rintro A w1 Q K hC hK ⟨e0, -⟩
    replace e0 : A.tmps[0]?.getD undef = .pointer (some ⟨r, o, none⟩) := e0
    simp only [under]
    simp [go_sem, e0]
    exact hK _ _ rfl hC (Below.refl _ _)
  · rintro A w1 Q K hC hK ⟨e26, -⟩
    replace e26 : A.tmps[26]?.getD undef = .pointer (some ⟨r, o, none⟩) := e26
    simp only [under]
    simp [go_sem, e26]
    exact hK _ _ rfl hC (Below.refl _ _)
  · rintro A w1 Q K hC hK ⟨e27, -⟩
    replace e27 : A.tmps[27]?.getD undef = .pointer (some ⟨r, o, none⟩) := e27
    simp only [under]
    simp [go_sem, e27]
    exact hK _ _ rfl hC (Below.refl _ _)
  · rintro A w1 Q K hC hK ⟨e6, e10, e13, e16, e19, e22, e25, e28, -⟩
    replace e6 : A.tmps[6]?.getD undef = .pointer (some ⟨r, o, none⟩) := e6
    replace e10 : A.tmps[10]?.getD undef = .pointer (some ⟨r, o + 1, none⟩) := e10
    replace e13 : A.tmps[13]?.getD undef = .pointer (some ⟨r, o + 2, none⟩) := e13
    replace e16 : A.tmps[16]?.getD undef = .pointer (some ⟨r, o + 3, none⟩) := e16
    replace e19 : A.tmps[19]?.getD undef = .pointer (some ⟨r, o + 4, none⟩) := e19
    replace e22 : A.tmps[22]?.getD undef = .pointer (some ⟨r, o + 5, none⟩) := e22
    replace e25 : A.tmps[25]?.getD undef = .pointer (some ⟨r, o + 6, none⟩) := e25
    replace e28 : A.tmps[28]?.getD undef = .pointer (some ⟨r, o + 7, none⟩) := e28
    simp only [under]
    simp [go_sem, e6, e10, e13, e16, e19, e22, e25, e28]
    have hg : Below w1.heap.size w1 (w1.alloc (.cells #[.pointer (some ⟨r, o, none⟩), .pointer (some ⟨r, o + 1, none⟩), .pointer (some ⟨r, o + 2, none⟩), .pointer (some ⟨r, o + 3, none⟩), .pointer (some ⟨r, o + 4, none⟩), .pointer (some ⟨r, o + 5, none⟩), .pointer (some ⟨r, o + 6, none⟩), .pointer (some ⟨r, o + 7, none⟩)] 140)) := by go_grown
    refine hK _ _ ⟨w1.heap.size, rfl, hC.size, by simp, fun i hi => ?_⟩ (hC.trans (hg.mono hC.size)) hg
    match i, hi with
    | 0, _ => simp [go_sem]
    | 1, _ => simp [go_sem]
    | 2, _ => simp [go_sem]
    | 3, _ => simp [go_sem]
    | 4, _ => simp [go_sem]
    | 5, _ => simp [go_sem]
    | 6, _ => simp [go_sem]
    | 7, _ => simp [go_sem]
  · rintro A w1 Q K hC hK ⟨e29, -⟩
    replace e29 : ∃ b, A.tmps[29]?.getD undef = .slice (some ⟨b, 0, none⟩) 8 8 ∧ w.heap.size ≤ b ∧ PtrR w1 b r [o, o + 1, o + 2, o + 3, o + 4, o + 5, o + 6, o + 7] := e29
    obtain ⟨b, e29, h2, h3⟩ := e29
    simp only [under]
    simp [go_sem, e29]
    exact hK _ _ ⟨b, rfl, h2, h3⟩ hC (Below.refl _ _)
  · intro W10 hW10
    refine fun v0 h0 v1 h1 v2 h2 v3 h3 v4 h4 v5 h5 v6 h6 v7 h7 v8 h8 v9 h9 v10 h10 v11 h11 v12 h12 v13 h13 v14 h14 v15 h15 v16 h16 v17 h17 v18 h18 v19 h19 v20 h20 v21 h21 v22 h22 v23 h23 v24 h24 v25 h25 v26 h26 v27 h27 => ?_
    obtain ⟨b, rfl, hq2, hq3⟩ := h27
    clear h0 h1 h2 h3 h4 h5 h6 h7 h8 h9 h10 h11 h12 h13 h14 h15 h16 h17 h18 h19 h20 h21 h22 h23 h24 h25 h26
    simp only [upto, Act.put, List.setIfInBounds_toArray, List.set_cons_zero, List.set_cons_succ]
    go_wp2
    go_ret
    exact ⟨b, _, rfl, hq2, hq3, hW10⟩

set_option maxRecDepth 100000 in
set_option maxHeartbeats 2000000 in
theorem fieldsGroup_any (r o : Nat) (w : World) :
    Calls Tryz.prog 161 #[.pointer (some ⟨r, o, none⟩)] w fun e w2 => ∃ b c, e = .returned (.slice (some ⟨b, 0, none⟩) [o, o + 1, o + 2, o + 3, o + 4].length c) ∧ w.heap.size ≤ b ∧ PtrR w2 b r [o, o + 1, o + 2, o + 3, o + 4] ∧ Below w.heap.size w w2 := by
  go_enter Tryz.func161, Tryz.ntmps161
  go_wp2_with fail
  refine wp_region_tw [[(0, none)], [(3, some 0)], [(4, some 1)], [(5, some 2)], [(0, none)], [(7, some 4)], [(8, some 5)], [(9, some 6)], [(0, none)], [(11, some 8)], [(12, some 9)], [(0, none)], [(14, some 11)], [(15, some 12)], [(0, none)], [(17, some 14)], [(18, some 15)], [(6, some 3), (10, some 7), (13, some 10), (16, some 13), (19, some 16)], [(20, some 17)]]
    (fun i v w1 => match i with | 0 => v = .pointer (some ⟨r, o, none⟩) | 1 => v = .pointer (some ⟨r, o, none⟩) | 2 => v = .pointer (some ⟨r, o, none⟩) | 3 => v = .pointer (some ⟨r, o, none⟩) | 4 => v = .pointer (some ⟨r, o, none⟩) | 5 => v = .pointer (some ⟨r, o, none⟩) | 6 => v = .pointer (some ⟨r, o, none⟩) | 7 => v = .pointer (some ⟨r, o + 1, none⟩) | 8 => v = .pointer (some ⟨r, o, none⟩) | 9 => v = .pointer (some ⟨r, o, none⟩) | 10 => v = .pointer (some ⟨r, o + 2, none⟩) | 11 => v = .pointer (some ⟨r, o, none⟩) | 12 => v = .pointer (some ⟨r, o, none⟩) | 13 => v = .pointer (some ⟨r, o + 3, none⟩) | 14 => v = .pointer (some ⟨r, o, none⟩) | 15 => v = .pointer (some ⟨r, o, none⟩) | 16 => v = .pointer (some ⟨r, o + 4, none⟩) | 17 => ∃ b, v = .slice (some ⟨b, 0, none⟩) 5 5 ∧ w.heap.size ≤ b ∧ PtrR w1 b r [o, o + 1, o + 2, o + 3, o + 4] | 18 => ∃ b, v = .slice (some ⟨b, 0, none⟩) 5 5 ∧ w.heap.size ≤ b ∧ PtrR w1 b r [o, o + 1, o + 2, o + 3, o + 4] | _ => True)
    (fun V => Below w.heap.size w V) (fun w1 w2 => Below w1.heap.size w1 w2) 21 rfl (by kernel_rfl)
    (fun i v w1 w2 _ hR hT => by
      match i, hT with
      | 0, hT => exact hT
      | 1, hT => exact hT
      | 2, hT => exact hT
      | 3, hT => exact hT
      | 4, hT => exact hT
      | 5, hT => exact hT
      | 6, hT => exact hT
      | 7, hT => exact hT
      | 8, hT => exact hT
      | 9, hT => exact hT
      | 10, hT => exact hT
      | 11, hT => exact hT
      | 12, hT => exact hT
      | 13, hT => exact hT
      | 14, hT => exact hT
      | 15, hT => exact hT
      | 16, hT => exact hT
      | 17, hT => obtain ⟨b, h1, h2, h3⟩ := hT; exact ⟨b, h1, h2, h3.bel hR⟩
      | 18, hT => obtain ⟨b, h1, h2, h3⟩ := hT; exact ⟨b, h1, h2, h3.bel hR⟩
      | (n + 19), hT => exact hT)
    (fun _ => Below.refl _ _) (by go_grown) ⟨?_, ?_, ?_, ?_, ?_, ?_, ?_, ?_, ?_, ?_, ?_, ?_, ?_, ?_, ?_, ?_, ?_, ?_, ?_, trivial⟩ ?_
  · rintro A w1 Q K hC hK ⟨e0, -⟩
    replace e0 : A.tmps[0]?.getD undef = .pointer (some ⟨r, o, none⟩) := e0
    simp only [under]
    simp [go_sem, e0]
    exact hK _ _ rfl hC (Below.refl _ _)
  · rintro A w1 Q K hC hK ⟨e3, -⟩
    replace e3 : A.tmps[3]?.getD undef = .pointer (some ⟨r, o, none⟩) := e3
    simp only [under]
    simp [go_sem, e3]
    exact hK _ _ rfl hC (Below.refl _ _)
  · rintro A w1 Q K hC hK ⟨e4, -⟩
    replace e4 : A.tmps[4]?.getD undef = .pointer (some ⟨r, o, none⟩) := e4
    simp only [under]
    simp [go_sem, e4]
    exact hK _ _ rfl hC (Below.refl _ _)
  · rintro A w1 Q K hC hK ⟨e5, -⟩
    replace e5 : A.tmps[5]?.getD undef = .pointer (some ⟨r, o, none⟩) := e5
    simp only [under]
    simp [go_sem, e5]
    exact hK _ _ rfl hC (Below.refl _ _)
  · rintro A w1 Q K hC hK ⟨e0, -⟩
    replace e0 : A.tmps[0]?.getD undef = .pointer (some ⟨r, o, none⟩) := e0
    simp only [under]
    simp [go_sem, e0]
    exact hK _ _ rfl hC (Below.refl _ _)
  · rintro A w1 Q K hC hK ⟨e7, -⟩
    replace e7 : A.tmps[7]?.getD undef = .pointer (some ⟨r, o, none⟩) := e7
    simp only [under]
    simp [go_sem, e7]
    exact hK _ _ rfl hC (Below.refl _ _)
  · rintro A w1 Q K hC hK ⟨e8, -⟩
    replace e8 : A.tmps[8]?.getD undef = .pointer (some ⟨r, o, none⟩) := e8
    simp only [under]
    simp [go_sem, e8]
    exact hK _ _ rfl hC (Below.refl _ _)
  · rintro A w1 Q K hC hK ⟨e9, -⟩
    replace e9 : A.tmps[9]?.getD undef = .pointer (some ⟨r, o, none⟩) := e9
    simp only [under]
    simp [go_sem, e9]
    exact hK _ _ rfl hC (Below.refl _ _)
  · rintro A w1 Q K hC hK ⟨e0, -⟩
    replace e0 : A.tmps[0]?.getD undef = .pointer (some ⟨r, o, none⟩) := e0
    simp only [under]
    simp [go_sem, e0]
    exact hK _ _ rfl hC (Below.refl _ _)
  · rintro A w1 Q K hC hK ⟨e11, -⟩
    replace e11 : A.tmps[11]?.getD undef = .pointer (some ⟨r, o, none⟩) := e11
    simp only [under]
    simp [go_sem, e11]
    exact hK _ _ rfl hC (Below.refl _ _)
  · rintro A w1 Q K hC hK ⟨e12, -⟩
    replace e12 : A.tmps[12]?.getD undef = .pointer (some ⟨r, o, none⟩) := e12
    simp only [under]
    simp [go_sem, e12]
    exact hK _ _ rfl hC (Below.refl _ _)
  · rintro A w1 Q K hC hK ⟨e0, -⟩
    replace e0 : A.tmps[0]?.getD undef = .pointer (some ⟨r, o, none⟩) := e0
    simp only [under]
    simp [go_sem, e0]
    exact hK _ _ rfl hC (Below.refl _ _)
  · rintro A w1 Q K hC hK ⟨e14, -⟩
    replace e14 : A.tmps[14]?.getD undef = .pointer (some ⟨r, o, none⟩) := e14
    simp only [under]
    simp [go_sem, e14]
    exact hK _ _ rfl hC (Below.refl _ _)
  · rintro A w1 Q K hC hK ⟨e15, -⟩
    replace e15 : A.tmps[15]?.getD undef = .pointer (some ⟨r, o, none⟩) := e15
    simp only [under]
    simp [go_sem, e15]
    exact hK _ _ rfl hC (Below.refl _ _)
  · rintro A w1 Q K hC hK ⟨e0, -⟩
    replace e0 : A.tmps[0]?.getD undef = .pointer (some ⟨r, o, none⟩) := e0
    simp only [under]
    simp [go_sem, e0]
    exact hK _ _ rfl hC (Below.refl _ _)
  · rintro A w1 Q K hC hK ⟨e17, -⟩
    replace e17 : A.tmps[17]?.getD undef = .pointer (some ⟨r, o, none⟩) := e17
    simp only [under]
    simp [go_sem, e17]
    exact hK _ _ rfl hC (Below.refl _ _)
  · rintro A w1 Q K hC hK ⟨e18, -⟩
    replace e18 : A.tmps[18]?.getD undef = .pointer (some ⟨r, o, none⟩) := e18
    simp only [under]
    simp [go_sem, e18]
    exact hK _ _ rfl hC (Below.refl _ _)
  · rintro A w1 Q K hC hK ⟨e6, e10, e13, e16, e19, -⟩
    replace e6 : A.tmps[6]?.getD undef = .pointer (some ⟨r, o, none⟩) := e6
    replace e10 : A.tmps[10]?.getD undef = .pointer (some ⟨r, o + 1, none⟩) := e10
    replace e13 : A.tmps[13]?.getD undef = .pointer (some ⟨r, o + 2, none⟩) := e13
    replace e16 : A.tmps[16]?.getD undef = .pointer (some ⟨r, o + 3, none⟩) := e16
    replace e19 : A.tmps[19]?.getD undef = .pointer (some ⟨r, o + 4, none⟩) := e19
    simp only [under]
    simp [go_sem, e6, e10, e13, e16, e19]
    have hg : Below w1.heap.size w1 (w1.alloc (.cells #[.pointer (some ⟨r, o, none⟩), .pointer (some ⟨r, o + 1, none⟩), .pointer (some ⟨r, o + 2, none⟩), .pointer (some ⟨r, o + 3, none⟩), .pointer (some ⟨r, o + 4, none⟩)] 140)) := by go_grown
    refine hK _ _ ⟨w1.heap.size, rfl, hC.size, by simp, fun i hi => ?_⟩ (hC.trans (hg.mono hC.size)) hg
    match i, hi with
    | 0, _ => simp [go_sem]
    | 1, _ => simp [go_sem]
    | 2, _ => simp [go_sem]
    | 3, _ => simp [go_sem]
    | 4, _ => simp [go_sem]
  · rintro A w1 Q K hC hK ⟨e20, -⟩
    replace e20 : ∃ b, A.tmps[20]?.getD undef = .slice (some ⟨b, 0, none⟩) 5 5 ∧ w.heap.size ≤ b ∧ PtrR w1 b r [o, o + 1, o + 2, o + 3, o + 4] := e20
    obtain ⟨b, e20, h2, h3⟩ := e20
    simp only [under]
    simp [go_sem, e20]
    exact hK _ _ ⟨b, rfl, h2, h3⟩ hC (Below.refl _ _)
  · intro W10 hW10
    refine fun v0 h0 v1 h1 v2 h2 v3 h3 v4 h4 v5 h5 v6 h6 v7 h7 v8 h8 v9 h9 v10 h10 v11 h11 v12 h12 v13 h13 v14 h14 v15 h15 v16 h16 v17 h17 v18 h18 => ?_
    obtain ⟨b, rfl, hq2, hq3⟩ := h18
    clear h0 h1 h2 h3 h4 h5 h6 h7 h8 h9 h10 h11 h12 h13 h14 h15 h16 h17
    simp only [upto, Act.put, List.setIfInBounds_toArray, List.set_cons_zero, List.set_cons_succ]
    go_wp2
    go_ret
    exact ⟨b, _, rfl, hq2, hq3, hW10⟩

set_option maxRecDepth 100000 in
set_option maxHeartbeats 2000000 in
theorem fieldsCfg_any (r o : Nat) (w : World) :
    Calls Tryz.prog 163 #[.pointer (some ⟨r, o, none⟩)] w fun e w2 => ∃ b c, e = .returned (.slice (some ⟨b, 0, none⟩) [o + 2, o + 3, o + 4, o + 5].length c) ∧ w.heap.size ≤ b ∧ PtrR w2 b r [o + 2, o + 3, o + 4, o + 5] ∧ Below w.heap.size w w2 := by
  go_enter Tryz.func163, Tryz.ntmps163
  go_wp2_with fail
  refine wp_region_tw [[(0, none)], [(3, some 0)], [(4, some 1)], [(0, none)], [(6, some 3)], [(7, some 4)], [(0, none)], [(9, some 6)], [(10, some 7)], [(0, none)], [(12, some 9)], [(13, some 10)], [(5, some 2), (8, some 5), (11, some 8), (14, some 11)], [(15, some 12)]]
    (fun i v w1 => match i with | 0 => v = .pointer (some ⟨r, o, none⟩) | 1 => v = .pointer (some ⟨r, o, none⟩) | 2 => v = .pointer (some ⟨r, o + 2, none⟩) | 3 => v = .pointer (some ⟨r, o, none⟩) | 4 => v = .pointer (some ⟨r, o, none⟩) | 5 => v = .pointer (some ⟨r, o + 3, none⟩) | 6 => v = .pointer (some ⟨r, o, none⟩) | 7 => v = .pointer (some ⟨r, o, none⟩) | 8 => v = .pointer (some ⟨r, o + 4, none⟩) | 9 => v = .pointer (some ⟨r, o, none⟩) | 10 => v = .pointer (some ⟨r, o, none⟩) | 11 => v = .pointer (some ⟨r, o + 5, none⟩) | 12 => ∃ b, v = .slice (some ⟨b, 0, none⟩) 4 4 ∧ w.heap.size ≤ b ∧ PtrR w1 b r [o + 2, o + 3, o + 4, o + 5] | 13 => ∃ b, v = .slice (some ⟨b, 0, none⟩) 4 4 ∧ w.heap.size ≤ b ∧ PtrR w1 b r [o + 2, o + 3, o + 4, o + 5] | _ => True)
    (fun V => Below w.heap.size w V) (fun w1 w2 => Below w1.heap.size w1 w2) 16 rfl (by kernel_rfl)
    (fun i v w1 w2 _ hR hT => by
      match i, hT with
      | 0, hT => exact hT
      | 1, hT => exact hT
      | 2, hT => exact hT
      | 3, hT => exact hT
      | 4, hT => exact hT
      | 5, hT => exact hT
      | 6, hT => exact hT
      | 7, hT => exact hT
      | 8, hT => exact hT
      | 9, hT => exact hT
      | 10, hT => exact hT
      | 11, hT => exact hT
      | 12, hT => obtain ⟨b, h1, h2, h3⟩ := hT; exact ⟨b, h1, h2, h3.bel hR⟩
      | 13, hT => obtain ⟨b, h1, h2, h3⟩ := hT; exact ⟨b, h1, h2, h3.bel hR⟩
      | (n + 14), hT => exact hT)
    (fun _ => Below.refl _ _) (by go_grown) ⟨?_, ?_, ?_, ?_, ?_, ?_, ?_, ?_, ?_, ?_, ?_, ?_, ?_, ?_, trivial⟩ ?_
  · rintro A w1 Q K hC hK ⟨e0, -⟩
    replace e0 : A.tmps[0]?.getD undef = .pointer (some ⟨r, o, none⟩) := e0
    simp only [under]
    simp [go_sem, e0]
    exact hK _ _ rfl hC (Below.refl _ _)
  · rintro A w1 Q K hC hK ⟨e3, -⟩
    replace e3 : A.tmps[3]?.getD undef = .pointer (some ⟨r, o, none⟩) := e3
    simp only [under]
    simp [go_sem, e3]
    exact hK _ _ rfl hC (Below.refl _ _)
  · rintro A w1 Q K hC hK ⟨e4, -⟩
    replace e4 : A.tmps[4]?.getD undef = .pointer (some ⟨r, o, none⟩) := e4
    simp only [under]
    simp [go_sem, e4]
    exact hK _ _ rfl hC (Below.refl _ _)
  · rintro A w1 Q K hC hK ⟨e0, -⟩
    replace e0 : A.tmps[0]?.getD undef = .pointer (some ⟨r, o, none⟩) := e0
    simp only [under]
    simp [go_sem, e0]
    exact hK _ _ rfl hC (Below.refl _ _)
  · rintro A w1 Q K hC hK ⟨e6, -⟩
    replace e6 : A.tmps[6]?.getD undef = .pointer (some ⟨r, o, none⟩) := e6
    simp only [under]
    simp [go_sem, e6]
    exact hK _ _ rfl hC (Below.refl _ _)
  · rintro A w1 Q K hC hK ⟨e7, -⟩
    replace e7 : A.tmps[7]?.getD undef = .pointer (some ⟨r, o, none⟩) := e7
    simp only [under]
    simp [go_sem, e7]
    exact hK _ _ rfl hC (Below.refl _ _)
  · rintro A w1 Q K hC hK ⟨e0, -⟩
    replace e0 : A.tmps[0]?.getD undef = .pointer (some ⟨r, o, none⟩) := e0
    simp only [under]
    simp [go_sem, e0]
    exact hK _ _ rfl hC (Below.refl _ _)
  · rintro A w1 Q K hC hK ⟨e9, -⟩
    replace e9 : A.tmps[9]?.getD undef = .pointer (some ⟨r, o, none⟩) := e9
    simp only [under]
    simp [go_sem, e9]
    exact hK _ _ rfl hC (Below.refl _ _)
  · rintro A w1 Q K hC hK ⟨e10, -⟩
    replace e10 : A.tmps[10]?.getD undef = .pointer (some ⟨r, o, none⟩) := e10
    simp only [under]
    simp [go_sem, e10]
    exact hK _ _ rfl hC (Below.refl _ _)
  · rintro A w1 Q K hC hK ⟨e0, -⟩
    replace e0 : A.tmps[0]?.getD undef = .pointer (some ⟨r, o, none⟩) := e0
    simp only [under]
    simp [go_sem, e0]
    exact hK _ _ rfl hC (Below.refl _ _)
  · rintro A w1 Q K hC hK ⟨e12, -⟩
    replace e12 : A.tmps[12]?.getD undef = .pointer (some ⟨r, o, none⟩) := e12
    simp only [under]
    simp [go_sem, e12]
    exact hK _ _ rfl hC (Below.refl _ _)
  · rintro A w1 Q K hC hK ⟨e13, -⟩
    replace e13 : A.tmps[13]?.getD undef = .pointer (some ⟨r, o, none⟩) := e13
    simp only [under]
    simp [go_sem, e13]
    exact hK _ _ rfl hC (Below.refl _ _)
  · rintro A w1 Q K hC hK ⟨e5, e8, e11, e14, -⟩
    replace e5 : A.tmps[5]?.getD undef = .pointer (some ⟨r, o + 2, none⟩) := e5
    replace e8 : A.tmps[8]?.getD undef = .pointer (some ⟨r, o + 3, none⟩) := e8
    replace e11 : A.tmps[11]?.getD undef = .pointer (some ⟨r, o + 4, none⟩) := e11
    replace e14 : A.tmps[14]?.getD undef = .pointer (some ⟨r, o + 5, none⟩) := e14
    simp only [under]
    simp [go_sem, e5, e8, e11, e14]
    have hg : Below w1.heap.size w1 (w1.alloc (.cells #[.pointer (some ⟨r, o + 2, none⟩), .pointer (some ⟨r, o + 3, none⟩), .pointer (some ⟨r, o + 4, none⟩), .pointer (some ⟨r, o + 5, none⟩)] 140)) := by go_grown
    refine hK _ _ ⟨w1.heap.size, rfl, hC.size, by simp, fun i hi => ?_⟩ (hC.trans (hg.mono hC.size)) hg
    match i, hi with
    | 0, _ => simp [go_sem]
    | 1, _ => simp [go_sem]
    | 2, _ => simp [go_sem]
    | 3, _ => simp [go_sem]
  · rintro A w1 Q K hC hK ⟨e15, -⟩
    replace e15 : ∃ b, A.tmps[15]?.getD undef = .slice (some ⟨b, 0, none⟩) 4 4 ∧ w.heap.size ≤ b ∧ PtrR w1 b r [o + 2, o + 3, o + 4, o + 5] := e15
    obtain ⟨b, e15, h2, h3⟩ := e15
    simp only [under]
    simp [go_sem, e15]
    exact hK _ _ ⟨b, rfl, h2, h3⟩ hC (Below.refl _ _)
  · intro W10 hW10
    refine fun v0 h0 v1 h1 v2 h2 v3 h3 v4 h4 v5 h5 v6 h6 v7 h7 v8 h8 v9 h9 v10 h10 v11 h11 v12 h12 v13 h13 => ?_
    obtain ⟨b, rfl, hq2, hq3⟩ := h13
    clear h0 h1 h2 h3 h4 h5 h6 h7 h8 h9 h10 h11 h12
    simp only [upto, Act.put, List.setIfInBounds_toArray, List.set_cons_zero, List.set_cons_succ]
    go_wp2
    go_ret
    exact ⟨b, _, rfl, hq2, hq3, hW10⟩

theorem workFields (r o : Nat) (w : World) : FieldsAt w 82 159 r o [o, o + 1, o + 2, o + 3, o + 4, o + 5, o + 6, o + 7] where
  mf := fun _ => by kernel_rfl
  ef := fun args w => by kernel_rfl
  cf := fieldsWork_any r o w
theorem groupFields (r o : Nat) (w : World) : FieldsAt w 85 161 r o [o, o + 1, o + 2, o + 3, o + 4] where
  mf := fun _ => by kernel_rfl
  ef := fun args w => by kernel_rfl
  cf := fieldsGroup_any r o w
theorem cfgFields (r o : Nat) (w : World) : FieldsAt w 88 163 r o [o + 2, o + 3, o + 4, o + 5] where
  mf := fun _ => by kernel_rfl
  ef := fun args w => by kernel_rfl
  cf := fieldsCfg_any r o w

theorem setN_run : ∀ (ns : List Int) (o : Nat) (cs : Array Value), o + ns.length ≤ cs.size → (setN cs (List.range' o ns.length) ns).toList = cs.toList.take o ++ ns.map (Value.int .i64) ++ cs.toList.drop (o + ns.length)
  | [], o, cs, _ => by simp [setN]
  | n :: ns, o, cs, h => by
    simp only [List.length_cons] at h
    have hl : o < cs.toList.length := by simp; omega
    rw [List.length_cons, List.range'_succ, setN, setN_run ns (o + 1) _ (by simp; omega)]
    rw [Array.toList_setIfInBounds, List.set_eq_take_append_cons_drop, if_pos hl]
    have hlt : (cs.toList.take o).length = o := by rw [List.length_take]; omega
    have e1 : (cs.toList.take o ++ Value.int .i64 n :: cs.toList.drop (o + 1)).take (o + 1) = cs.toList.take o ++ [Value.int .i64 n] := by
      rw [List.take_append, hlt, List.take_of_length_le (by omega), show o + 1 - o = 1 by omega]
      rfl
    have e2 : (cs.toList.take o ++ Value.int .i64 n :: cs.toList.drop (o + 1)).drop (o + 1 + ns.length) = cs.toList.drop (o + (ns.length + 1)) := by
      rw [List.drop_append, hlt, List.drop_of_length_le (by omega), show o + 1 + ns.length - o = ns.length + 1 by omega, List.drop_succ_cons, List.drop_drop, List.nil_append]
      congr 1
      omega
    rw [e1, e2]
    simp
/-- The numbers of the last record of a row are laid into it. -/
theorem Owns.fill {α : Type} {m : Nat} {cell : α → Nat → Int} {T : TypeId} {B : Nat} {w : World} {g cp : Nat} {l : List α} {x : α} (h : Owns m cell T B w (.slice (some ⟨g, 0, none⟩) (l.length + 1) cp) (l ++ [x])) :
    ∃ cur, Blk w g cur T ∧ (l.length * m + m ≤ cur.size) ∧ ∀ (ns : List Int) (y : α) (w' : World), ns.length = m → rowOf m cell y = ns.map (Value.int .i64) → Blk w' g (setN cur (List.range' (l.length * m) m) ns) T → Owns m cell T B w' (.slice (some ⟨g, 0, none⟩) (l.length + 1) cp) (l ++ [y]) := by
  rcases h.2 with ⟨h1, _⟩ | ⟨g', cap, cur, h1, h2, h3, h4, h5, h6, h7⟩
  · cases h1
  · simp only [Value.slice.injEq, Option.some.injEq, Addr.mk.injEq, and_true] at h1
    obtain ⟨rfl, -, rfl⟩ := h1
    have hlen : (l ++ [x]).length = l.length + 1 := by simp
    rw [hlen] at h7
    have hcs : l.length * m + m ≤ cur.size := by
      have := Nat.mul_le_mul_right m h4
      rw [hlen, Nat.add_mul] at this
      omega
    refine ⟨cur, h3, hcs, fun ns y w' hn hy hb => ?_⟩
    have hfl : (flat m cell l).length = l.length * m := flat_length l
    refine ⟨by rw [flat_length], .inr ⟨g, cp, _, by simp, h2, hb, by simpa using h4, h5, by rw [setN_size]; exact h6, ?_⟩⟩
    subst hn
    rw [setN_run ns _ cur hcs]
    have e1 : cur.toList.take (l.length * ns.length) = flat ns.length cell l := by
      have h8 := congrArg (List.take (l.length * ns.length)) h7
      rw [List.take_take, flat_append, List.take_append_of_le_length (by omega), List.take_of_length_le (l := flat ns.length cell l) (by omega), show min (l.length * ns.length) ((l.length + 1) * ns.length) = l.length * ns.length by rw [Nat.add_mul]; omega] at h8
      exact h8
    rw [e1, flat_append, flat_one, hy, show (l ++ [y]).length * ns.length = (flat ns.length cell l ++ ns.map (Value.int .i64)).length by simp [hfl, Nat.add_mul], List.take_left']
    rfl
set_option maxRecDepth 100000 in
set_option maxHeartbeats 2000000 in
theorem lineOf_work (v : Value) (l : List Wk) (B bx TB : Nat) (cs : Array Value) (w : World) (hB : B ≤ w.heap.size) (ho : Owns 8 Wk.cell 74 B w v l) (hl : l.length ≤ 4000) (hb : Blk w bx cs TB) (hf : cs[0]? = some v) (hne : v.ownBlock ≠ some bx) :
    Calls Tryz.prog 49 #[str [119, 111, 114, 107], .pointer (some ⟨bx, 0, none⟩)] w fun e w' => ∃ g cp, e = .returned (.iface 82 (.pointer (some ⟨g, l.length * 8, none⟩))) ∧ AQ 8 Wk.cell 74 B w v l (wkL []) bx TB w' (.slice (some ⟨g, 0, none⟩) (l.length + 1) cp) (cs.setIfInBounds 0 (.slice (some ⟨g, 0, none⟩) (l.length + 1) cp)) := by
  go_enter Tryz.func49, Tryz.ntmps49
  go_wp2_with fail
  refine (oneWork_any v l B bx 0 TB cs w hB ho hl hb hf hne).mono ?_
  rintro e w1 ⟨g, cp, rfl, hq⟩
  have HQ := hid hq
  clear hq
  go_wp2
  go_ret
  exact ⟨g, cp, rfl, HQ.out⟩
set_option maxRecDepth 100000 in
set_option maxHeartbeats 2000000 in
theorem lineOf_group (v : Value) (l : List Gp) (B bx TB : Nat) (cs : Array Value) (w : World) (hB : B ≤ w.heap.size) (ho : Owns 5 Gp.cell 76 B w v l) (hl : l.length ≤ 4000) (hb : Blk w bx cs TB) (hf : cs[1]? = some v) (hne : v.ownBlock ≠ some bx) :
    Calls Tryz.prog 49 #[str [103, 114, 111, 117, 112], .pointer (some ⟨bx, 0, none⟩)] w fun e w' => ∃ g cp, e = .returned (.iface 85 (.pointer (some ⟨g, l.length * 5, none⟩))) ∧ AQ 5 Gp.cell 76 B w v l (gpL []) bx TB w' (.slice (some ⟨g, 0, none⟩) (l.length + 1) cp) (cs.setIfInBounds 1 (.slice (some ⟨g, 0, none⟩) (l.length + 1) cp)) := by
  go_enter Tryz.func49, Tryz.ntmps49
  go_wp2_with fail
  refine (oneGroup_any v l B bx 1 TB cs w hB ho hl hb hf hne).mono ?_
  rintro e w1 ⟨g, cp, rfl, hq⟩
  have HQ := hid hq
  clear hq
  go_wp2
  go_ret
  exact ⟨g, cp, rfl, HQ.out⟩
set_option maxRecDepth 100000 in
set_option maxHeartbeats 2000000 in
theorem lineOf_head (bx : Nat) (w : World) :
    Calls Tryz.prog 49 #[str [99, 102, 103], .pointer (some ⟨bx, 0, none⟩)] w fun e w' => e = .returned (.iface 88 (.pointer (some ⟨bx, 0, none⟩))) ∧ w' = w := by
  go_enter Tryz.func49, Tryz.ntmps49
  go_wp2
  go_ret
  exact ⟨rfl, rfl⟩

theorem cut_count (c : UInt8) : ∀ l : List UInt8, (cutB c l).length = l.count c + 1
  | [] => rfl
  | b :: l => by
    have ih := cut_count c l
    by_cases h : b = c
    · subst h
      simp [cutB, ih]
    · rw [cutB, if_neg h, List.count_cons_of_ne h]
      cases hc : cutB c l with
      | nil => have := cut_pos c l; rw [hc] at this; simp at this
      | cons p ps => rw [hc] at ih; simpa using ih
theorem split_any (l : List UInt8) (w : World) (hl : l.length ≤ 2000000) (hM : ∃ m : Int, w.cell? ⟨1, 0, none⟩ = some (.int .i64 m)) :
    Calls Tryz.prog 70 #[str l, str [10]] w fun e w' => e = .returned (.slice (some ⟨w.heap.size, 0, none⟩) (cutB 10 l).length (cutB 10 l).length) ∧ w.heap.size < w'.heap.size ∧
      (∀ (i : Nat) (h : i < (cutB 10 l).length), w'.cell? ⟨w.heap.size, i, none⟩ = some (str (cutB 10 l)[i])) ∧ Below w.heap.size w w' := by
  obtain ⟨k, hk⟩ := hM
  have hsz : (ByteArray.mk l.toArray).size = l.length := by show l.toArray.size = l.length; simp
  refine Calls.mono (Tryz.strings_Split ⟨l.toArray⟩ ⟨#[10]⟩ k w (by rw [hsz]; omega) hk (by decide)) ?_
  rintro e w' ⟨rfl, rfl⟩
  have hct : Lib.countB ⟨l.toArray⟩ ⟨#[10]⟩ = l.count 10 := by
    show Lib.count l [10] = _
    exact Lib.count_one 10 l
  have hcc := cut_count 10 l
  have hd := Lib.splitB_data ⟨#[10]⟩ 0 (Lib.countB ⟨l.toArray⟩ ⟨#[10]⟩) ⟨l.toArray⟩
  rw [hct] at hd ⊢
  have hk2 : Lib.splitK [10] 0 (l.count 10) l = cutB 10 l := (splitK_one 10 _ l).1 (by omega)
  obtain ⟨bs, hbs⟩ : ∃ bs, Lib.splitB ⟨#[10]⟩ 0 (l.count 10) ⟨l.toArray⟩ = bs := ⟨_, rfl⟩
  rw [hbs] at hd ⊢
  have hd2 : bs.map (·.data.toList) = cutB 10 l := by rw [← hk2]; simpa using hd
  rw [← hcc]
  refine ⟨rfl, by simp, fun i hi => ?_, by go_grown⟩
  have hlen : bs.length = (cutB 10 l).length := by rw [← hd2, List.length_map]
  have hi2 : i < bs.length := by omega
  simp only [go_sem]
  simp [hi2]
  rw [show (cutB 10 l)[i] = (bs.map (·.data.toList))[i]'(by simpa using hi2) by simp [hd2]]
  simp
theorem lineN_lib {wd row : List UInt8} {n : Nat} {xs : List Int} (hn : 0 < n) (hw : (32 : UInt8) ∉ wd) : lineN wd n row = some xs ↔ (Lib.cut row [32]).1 = wd ∧ readB (Lib.cut row [32]).2.1 n = some xs := by
  have key : lineN wd n row = some xs ↔ ∃ a, row = wd ++ 32 :: a ∧ readB a n = some xs := by
    unfold lineN
    cases hr : restB row wd with
    | none =>
      simp only
      constructor
      · intro h; cases h
      · rintro ⟨a, h, _⟩
        rw [restB_iff.2 h] at hr
        cases hr
    | some a =>
      have ht := restB_iff.1 hr
      simp only
      constructor
      · intro h; exact ⟨a, ht, h⟩
      · rintro ⟨a', h, h'⟩
        have : a' = a := by
          rw [ht] at h
          simpa using (List.append_cancel_left h).symm
        subst this
        exact h'
  rw [key]
  constructor
  · rintro ⟨a, rfl, h⟩
    rw [cut_lib, if_pos (by simp), cut_some a hw]
    simpa using h
  · rintro ⟨h3, h4⟩
    by_cases hm : (32 : UInt8) ∈ row
    · rcases idx_one 32 row with ⟨h5, _⟩ | ⟨p, q, h5, h6, _⟩
      · exact absurd hm h5
      · subst h5
        rw [cut_lib, if_pos hm, cut_some q h6] at h3 h4
        simp only [List.headD_cons] at h3 h4
        subst h3
        exact ⟨q, rfl, by simpa using h4⟩
    · rw [cut_lib, if_neg hm] at h4
      exfalso
      have := ((readB_iff hn).1 h4)
      cases xs with
      | nil => simp at this; omega
      | cons x l =>
        have h5 := this.2.2
        have h6 := cut_nums x l (fun n hn => inM_i64 (this.2.1 n hn))
        rw [h5] at h6
        simp only [cutB, List.map_cons, List.cons.injEq] at h6
        have h7 := h6.1
        unfold decB at h7
        split at h7
        · cases h7
        · exact digsN_ne _ h7.symm

abbrev wCfg : List UInt8 := [99, 102, 103]
abbrev wWork : List UInt8 := [119, 111, 114, 107]
abbrev wGroup : List UInt8 := [103, 114, 111, 117, 112]
/-- One line more: its place among the words may not be ahead of the last one's. -/
def lineP (i last : Nat) (c : Cf) (row : List UInt8) : Option (Nat × Cf) :=
  if i = 0 then match lineN wCfg 4 row with
    | some xs => some (0, { c with start := xs.getD 0 0, calm := xs.getD 1 0, idle := xs.getD 2 0, back := xs.getD 3 0 })
    | none => none
  else match lineN wWork 8 row with
    | some xs => if last ≤ 1 then some (1, { c with works := c.works ++ [wkL xs] }) else none
    | none => match lineN wGroup 5 row with
      | some xs => some (2, { c with groups := c.groups ++ [gpL xs] })
      | none => none
def rowsP : Nat → Nat → Cf → List (List UInt8) → Option (Nat × Cf)
  | _, last, c, [] => some (last, c)
  | i, last, c, r :: rs => match lineP i last c r with
    | some (last', c') => rowsP (i + 1) last' c' rs
    | none => none
def cf0 : Cf := ⟨[], [], 0, 0, 0, 0⟩
def progR (t : List UInt8) : Option Cf := if t.length ≤ 4000 then match rowsP 0 0 cf0 (cutB 10 t) with
    | some (_, c) => if cfgOk c then some c else none
    | none => none
  else none

theorem lineN_row {wd row : List UInt8} {n : Nat} {xs : List Int} (hn : 0 < n) (h : lineN wd n row = some xs) : row = wd ++ 32 :: numsB xs ∧ xs.length = n := by
  unfold lineN at h
  split at h
  · rename_i a ha
    have h1 := (readB_iff hn).1 h
    exact ⟨by rw [restB_iff.1 ha, h1.2.2], h1.1⟩
  · cases h
theorem wk_back {xs : List Int} (h : xs.length = 8) : wkN (wkL xs) = xs := by
  match xs, h with
  | [a0, a1, a2, a3, a4, a5, a6, a7], _ => rfl
theorem gp_back {xs : List Int} (h : xs.length = 5) : gpN (gpL xs) = xs := by
  match xs, h with
  | [a0, a1, a2, a3, a4], _ => rfl
theorem rowsP_rows : ∀ (rs : List (List UInt8)) (i last : Nat) (c : Cf) (r : Nat × Cf), 0 < i → rowsP i last c rs = some r → ∃ (ws : List Wk) (gs : List Gp), (1 < last → ws = []) ∧ rs = ws.map wkLine ++ gs.map gpLine ∧ r.2 = { c with works := c.works ++ ws, groups := c.groups ++ gs }
  | [], i, last, c, r, _, h => by
    cases h
    exact ⟨[], [], fun _ => rfl, rfl, by simp⟩
  | row :: rs, i, last, c, r, hi, h => by
    rw [rowsP] at h
    unfold lineP at h
    rw [if_neg (by omega)] at h
    cases hw : lineN wWork 8 row with
    | some xs =>
      rw [hw] at h
      simp only at h
      by_cases hl : last ≤ 1
      · rw [if_pos hl] at h
        simp only at h
        obtain ⟨ws, gs, h1, h2, h3⟩ := rowsP_rows rs (i + 1) 1 _ r (by omega) h
        obtain ⟨e1, e2⟩ := lineN_row (by omega) hw
        refine ⟨wkL xs :: ws, gs, fun h => by omega, ?_, by rw [h3]; simp⟩
        rw [e1, h2, List.map_cons, wkLine, wk_back e2]
        rfl
      · rw [if_neg hl] at h
        cases h
    | none =>
      rw [hw] at h
      simp only at h
      cases hg : lineN wGroup 5 row with
      | none => rw [hg] at h; cases h
      | some xs =>
        rw [hg] at h
        simp only at h
        obtain ⟨ws, gs, h1, h2, h3⟩ := rowsP_rows rs (i + 1) 2 _ r (by omega) h
        obtain ⟨e1, e2⟩ := lineN_row (by omega) hg
        have h4 := h1 (by omega)
        subst h4
        refine ⟨[], gpL xs :: gs, fun _ => rfl, ?_, by rw [h3]; simp⟩
        rw [e1, h2, List.map_nil, List.nil_append, List.nil_append, List.map_cons, gpLine, gp_back e2]
theorem join_cut (c : UInt8) : ∀ l : List UInt8, ∃ p ps, cutB c l = p :: ps ∧ l = p ++ (ps.map (fun x => c :: x)).flatten
  | [] => ⟨[], [], rfl, rfl⟩
  | b :: l => by
    obtain ⟨p, ps, h1, h2⟩ := join_cut c l
    by_cases h : b = c
    · subst h
      exact ⟨[], p :: ps, by rw [cutB, if_pos rfl, h1], by rw [h2]; simp⟩
    · refine ⟨b :: p, ps, by rw [cutB, if_neg h, h1], by rw [h2]; simp⟩
theorem rowsP_works : ∀ (ws : List Wk) (i last : Nat) (c : Cf) (rs : List (List UInt8)), 0 < i → last ≤ 1 → ws.all wOk = true → ∃ j last', 0 < j ∧ last' ≤ 1 ∧ rowsP i last c (ws.map wkLine ++ rs) = rowsP j last' { c with works := c.works ++ ws } rs
  | [], i, last, c, rs, hi, hl, _ => ⟨i, last, hi, hl, by simp⟩
  | x :: ws, i, last, c, rs, hi, hl, h => by
    rw [List.all_cons, Bool.and_eq_true] at h
    obtain ⟨j, l', h1, h2, h3⟩ := rowsP_works ws (i + 1) 1 { c with works := c.works ++ [x] } rs (by omega) (by omega) h.2
    refine ⟨j, l', h1, h2, ?_⟩
    rw [List.map_cons, List.cons_append, rowsP, lineP, if_neg (by omega), wkLine, lineN_yes (n := 8) (by omega) rfl (wkN_in h.1)]
    simp only [if_pos hl]
    rw [show wkL (wkN x) = x from rfl, h3]
    simp
theorem rowsP_groups : ∀ (gs : List Gp) (i last : Nat) (c : Cf), 0 < i → gs.all gOk = true → ∃ last', rowsP i last c (gs.map gpLine) = some (last', { c with groups := c.groups ++ gs })
  | [], i, last, c, _, _ => ⟨last, by simp [rowsP]⟩
  | x :: gs, i, last, c, hi, h => by
    rw [List.all_cons, Bool.and_eq_true] at h
    obtain ⟨l', h3⟩ := rowsP_groups gs (i + 1) 2 { c with groups := c.groups ++ [x] } (by omega) h.2
    refine ⟨l', ?_⟩
    have h1 : lineN wWork 8 (gpLine x) = none := by rw [lineN, restB_no (by simp [gpLine])]
    rw [List.map_cons, rowsP, lineP, if_neg (by omega), h1, gpLine, lineN_yes (n := 5) (by omega) rfl (gpN_in h.1)]
    simp only
    rw [show gpL (gpN x) = x from rfl, h3]
    simp
/-- What the program's lines read is what the document reads. -/
theorem progR_eq (t : List UInt8) : progR t = cfgR t := by
  have key : ∀ c, progR t = some c ↔ cfgR t = some c := by
    intro c
    rw [cfgR_iff]
    constructor
    · intro h
      unfold progR at h
      split at h
      · rename_i hl
        split at h
        · rename_i l1 c1 h1
          split at h
          · rename_i hok
            cases h
            refine ⟨hl, hok, ?_⟩
            obtain ⟨p, ps, e1, e2⟩ := join_cut 10 t
            rw [e1, rowsP] at h1
            unfold lineP at h1
            rw [if_pos rfl] at h1
            cases hx : lineN wCfg 4 p with
            | none => rw [hx] at h1; cases h1
            | some xs =>
              rw [hx] at h1
              simp only at h1
              obtain ⟨ws, gs, -, h3, h4⟩ := rowsP_rows ps 1 0 _ _ (by omega) h1
              obtain ⟨e3, e4⟩ := lineN_row (by omega) hx
              obtain ⟨a0, a1, a2, a3, rfl⟩ := four_of e4
              simp only [cf0, List.nil_append] at h4
              subst h4
              rw [cfgB_lines hok]
              conv => rhs; rw [e2, e3, h3]
              rfl
          · cases h
        · cases h
      · cases h
    · rintro ⟨h1, h2, h3⟩
      have hw := (ok_of_works h2).1
      have hg := (ok_of_groups h2).1
      have hcut : cutB 10 t = ([99, 102, 103] ++ 32 :: numsB [c.start, c.calm, c.idle, c.back]) :: (c.works.map wkLine ++ c.groups.map gpLine) := by
        rw [← h3, cfgB_lines h2]
        refine cut_lines _ _ ?_ ?_
        · have := numsB_line (hdN_in h2)
          simp [this]
        · intro l hl
          rw [List.mem_append, List.mem_map, List.mem_map] at hl
          rcases hl with ⟨x, hx, rfl⟩ | ⟨x, hx, rfl⟩
          · have := numsB_line (wkN_in (List.all_eq_true.1 hw x hx))
            simp [wkLine, this]
          · have := numsB_line (gpN_in (List.all_eq_true.1 hg x hx))
            simp [gpLine, this]
      rw [progR, if_pos h1, hcut, rowsP, lineP, if_pos rfl, lineN_yes (n := 4) (by omega) rfl (hdN_in h2)]
      simp only
      obtain ⟨j, l', h4, h5, h6⟩ := rowsP_works c.works 1 0 { cf0 with start := c.start, calm := c.calm, idle := c.idle, back := c.back } (c.groups.map gpLine) (by omega) (by omega) hw
      obtain ⟨l2, h7⟩ := rowsP_groups c.groups j l' { works := c.works, groups := [], start := c.start, calm := c.calm, idle := c.idle, back := c.back } h4 hg
      have h8 : rowsP (0 + 1) 0 { works := cf0.works, groups := cf0.groups, start := [c.start, c.calm, c.idle, c.back].getD 0 0, calm := [c.start, c.calm, c.idle, c.back].getD 1 0, idle := [c.start, c.calm, c.idle, c.back].getD 2 0, back := [c.start, c.calm, c.idle, c.back].getD 3 0 } (c.works.map wkLine ++ c.groups.map gpLine) = some (l2, c) := h6.trans h7
      rw [h8]
      simp [h2]
  cases hp : progR t with
  | some c => exact ((key c).1 hp).symm
  | none =>
    cases hc : cfgR t with
    | none => rfl
    | some c => rw [(key c).2 hc] at hp; cases hp

theorem rowsP_append : ∀ (a b : List (List UInt8)) (i last : Nat) (c : Cf), rowsP i last c (a ++ b) = match rowsP i last c a with
    | some (l', c') => rowsP (i + a.length) l' c' b
    | none => none
  | [], b, i, last, c => rfl
  | x :: a, b, i, last, c => by
    simp only [List.cons_append, rowsP]
    cases lineP i last c x with
    | none => rfl
    | some r =>
      simp only
      rw [rowsP_append a b (i + 1) r.1 r.2]
      simp only [List.length_cons]
      rw [show i + 1 + a.length = i + (a.length + 1) by omega]
theorem lineP_len {i last : Nat} {c : Cf} {row : List UInt8} {r : Nat × Cf} (h : lineP i last c row = some r) : r.1 ≤ 2 ∧ r.2.works.length ≤ c.works.length + 1 ∧ r.2.groups.length ≤ c.groups.length + 1 := by
  unfold lineP at h
  split at h
  · split at h
    · cases h; simp
    · cases h
  · split at h
    · split at h
      · cases h; simp
      · cases h
    · split at h
      · cases h; simp
      · cases h
theorem rowsP_len : ∀ (a : List (List UInt8)) (i last : Nat) (c : Cf) (r : Nat × Cf), last ≤ 2 → rowsP i last c a = some r → r.1 ≤ 2 ∧ r.2.works.length ≤ c.works.length + a.length ∧ r.2.groups.length ≤ c.groups.length + a.length
  | [], i, last, c, r, hl, h => by cases h; simp [hl]
  | x :: a, i, last, c, r, hl, h => by
    rw [rowsP] at h
    cases h1 : lineP i last c x with
    | none => rw [h1] at h; cases h
    | some r1 =>
      rw [h1] at h
      have h2 := lineP_len h1
      have h3 := rowsP_len a (i + 1) r1.1 r1.2 r h2.1 h
      simp only [List.length_cons]
      omega
/-- The three words, and the place of a word. -/
abbrev words3 : List (List UInt8) := [wCfg, wWork, wGroup]
theorem place_cases (x : List UInt8) : (idxB words3 x = -1 ∧ x ≠ wCfg ∧ x ≠ wWork ∧ x ≠ wGroup) ∨ (x = wCfg ∧ idxB words3 x = 0) ∨ (x = wWork ∧ idxB words3 x = 1) ∨ (x = wGroup ∧ idxB words3 x = 2) := by
  rcases idxB_cases words3 x with ⟨h1, h2⟩ | ⟨j, hj, h1, h2⟩
  · simp only [words3, List.mem_cons, List.not_mem_nil, or_false, not_or] at h2
    exact .inl ⟨h1, h2.1, h2.2.1, h2.2.2⟩
  · match j, hj with
    | 0, _ => exact .inr (.inl ⟨h1.symm, h2⟩)
    | 1, _ => exact .inr (.inr (.inl ⟨h1.symm, h2⟩))
    | 2, _ => exact .inr (.inr (.inr ⟨h1.symm, h2⟩))
theorem lineP_fail {i last : Nat} {c : Cf} {row : List UInt8} (hl : last ≤ 2) (h0 : i = 0 → last = 0) (h : ¬ ((last : Int) ≤ idxB words3 (Lib.cut row [32]).1 ∧ (idxB words3 (Lib.cut row [32]).1 = 0 ↔ i = 0))) : lineP i last c row = none := by
  cases hr : lineP i last c row with
  | none => rfl
  | some r =>
    exfalso
    apply h
    unfold lineP at hr
    have w1 : idxB words3 wCfg = 0 := by
      rcases place_cases wCfg with ⟨_, h2, _⟩ | ⟨_, h2⟩ | ⟨h2, _⟩ | ⟨h2, _⟩
      · exact absurd rfl h2
      · exact h2
      · cases h2
      · cases h2
    have w2 : idxB words3 wWork = 1 := by
      rcases place_cases wWork with ⟨_, _, h2, _⟩ | ⟨h2, _⟩ | ⟨_, h2⟩ | ⟨h2, _⟩
      · exact absurd rfl h2
      · cases h2
      · exact h2
      · cases h2
    have w3 : idxB words3 wGroup = 2 := by
      rcases place_cases wGroup with ⟨_, _, _, h2⟩ | ⟨h2, _⟩ | ⟨h2, _⟩ | ⟨_, h2⟩
      · exact absurd rfl h2
      · cases h2
      · cases h2
      · exact h2
    by_cases hi : i = 0
    · rw [if_pos hi] at hr
      cases hx : lineN wCfg 4 row with
      | none => rw [hx] at hr; cases hr
      | some xs =>
        have h1 := ((lineN_lib (by omega) (by decide)).1 hx).1
        rw [h1, w1]
        exact ⟨by have := h0 hi; omega, by simp [hi]⟩
    · rw [if_neg hi] at hr
      cases hx : lineN wWork 8 row with
      | some xs =>
        rw [hx] at hr
        simp only at hr
        have h1 := ((lineN_lib (by omega) (by decide)).1 hx).1
        rw [h1, w2]
        by_cases h2 : last ≤ 1
        · exact ⟨by omega, by simp [hi]⟩
        · rw [if_neg h2] at hr; cases hr
      | none =>
        rw [hx] at hr
        simp only at hr
        cases hy : lineN wGroup 5 row with
        | none => rw [hy] at hr; cases hr
        | some xs =>
          have h1 := ((lineN_lib (by omega) (by decide)).1 hy).1
          rw [h1, w3]
          exact ⟨by omega, by simp [hi]⟩
theorem lineP_head {last : Nat} {c : Cf} {row : List UInt8} (h : (Lib.cut row [32]).1 = wCfg) : lineP 0 last c row = match readB (Lib.cut row [32]).2.1 4 with
    | some xs => some (0, { c with start := xs.getD 0 0, calm := xs.getD 1 0, idle := xs.getD 2 0, back := xs.getD 3 0 })
    | none => none := by
  rw [lineP, if_pos rfl]
  have hk := fun xs => lineN_lib (row := row) (n := 4) (wd := wCfg) (xs := xs) (by omega) (by decide)
  cases hr : readB (Lib.cut row [32]).2.1 4 with
  | some xs => rw [(hk xs).2 ⟨h, hr⟩]
  | none =>
    cases hx : lineN wCfg 4 row with
    | none => rfl
    | some xs => have := ((hk xs).1 hx).2; rw [hr] at this; cases this
theorem lineP_work {i last : Nat} {c : Cf} {row : List UInt8} (hi : i ≠ 0) (hl : last ≤ 1) (h : (Lib.cut row [32]).1 = wWork) : lineP i last c row = match readB (Lib.cut row [32]).2.1 8 with
    | some xs => some (1, { c with works := c.works ++ [wkL xs] })
    | none => none := by
  rw [lineP, if_neg hi]
  have hk := fun xs => lineN_lib (row := row) (n := 8) (wd := wWork) (xs := xs) (by omega) (by decide)
  cases hr : readB (Lib.cut row [32]).2.1 8 with
  | some xs => rw [(hk xs).2 ⟨h, hr⟩]; simp [hl]
  | none =>
    cases hx : lineN wWork 8 row with
    | some xs => have := ((hk xs).1 hx).2; rw [hr] at this; cases this
    | none =>
      cases hy : lineN wGroup 5 row with
      | none => rfl
      | some xs =>
        have := ((lineN_lib (by omega) (by decide)).1 hy).1
        rw [h] at this
        cases this
theorem lineP_group {i last : Nat} {c : Cf} {row : List UInt8} (hi : i ≠ 0) (h : (Lib.cut row [32]).1 = wGroup) : lineP i last c row = match readB (Lib.cut row [32]).2.1 5 with
    | some xs => some (2, { c with groups := c.groups ++ [gpL xs] })
    | none => none := by
  rw [lineP, if_neg hi]
  have hk := fun xs => lineN_lib (row := row) (n := 5) (wd := wGroup) (xs := xs) (by omega) (by decide)
  have h1 : lineN wWork 8 row = none := by
    cases hx : lineN wWork 8 row with
    | none => rfl
    | some xs =>
      have := ((lineN_lib (by omega) (by decide)).1 hx).1
      rw [h] at this
      cases this
  rw [h1]
  simp only
  cases hr : readB (Lib.cut row [32]).2.1 5 with
  | some xs => rw [(hk xs).2 ⟨h, hr⟩]
  | none =>
    cases hx : lineN wGroup 5 row with
    | none => rfl
    | some xs => have := ((hk xs).1 hx).2; rw [hr] at this; cases this
theorem gl_only {ev : Value} {w w' : World} {r : Nat} (G : Gl ev w) (h : Only (fun k => k = r) w w') (hr : 9 ≤ r) : Gl ev w' :=
  gl_heap G (r := r) ⟨h.os, h.tape, h.output, h.size, fun k hk hne => h.block k hk (fun e => hne (by rw [e]))⟩ hr
theorem only_grown {S : Nat → Prop} {w w' : World} {g : Nat} (h : w.grownBy w' (some g)) (hg : S g) : Only S w w' :=
  Only.of_grown h (fun k hk => by cases hk; exact hg)
/-- The state while lines are read. -/
structure RdC (w1 : World) (bx : Nat) (w : World) (vw vg : Value) (c : Cf) : Prop where
  oc : OC w w1.heap.size vw vg c
  box : Blk w bx (cva vw vg c) 25
  only : Only (fun k => k = bx) w1 w
theorem RdC.bel {w1 w w' : World} {bx : Nat} {vw vg : Value} {c : Cf} (h : RdC w1 bx w vw vg c) (hb : Below w.heap.size w w') : RdC w1 bx w' vw vg c :=
  ⟨h.oc.keep hb, h.box.below hb h.box.lt, h.only.trans (Only.of_below hb)⟩
theorem RdC.head {w1 w w' : World} {bx : Nat} {vw vg : Value} {c : Cf} (h : RdC w1 bx w vw vg c) (hx : bx < w1.heap.size) (hg : w.grownBy w' (some bx)) {x0 x1 x2 x3 : Int} (hb : Blk w' bx (setN (cva vw vg c) [0 + 2, 0 + 3, 0 + 4, 0 + 5] [x0, x1, x2, x3]) 25) :
    RdC w1 bx w' vw vg { c with start := x0, calm := x1, idle := x2, back := x3 } := by
  have ho : Only (fun k => k = bx) w w' := only_grown hg rfl
  exact ⟨⟨h.oc.W.only ho (fun k hk e => by have := (h.oc.W.lt k hk).1; omega), h.oc.G.only ho (fun k hk e => by have := (h.oc.G.lt k hk).1; omega), h.oc.ne⟩, hb, h.only.trans ho⟩

theorem RdC.work {w1 w w2 w3 : World} {bx g cp : Nat} {vw vg : Value} {c : Cf} {x0 x : Wk} (h : RdC w1 bx w vw vg c) (hx : bx < w1.heap.size)
    (hq : AQ 8 Wk.cell 74 w1.heap.size w vw c.works x0 bx 25 w2 (.slice (some ⟨g, 0, none⟩) (c.works.length + 1) cp) ((cva vw vg c).setIfInBounds 0 (.slice (some ⟨g, 0, none⟩) (c.works.length + 1) cp)))
    (hg : w2.grownBy w3 (some g)) : w1.heap.size ≤ g ∧ Only (fun k => k = bx) w1 w3 ∧ (Owns 8 Wk.cell 74 w1.heap.size w3 (.slice (some ⟨g, 0, none⟩) (c.works.length + 1) cp) (c.works ++ [x]) → RdC w1 bx w3 (.slice (some ⟨g, 0, none⟩) (c.works.length + 1) cp) vg { c with works := c.works ++ [x] }) := by
  have hgb := (hq.own.lt g rfl).1
  have hgo : vg.ownBlock ≠ some g := fun e => by
    rcases hq.from' with h1 | ⟨k, h1, h2⟩
    · exact h.oc.ne g h1.symm e
    · have hk : g = k := Option.some.inj h1
      have := (h.oc.G.lt g e).2
      omega
  have hvo : ∀ k, vg.ownBlock = some k → ¬ (vw.ownBlock = some k ∨ k = bx) := fun k hk e => by
    rcases e with e | e
    · exact h.oc.ne k e hk
    · have := (h.oc.G.lt k hk).1; omega
  have hon3 : Only (fun k => k = g) w2 w3 := only_grown hg rfl
  have hoth := (h.oc.G.only hq.only hvo).only hon3 (fun k hk e => hgo (e ▸ hk))
  have hon : Only (fun k => k = bx) w1 w3 := (h.only.into hq.only (fun k hk e => e.elim (fun e => by have := (h.oc.W.lt k e).1; omega) id)).into hon3 (fun k hk e => by omega)
  exact ⟨hgb, hon, fun hn => ⟨⟨hn, hoth, fun k hk hk2 => by cases hk; exact hgo hk2⟩, hq.box.only hon3 (by omega), hon⟩⟩

theorem RdC.group {w1 w w2 w3 : World} {bx g cp : Nat} {vw vg : Value} {c : Cf} {x0 x : Gp} (h : RdC w1 bx w vw vg c) (hx : bx < w1.heap.size)
    (hq : AQ 5 Gp.cell 76 w1.heap.size w vg c.groups x0 bx 25 w2 (.slice (some ⟨g, 0, none⟩) (c.groups.length + 1) cp) ((cva vw vg c).setIfInBounds 1 (.slice (some ⟨g, 0, none⟩) (c.groups.length + 1) cp)))
    (hg : w2.grownBy w3 (some g)) : w1.heap.size ≤ g ∧ Only (fun k => k = bx) w1 w3 ∧ (Owns 5 Gp.cell 76 w1.heap.size w3 (.slice (some ⟨g, 0, none⟩) (c.groups.length + 1) cp) (c.groups ++ [x]) → RdC w1 bx w3 vw (.slice (some ⟨g, 0, none⟩) (c.groups.length + 1) cp) { c with groups := c.groups ++ [x] }) := by
  have hgb := (hq.own.lt g rfl).1
  have hgo : vw.ownBlock ≠ some g := fun e => by
    rcases hq.from' with h1 | ⟨k, h1, h2⟩
    · exact h.oc.ne g e h1.symm
    · have hk : g = k := Option.some.inj h1
      have := (h.oc.W.lt g e).2
      omega
  have hvo : ∀ k, vw.ownBlock = some k → ¬ (vg.ownBlock = some k ∨ k = bx) := fun k hk e => by
    rcases e with e | e
    · exact h.oc.ne k hk e
    · have := (h.oc.W.lt k hk).1; omega
  have hon3 : Only (fun k => k = g) w2 w3 := only_grown hg rfl
  have hoth := (h.oc.W.only hq.only hvo).only hon3 (fun k hk e => hgo (e ▸ hk))
  have hon : Only (fun k => k = bx) w1 w3 := (h.only.into hq.only (fun k hk e => e.elim (fun e => by have := (h.oc.G.lt k e).1; omega) id)).into hon3 (fun k hk e => by omega)
  exact ⟨hgb, hon, fun hn => ⟨⟨hoth, hn, fun k hk hk2 => by cases hk2; exact hgo hk⟩, hq.box.only hon3 (by omega), hon⟩⟩

theorem cut_len (l : List UInt8) : (Lib.cut l [32]).2.1.length ≤ l.length := by
  rw [cut_lib]
  split
  · simp
  · simp
theorem lineP_head' {i last : Nat} {c : Cf} {row : List UInt8} (hi : i = 0) (h : (Lib.cut row [32]).1 = wCfg) : lineP i last c row = match readB (Lib.cut row [32]).2.1 4 with
    | some xs => some (0, { c with start := xs.getD 0 0, calm := xs.getD 1 0, idle := xs.getD 2 0, back := xs.getD 3 0 })
    | none => none := by
  subst hi
  exact lineP_head h
theorem rowsP_at {ws : List (List UInt8)} {k last : Nat} {c : Cf} (hk : k < ws.length) (h : rowsP 0 0 cf0 (ws.take k) = some (last, c)) :
    (lineP k last c ws[k] = none → rowsP 0 0 cf0 ws = none) ∧ (∀ r, lineP k last c ws[k] = some r → rowsP 0 0 cf0 (ws.take (k + 1)) = some r) := by
  have hlen : (ws.take k).length = k := by rw [List.length_take]; omega
  constructor
  · intro hn
    have h1 := rowsP_append (ws.take k) (ws.drop k) 0 0 cf0
    rw [List.take_append_drop, h] at h1
    simp only [hlen, Nat.zero_add] at h1
    rw [h1, List.drop_eq_getElem_cons hk, rowsP, hn]
  · intro r hr
    have h1 := rowsP_append (ws.take k) [ws[k]] 0 0 cf0
    rw [← List.take_succ_eq_append_getElem hk, h] at h1
    simp only [hlen, Nat.zero_add, rowsP, hr] at h1
    exact h1

set_option maxRecDepth 100000 in
set_option maxHeartbeats 4000000 in
theorem readLines_any (t : List UInt8) (gw bx : Nat) (te : TypeId) (pe : Value) (w : World) (G : Gl (.iface te pe) w) (ht : t.length ≤ 2000000) (hgw : gw < w.heap.size) (hgb : gw ≠ bx)
    (hws : ∀ (j : Nat) (h : j < words3.length), w.cell? ⟨gw, j, none⟩ = some (str words3[j])) (hb : Blk w bx (cva (.slice none 0 0) (.slice none 0 0) cf0) 25) (h9 : 9 ≤ bx) :
    Calls Tryz.prog 48 #[str t, .slice (some ⟨gw, 0, none⟩) 3 3, .func (.func 49) #[] #[.pointer (some ⟨bx, 0, none⟩)]] w fun e w' =>
      Only (fun k => k = bx) w w' ∧ ((∃ last c vw vg, t.length ≤ 4000 ∧ rowsP 0 0 cf0 (cutB 10 t) = some (last, c) ∧ e = .returned (.tuple #[]) ∧ OC w' w.heap.size vw vg c ∧ Blk w' bx (cva vw vg c) 25) ∨ ((¬ t.length ≤ 4000 ∨ rowsP 0 0 cf0 (cutB 10 t) = none) ∧ e = pan (.iface te pe))) := by
  have g0 := G.no
  have hbl := hb.lt
  by_cases hbig : t.length ≤ 4000
  rotate_left
  · have h1 : ¬ (t.length : Int) ≤ 4000 := by omega
    have HBIG := hid hbig
    clear hbig
    go_enter Tryz.func48, Tryz.ntmps48
    go_wp2_with fail
    refine (must_no te pe w g0).mono ?_
    rintro e w1 ⟨rfl, rfl⟩
    go_wp2
    exact ⟨rfl, Only.refl _ _, .inr ⟨.inl HBIG.out, rfl⟩⟩
  have h1 : (t.length : Int) ≤ 4000 := by omega
  have HWS := hid hws
  have HBX := hid hb
  have HCM := hid (cut_mem 10 t)
  have HCL := hid (cut_length 10 t)
  clear hws hb
  go_enter Tryz.func48, Tryz.ntmps48
  go_wp2_with fail
  refine (must_yes w).mono ?_
  rintro e w1 ⟨rfl, rfl⟩
  go_wp2_with fail
  refine (split_any t _ ht G.maxLen).mono ?_
  rintro e w2 ⟨rfl, hl2, hrows, hb2⟩
  obtain ⟨ws, hww⟩ : ∃ ws, cutB 10 t = ws := ⟨_, rfl⟩
  have HWW := hid hww
  rw [hww] at hrows ⊢
  have hcm : Hid (∀ p ∈ ws, p.length ≤ t.length) := hww ▸ HCM.out
  have hcl : ws.length ≤ t.length + 1 := hww ▸ HCL.out
  have HROWS := hid hrows
  have G2 := G.keep hb2
  have HB2 := hid hb2
  have hbx2 := HBX.out.below hb2 hbl
  have hwl2 : gw < w2.heap.size := Nat.lt_of_lt_of_le hgw hb2.size
  have hrb : w1.heap.size ≠ bx := by omega
  have hbl2 := hbx2.lt
  have hws2 : Hid (∀ (j : Nat) (h : j < words3.length), w2.cell? ⟨gw, j, none⟩ = some (str words3[j])) := fun j h => by rw [below_cell hb2 hgw]; exact HWS.out j h
  have HBX2 := hid hbx2
  have HG2 := hid G2
  clear hrows hb2 hbx2 G G2 hww HCM HCL HBX HWS
  go_wp2
  go_loopw [6, 20] (fun lv iv w' => ∃ (k last : Nat) (c : Cf) (vw vg : Value), lv = .int .i64 (last : Int) ∧ iv = .int .i64 (k : Int) ∧ k ≤ ws.length ∧ Hid (rowsP 0 0 cf0 (ws.take k) = some (last, c)) ∧ RdC w2 bx w' vw vg c) (fun _ iv _ => ws.length - (intOf iv).toNat)
  case atStart => exact ⟨0, 0, cf0, _, _, rfl, rfl, by omega, rfl, ⟨OC.nil _ _ _ rfl rfl, HBX2.out, Only.refl _ _⟩⟩
  case round =>
    obtain ⟨k, last, c, vw, vg, rfl, rfl, hk, hrp, hR⟩ := hrel
    have hlen := rowsP_len _ _ _ _ _ (by omega) hrp.out
    simp only [cf0, List.length_nil, List.length_take, Nat.zero_add] at hlen
    have h0 : k = 0 → last = 0 := by
      intro e
      have := hrp.out
      rw [e] at this
      simp [rowsP] at this
      exact this.1.symm
    by_cases hkn : k < ws.length
    · have hcell : wr.cell? ⟨w1.heap.size, k, none⟩ = some (str ws[k]) := (Only.cell hR.only hl2 hrb).trans (HROWS.out k hkn)
      have hk0 : (0 : Int) ≤ (k : Int) := by omega
      have hk1 : (k : Int) < (ws.length : Int) := by omega
      have hwl : ws[k].length ≤ 4000 := by have := hcm.out _ (List.getElem_mem hkn); omega
      have hyl := cut_len ws[k]
      have HAT := hid (rowsP_at hkn hrp.out)
      have HF0 := lineP_fail (i := k) (last := last) (c := c) (row := ws[k]) hlen.1 h0
      have HGR := hid (gl_only HG2.out hR.only h9)
      have HR := hid hR
      have hlast := hlen.1
      have hlw : c.works.length ≤ 4000 ∧ c.groups.length ≤ 4000 := ⟨by omega, by omega⟩
      clear hlen hR hrp
      go_wp2_with fail
      refine (cut_any' ws[k] wr (by omega) HGR.out.maxLen).mono ?_
      rintro e w4 ⟨rfl, hb4⟩
      obtain ⟨x, hx⟩ : ∃ x, (Lib.cut ws[k] [32]).1 = x := ⟨_, rfl⟩
      obtain ⟨y, hy⟩ : ∃ y, (Lib.cut ws[k] [32]).2.1 = y := ⟨_, rfl⟩
      obtain ⟨bb, hbb⟩ : ∃ bb, (Lib.cut ws[k] [32]).2.2 = bb := ⟨_, rfl⟩
      rw [hy] at hyl
      rw [hx] at HF0
      rw [hx, hy, hbb]
      have HX := hid hx
      have HY := hid hy
      have HG4 := hid (HGR.out.keep hb4)
      have HR4 := hid (HR.out.bel hb4)
      have hws4 : ∀ (j : Nat) (h : j < words3.length), w4.cell? ⟨gw, j, none⟩ = some (str words3[j]) := fun j h => (Only.cell HR4.out.only hwl2 hgb).trans (hws2.out j h)
      clear hx hy hbb hb4 hcell
      go_wp2_with fail
      refine (index_any gw 3 words3 x w4 rfl (by decide) hws4).mono ?_
      rintro e w4 ⟨rfl, rfl⟩
      have hpc := place_cases x
      obtain ⟨pl, hpl⟩ : ∃ pl, idxB words3 x = pl := ⟨_, rfl⟩
      rw [hpl] at hpc HF0 ⊢
      have HF := hid HF0
      have g4 := HG4.out.no
      clear HF0 hpl hws4
      by_cases hge : (last : Int) ≤ pl
      rotate_left
      · have HNO : Hid (rowsP 0 0 cf0 ws = none) := HAT.out.1 (HF.out (fun h => hge h.1))
        clear hpc
        go_wp2_with fail
        refine (must_no te pe w4 g4).mono ?_
        rintro e w9 ⟨rfl, rfl⟩
        go_wp2
        exact ⟨rfl, (Only.of_below HB2.out).into HR4.out.only (fun k _ e => e), .inr ⟨.inr (by first | exact HNO.out | (rw [HWW.out]; exact HNO.out)), rfl⟩⟩
      by_cases hz0 : pl = 0
      · have hz : (pl == 0) = true := by simp [hz0]
        by_cases hkz : k = 0
        rotate_left
        · have hkb : ((k : Int) == 0) = false := by simp [hkz]
          have HNO : Hid (rowsP 0 0 cf0 ws = none) := HAT.out.1 (HF.out (fun h => hkz (h.2.1 hz0)))
          clear hpc hz0 hkz
          go_wp2_with fail
          refine (must_no te pe w4 g4).mono ?_
          rintro e w9 ⟨rfl, rfl⟩
          go_wp2
          exact ⟨rfl, (Only.of_below HB2.out).into HR4.out.only (fun k _ e => e), .inr ⟨.inr (by first | exact HNO.out | (rw [HWW.out]; exact HNO.out)), rfl⟩⟩
        · have hkb : ((k : Int) == 0) = true := by simp [hkz]
          have hxw : x = wCfg := by
            rcases hpc with ⟨h5, _⟩ | ⟨h5, _⟩ | ⟨_, h5⟩ | ⟨_, h5⟩
            · omega
            · exact h5
            · omega
            · omega
          have HKZ := hid hkz
          have HZ0 := hid hz0
          clear hpc hkz hz0
          subst hxw
          have HLP := hid ((lineP_head' (last := last) (c := c) HKZ.out HX.out).trans (by rw [HY.out]) : lineP k last c ws[k] = _)
          go_wp2_with fail
          refine (must_yes w4).mono ?_
          rintro e w5 ⟨rfl, rfl⟩
          go_wp2_with fail
          refine (lineOf_head bx w5).mono ?_
          rintro e w6 ⟨rfl, rfl⟩
          go_wp2_with fail
          refine (readNumbers_any y te pe w6 HG4.out (cfgFields bx 0 w6) HR4.out.box h9 (by intro o ho; simp at ho; simp; omega) (by simp) (by simp) (by omega)).mono ?_
          rintro e w7 ⟨hg7, hres⟩
          have hon7 : Hid (Only (fun k => k = bx) w2 w7) := HR4.out.only.trans (only_grown hg7 rfl)
          rcases hres with ⟨ns, hns, rfl, hB7⟩ | ⟨hno, rfl⟩
          · obtain ⟨x0, x1, x2, x3, rfl⟩ := four_of ((readB_iff (by simp)).1 hns).1
            have HRN := hid (HR4.out.head hbl2 hg7 hB7)
            have hpl2 : Hid (lineP k last c ws[k] = some (0, { c with start := x0, calm := x1, idle := x2, back := x3 })) := by
              rw [Hid, HLP.out]
              have h5 : readB y 4 = some [x0, x1, x2, x3] := hns
              rw [h5]
              rfl
            clear hB7 hns hg7
            go_wp2
            refine ⟨⟨k + 1, 0, _, _, _, by rw [HZ0.out]; rfl, by simp, by omega, HAT.out.2 _ hpl2.out, HRN.out⟩, ?_⟩
            simp [intOf]
            omega
          · have HNO : Hid (rowsP 0 0 cf0 ws = none) := HAT.out.1 (by
              rw [HLP.out]
              have h5 : readB y 4 = none := hno
              rw [h5])
            clear hno hg7
            go_wp2
            exact ⟨rfl, (Only.of_below HB2.out).into hon7.out (fun k _ e => e), .inr ⟨.inr (by first | exact HNO.out | (rw [HWW.out]; exact HNO.out)), rfl⟩⟩
      · have hz : (pl == 0) = false := by simp [hz0]
        by_cases hkz : k = 0
        · have hkb : ((k : Int) == 0) = true := by simp [hkz]
          have HNO : Hid (rowsP 0 0 cf0 ws = none) := HAT.out.1 (HF.out (fun h => hz0 (h.2.2 hkz)))
          clear hpc hz0 hkz
          go_wp2_with fail
          refine (must_no te pe w4 g4).mono ?_
          rintro e w9 ⟨rfl, rfl⟩
          go_wp2
          exact ⟨rfl, (Only.of_below HB2.out).into HR4.out.only (fun k _ e => e), .inr ⟨.inr (by first | exact HNO.out | (rw [HWW.out]; exact HNO.out)), rfl⟩⟩
        · have hkb : ((k : Int) == 0) = false := by simp [hkz]
          rcases hpc with ⟨h5, _⟩ | ⟨_, h5⟩ | ⟨hxw, hpw⟩ | ⟨hxw, hpw⟩
          · exact absurd h5 (by omega)
          · exact absurd h5 hz0
          · subst hxw
            have hl1 : last ≤ 1 := by omega
            clear hz0
            have HLP := hid ((lineP_work hkz hl1 HX.out).trans (by rw [HY.out]) : lineP k last c ws[k] = _)
            have HFI : Hid (pl = 1) := hpw
            clear hpw
            go_wp2_with fail
            refine (must_yes w4).mono ?_
            rintro e w5 ⟨rfl, rfl⟩
            go_wp2_with fail
            refine (lineOf_work vw c.works w2.heap.size bx 25 (cva vw vg c) w5 (HR4.out.only.size) HR4.out.oc.W (by omega) HR4.out.box rfl (fun e => by have := (HR4.out.oc.W.lt bx e).1; omega)).mono ?_
            rintro e w6 ⟨g, cp, rfl, hq⟩
            obtain ⟨cur, hcur, hcz, hfill⟩ := hq.own.fill
            have hgb : w2.heap.size ≤ g := (hq.own.lt g rfl).1
            have HQ := hid hq
            have HCUR := hid hcur
            have HFILL := hid hfill
            have G6 : Gl (.iface te pe) w6 := gl_only HG2.out (HR4.out.only.into hq.only (fun k hk e => by
              rcases e with e | e
              · exact absurd (HR4.out.oc.W.lt k e).1 (by omega)
              · exact e)) h9
            clear hq hcur hfill
            go_wp2_with fail
            refine (readNumbers_any y te pe w6 G6 (workFields g (c.works.length * 8) w6) HCUR.out (by omega) (by intro o ho; simp at ho; omega) (by simp) (by simp) (by omega)).mono ?_
            rintro e w7 ⟨hg7, hres⟩
            have HW := hid (HR4.out.work (x0 := wkL []) (x := wkL []) hbl2 HQ.out hg7)
            rcases hres with ⟨ns, hns, rfl, hB7⟩ | ⟨hno, rfl⟩
            · have hnl := ((readB_iff (by simp)).1 hns).1
              have hrow : rowOf 8 Wk.cell (wkL ns) = ns.map (Value.int .i64) := by
                obtain ⟨x0, x1, x2, x3, x4, x5, x6, x7, rfl⟩ := eight_of hnl
                rfl
              have HN := hid (HFILL.out ns (wkL ns) w7 hnl hrow hB7)
              have HRN := hid ((HR4.out.work (x0 := wkL []) (x := wkL ns) hbl2 HQ.out hg7).2.2 HN.out)
              have hpl2 : Hid (lineP k last c ws[k] = some (1, { c with works := c.works ++ [wkL ns] })) := by
                rw [Hid, HLP.out]
                have h5 : readB y 8 = some ns := hns
                rw [h5]
              clear hB7 hns hrow hg7
              go_wp2
              refine ⟨⟨k + 1, 1, _, _, _, by rw [HFI.out]; rfl, by simp, by omega, HAT.out.2 _ hpl2.out, HRN.out⟩, ?_⟩
              simp [intOf]
              omega
            · have HNO : Hid (rowsP 0 0 cf0 ws = none) := HAT.out.1 (by
                rw [HLP.out]
                have h5 : readB y 8 = none := hno
                rw [h5])
              clear hno hg7
              go_wp2
              exact ⟨rfl, (Only.of_below HB2.out).into HW.out.2.1 (fun k _ e => e), .inr ⟨.inr (by first | exact HNO.out | (rw [HWW.out]; exact HNO.out)), rfl⟩⟩
          · subst hxw
            clear hz0
            have HLP := hid ((lineP_group hkz HX.out).trans (by rw [HY.out]) : lineP k last c ws[k] = _)
            have HFI : Hid (pl = 2) := hpw
            clear hpw
            go_wp2_with fail
            refine (must_yes w4).mono ?_
            rintro e w5 ⟨rfl, rfl⟩
            go_wp2_with fail
            refine (lineOf_group vg c.groups w2.heap.size bx 25 (cva vw vg c) w5 (HR4.out.only.size) HR4.out.oc.G (by omega) HR4.out.box rfl (fun e => by have := (HR4.out.oc.G.lt bx e).1; omega)).mono ?_
            rintro e w6 ⟨g, cp, rfl, hq⟩
            obtain ⟨cur, hcur, hcz, hfill⟩ := hq.own.fill
            have hgb : w2.heap.size ≤ g := (hq.own.lt g rfl).1
            have HQ := hid hq
            have HCUR := hid hcur
            have HFILL := hid hfill
            have G6 : Gl (.iface te pe) w6 := gl_only HG2.out (HR4.out.only.into hq.only (fun k hk e => by
              rcases e with e | e
              · exact absurd (HR4.out.oc.G.lt k e).1 (by omega)
              · exact e)) h9
            clear hq hcur hfill
            go_wp2_with fail
            refine (readNumbers_any y te pe w6 G6 (groupFields g (c.groups.length * 5) w6) HCUR.out (by omega) (by intro o ho; simp at ho; omega) (by simp) (by simp) (by omega)).mono ?_
            rintro e w7 ⟨hg7, hres⟩
            have HW := hid (HR4.out.group (x0 := gpL []) (x := gpL []) hbl2 HQ.out hg7)
            rcases hres with ⟨ns, hns, rfl, hB7⟩ | ⟨hno, rfl⟩
            · have hnl := ((readB_iff (by simp)).1 hns).1
              have hrow : rowOf 5 Gp.cell (gpL ns) = ns.map (Value.int .i64) := by
                obtain ⟨x0, x1, x2, x3, x4, rfl⟩ := five_of hnl
                rfl
              have HN := hid (HFILL.out ns (gpL ns) w7 hnl hrow hB7)
              have HRN := hid ((HR4.out.group (x0 := gpL []) (x := gpL ns) hbl2 HQ.out hg7).2.2 HN.out)
              have hpl2 : Hid (lineP k last c ws[k] = some (2, { c with groups := c.groups ++ [gpL ns] })) := by
                rw [Hid, HLP.out]
                have h5 : readB y 5 = some ns := hns
                rw [h5]
              clear hB7 hns hrow hg7
              go_wp2
              refine ⟨⟨k + 1, 2, _, _, _, by rw [HFI.out]; rfl, by simp, by omega, HAT.out.2 _ hpl2.out, HRN.out⟩, ?_⟩
              simp [intOf]
              omega
            · have HNO : Hid (rowsP 0 0 cf0 ws = none) := HAT.out.1 (by
                rw [HLP.out]
                have h5 : readB y 5 = none := hno
                rw [h5])
              clear hno hg7
              go_wp2
              exact ⟨rfl, (Only.of_below HB2.out).into HW.out.2.1 (fun k _ e => e), .inr ⟨.inr (by first | exact HNO.out | (rw [HWW.out]; exact HNO.out)), rfl⟩⟩
    · have hk2 : ¬ (k : Int) < (ws.length : Int) := by omega
      have hend : Hid (rowsP 0 0 cf0 ws = some (last, c)) := by
        have := hrp.out
        rwa [List.take_of_length_le (by omega)] at this
      have HR := hid hR
      clear hR hrp
      go_wp2
      go_end0
      exact ⟨(Only.of_below HB2.out).into HR.out.only (fun k _ e => e), .inl ⟨last, c, (by first | exact hend.out | (rw [HWW.out]; exact hend.out)), rfl, vw, vg, ⟨HR.out.oc.W.mono HB2.out.size, HR.out.oc.G.mono HB2.out.size, HR.out.oc.ne⟩, HR.out.box⟩⟩
end Go.Proofs.YtoceohacplmgnaaGreatDoor
