/- Texts: what is asked, as the program writes it. -/
import Derived.Test.YtoceohacplmgnaaDoorWk
import Derived.Test.YtoceohacplmgnaaDoorTd
namespace Go.Proofs.YtoceohacplmgnaaDoor
open Go.RowKit

def cwT (x : Wk) : List UInt8 := lineB [119, 111, 114, 107] [x.cpu, x.mem, x.min, x.max, x.target, x.limit, x.tol, x.rank]
def cgT (x : Gp) : List UInt8 := lineB [103, 114, 111, 117, 112] [x.cpu, x.mem, x.min, x.max, x.boot]
def chT (c : Cf) : List UInt8 := lineB [99, 102, 103] [c.start, c.calm, c.idle, c.back]
def cx1 (c : Cf) (k : Nat) : List (List UInt8) := chT c :: (c.works.take k).map cwT
def cx2 (c : Cf) (k : Nat) : List (List UInt8) := cx1 c c.works.length ++ (c.groups.take k).map cgT
theorem cx1_step (c : Cf) (k : Nat) (h : k < c.works.length) : cx1 c (k + 1) = cx1 c k ++ [cwT c.works[k]] := by rw [cx1, cx1, List.take_succ_eq_append_getElem h, List.map_append]; rfl
theorem cx2_step (c : Cf) (k : Nat) (h : k < c.groups.length) : cx2 c (k + 1) = cx2 c k ++ [cgT c.groups[k]] := by rw [cx2, cx2, List.take_succ_eq_append_getElem h, List.map_append, List.append_assoc]; rfl
theorem cx1_length (c : Cf) (k : Nat) (h : k ≤ c.works.length) : (cx1 c k).length = 1 + k := by simp [cx1]; omega
theorem cx2_length (c : Cf) (k : Nat) (h : k ≤ c.groups.length) : (cx2 c k).length = 1 + c.works.length + k := by rw [cx2, List.length_append, cx1_length c _ (Nat.le_refl _)]; simp; omega
theorem cwT_eq (x : Wk) : 10 :: cwT x = workB x := by rw [cwT, line_nums _ _ (by simp) (by simp)]; rfl
theorem cgT_eq (x : Gp) : 10 :: cgT x = groupB x := by rw [cgT, line_nums _ _ (by simp) (by simp)]; rfl
theorem chT_eq (c : Cf) : chT c = headB c := by rw [chT, line_nums _ _ (by simp) (by simp)]; rfl
theorem cx_cfgP (c : Cf) : [10].intercalate (cx2 c c.groups.length) = cfgP c c.groups.length := by
  rw [cx2, cx1, List.cons_append, inter_flat, chT_eq]
  simp only [List.take_length, List.map_append, List.flatten_append, List.map_map, Function.comp_def, cwT_eq, cgT_eq]
  simp only [cfgP, worksP, List.take_length, List.append_assoc]

set_option maxRecDepth 100000 in
set_option maxHeartbeats 8000000 in
/-- The program's TextCfg. -/
theorem textCfg_any (v : Value) (c : Cf) (w : World) (h : CfgAt w v c) (hT : Tab w) :
    Calls Tryd.prog 11 #[v] w fun e w' => e = .returned (str (cfgB c)) ∧ Below w.heap.size w w' := by
  have H := hid h
  obtain ⟨aw, lw, cw, ag, lg, cg, rfl, ⟨e1, m1, h1⟩, ⟨e2, m2, h2⟩⟩ := h
  obtain ⟨inf, i1, i2, i3, i4⟩ := info_parts info140
  have I1 := hid i1
  have I2 := hid i2
  have I3 := hid i3
  have I4 := hid i4
  have H1 := hid h1
  have E1 := hid e1
  have H2 := hid h2
  have E2 := hid e2
  clear h1 h2 e1 e2 i1 i2 i3 i4
  go_enter Tryd.func11, Tryd.ntmps11
  go_wp2_with fail
  refine (cfgOk_any _ c _ (H.out.keep (by go_grown))).mono ?_
  rintro e w1 ⟨rfl, hb⟩
  have hX1 : Blk w1 w.heap.size #[.slice aw lw cw, .slice ag lg cg, .int .i64 c.start, .int .i64 c.calm, .int .i64 c.idle, .int .i64 c.back] 31 := (Blk.new w _ _).below hb (by simp)
  have hB1 : Below w.heap.size w w1 := bel_tr (by go_grown) hb
  clear hb
  cases hok : cfgOk c
  · have hp : Hid (cfgB c = []) := by simp [cfgB, hok, Hid]
    go_wp2
    go_ret
    exact ⟨by rw [hp.out]; rfl, hB1⟩
  have hp : Hid (cfgB c = cfgP c c.groups.length) := by simp [cfgB, hok, Hid]
  have OK := hid hok
  clear hok H
  have hl := LinesAt.one (W := w1) (base := w.heap.size) (cfgHead w.heap.size (.slice aw lw cw) (.slice ag lg cg) c.start c.calm c.idle c.back) (cfgHead_ok _ _ _ _ _ _ _ (hd_i64 OK.out)) hX1 hB1.size
  have HL := hid hl
  clear hl
  have HX := hid hX1
  have HB := hid hB1
  have hz := hX1.lt
  clear hX1 hB1
  have A0 := HX.out.cell
  go_wp2_with fail
  clear A0
  refine wp_gen (fun W => Hid (Below w.heap.size w W) ∧ Hid (Blk W w.heap.size #[.slice aw lw cw, .slice ag lg cg, .int .i64 c.start, .int .i64 c.calm, .int .i64 c.idle, .int .i64 c.back] 31) ∧ ∃ (g0 : Nat) (ls : List Ln), g0 = w1.heap.size ∧ w.heap.size < g0 ∧ ls.length = 1 ∧ Hid (LinesAt W w.heap.size (.slice (some ⟨g0, 0, none⟩) 1 1) ls) ∧ Hid (ls.map Ln.text = cx1 c 0))
    ⟨hid (HB.out.alloc HB.out.size _), hid (HX.out.alloc _), _, _, rfl, hz, rfl, HL, rfl⟩ ?_
  rintro W ⟨HB0, HX0, g0, ls0, hgw, hg0, hls0, HL0, HTX0⟩
  rw [← hgw]
  clear HL HX HB hz hgw
  have A := HX0.out.cell
  have zx := HX0.out.lt
  go_wp2
  clear A zx
  go_loopw [3, 16] (fun o i w' => ∃ (g1 cp1 k1 : Nat) (ls1 : List Ln), o = .slice (some ⟨g1, 0, none⟩) ls1.length cp1 ∧ i = .int .i64 k1 ∧ k1 ≤ lw ∧ w.heap.size < g1 ∧ Hid (LinesAt w' w.heap.size (.slice (some ⟨g1, 0, none⟩) ls1.length cp1) ls1) ∧ Hid (ls1.map Ln.text = cx1 c k1) ∧ Hid (Blk w' w.heap.size #[.slice aw lw cw, .slice ag lg cg, .int .i64 c.start, .int .i64 c.calm, .int .i64 c.idle, .int .i64 c.back] 31) ∧ Hid (Below w.heap.size w w')) (fun _ i _ => lw - (intOf i).toNat)
  case atStart => exact ⟨g0, 1, 0, ls0, by rw [hls0], rfl, Nat.zero_le _, hg0, by rw [hls0]; exact HL0, HTX0, HX0, HB0⟩
  case round =>
    obtain ⟨g1, cp1, k1, ls1, rfl, rfl, hk, hg1, HL1, HTX1, HX1, HB1⟩ := hrel
    have hk0 : (0 : Int) ≤ (k1 : Int) := by omega
    have hgl := (HL1.out.1.lt g1 rfl).2
    have hll : ls1.length ≤ 10000000 := by
      have h1 := congrArg List.length HTX1.out
      rw [List.length_map, cx1_length c k1 (by rw [E1.out]; exact hk)] at h1
      have q1 := E1.out
      have q2 := E2.out
      omega
    by_cases hkl : k1 < lw
    · have hkn : (k1 : Int) < (lw : Int) := by omega
      have hks : k1 < c.works.length := by rw [E1.out]; exact hkl
      obtain ⟨b, o, ha, hbl, x0, x1, x2, x3, x4, x5, x6, x7⟩ := (H1.out.keep HB1.out).at k1 hks
      subst ha
      have HP := hid (wk_i64 (List.all_eq_true.1 (ok_of_works OK.out).1 _ (List.getElem_mem hks)))
      have hwr : wr.heap.size ≠ g1 := by omega
      go_wp2_with (refine wpList_append_own_at _ (by rfl) _ _ _ (by rfl) w.heap.size 140 inf _ 1 16 Tryd.underlying82 I1.out I2.out I3.out I4.out (by rfl) (by omega) (.slice (some ⟨g1, 0, none⟩) ls1.length cp1) ls1.length (ls1.map Ln.val) (by rfl) (World.ownsRow.alloc (World.ownsRow.alloc HL1.out.1 _) _) _ 1 1 [.iface 83 (.pointer (some ⟨wr.heap.size, 0, none⟩))] (by rfl) (by rfl) (cell_one_at (B := wr.heap.size + 1) (by simp)) (by intro u hu; simp at hu; subst hu; rfl) (by unfold maxLen; omega) (by omega) (by have := HB1.out.size; simp; omega) ?_; intro vd W5 hown' hgrow hnil hfr; obtain ⟨g2, c2', rfl⟩ := row_form hown')
      have hW : Below wr.heap.size wr ((wr.alloc (.cells #[.int .i64 c.works[k1].cpu, .int .i64 c.works[k1].mem, .int .i64 c.works[k1].min, .int .i64 c.works[k1].max, .int .i64 c.works[k1].target, .int .i64 c.works[k1].limit, .int .i64 c.works[k1].tol, .int .i64 c.works[k1].rank] 76)).alloc (.cells #[.iface 83 (.pointer (some ⟨wr.heap.size, 0, none⟩))] 140)) := by go_grown
      have hL5 : LinesAt W5 w.heap.size (.slice (some ⟨g2, 0, none⟩) (ls1.length + 1) c2') (ls1 ++ [cfgWork wr.heap.size c.works[k1].cpu c.works[k1].mem c.works[k1].min c.works[k1].max c.works[k1].target c.works[k1].limit c.works[k1].tol c.works[k1].rank]) :=
        LinesAt.push (HL1.out.keep hW) (cfgWork_ok wr.heap.size c.works[k1].cpu c.works[k1].mem c.works[k1].min c.works[k1].max c.works[k1].target c.works[k1].limit c.works[k1].tol c.works[k1].rank HP.out) ((Blk.new wr _ _).alloc _) (by simp [Value.ownBlock, cfgWork]; omega) hown' hgrow hfr
      have hX5 : Hid (Blk W5 w.heap.size #[.slice (some ⟨b, o, none⟩) lw cw, .slice ag lg cg, .int .i64 c.start, .int .i64 c.calm, .int .i64 c.idle, .int .i64 c.back] 31) := (HX1.out.below hW HX1.out.lt).grown hgrow (by simp [Value.ownBlock]; omega)
      have hB5 : Hid (Below w.heap.size w W5) := below_grown2 (HB1.out.trans (hW.mono HB1.out.size)) hgrow (by have := HB1.out.size; simp; omega) (fun g' e => by simp [Value.ownBlock] at e; omega)
      have hT5 : Hid ((ls1 ++ [cfgWork wr.heap.size c.works[k1].cpu c.works[k1].mem c.works[k1].min c.works[k1].max c.works[k1].target c.works[k1].limit c.works[k1].tol c.works[k1].rank]).map Ln.text = cx1 c (k1 + 1)) := by rw [Hid, List.map_append, HTX1.out, cx1_step c k1 hks]; rfl
      have hg2 : w.heap.size < g2 := by
        have := HB1.out.size
        rcases hfr with e | e <;> simp [Value.ownBlock] at e <;> omega
      refine ⟨⟨g2, c2', k1 + 1, ls1 ++ [cfgWork wr.heap.size c.works[k1].cpu c.works[k1].mem c.works[k1].min c.works[k1].max c.works[k1].target c.works[k1].limit c.works[k1].tol c.works[k1].rank], by simp, by simp, by omega, hg2, by rw [List.length_append]; exact hL5, hT5, hX5, hB5⟩, ?_⟩
      simp [intOf]
      omega
    · have hkn : ¬ (k1 : Int) < (lw : Int) := by omega
      have hkk : k1 = c.works.length := by rw [E1.out]; omega
      have HTY1 : Hid (ls1.map Ln.text = cx2 c 0) := by rw [Hid, HTX1.out, hkk, cx2]; simp
      have A := HX1.out.cell
      have zx := HX1.out.lt
      clear hkk HTX1
      clear hk hk0 hgl hll hkl
      go_wp2
      clear A zx
      go_loopw [3, 28] (fun o i w' => ∃ (g2 cp2 k2 : Nat) (ls2 : List Ln), o = .slice (some ⟨g2, 0, none⟩) ls2.length cp2 ∧ i = .int .i64 k2 ∧ k2 ≤ lg ∧ w.heap.size < g2 ∧ Hid (LinesAt w' w.heap.size (.slice (some ⟨g2, 0, none⟩) ls2.length cp2) ls2) ∧ Hid (ls2.map Ln.text = cx2 c k2) ∧ Hid (Blk w' w.heap.size #[.slice aw lw cw, .slice ag lg cg, .int .i64 c.start, .int .i64 c.calm, .int .i64 c.idle, .int .i64 c.back] 31) ∧ Hid (Below w.heap.size w w')) (fun _ i _ => lg - (intOf i).toNat)
      case atStart => exact ⟨g1, cp1, 0, ls1, rfl, rfl, Nat.zero_le _, hg1, HL1, HTY1, HX1, HB1⟩
      case round =>
        obtain ⟨g2, cp2, k2, ls2, rfl, rfl, hk, hg2, HL2, HTX2, HX2, HB2⟩ := hrel
        have hk0 : (0 : Int) ≤ (k2 : Int) := by omega
        have hgl := (HL2.out.1.lt g2 rfl).2
        have hll : ls2.length ≤ 10000000 := by
          have h1 := congrArg List.length HTX2.out
          rw [List.length_map, cx2_length c k2 (by rw [E2.out]; exact hk)] at h1
          have q1 := E1.out
          have q2 := E2.out
          omega
        by_cases hkl : k2 < lg
        · have hkn : (k2 : Int) < (lg : Int) := by omega
          have hks : k2 < c.groups.length := by rw [E2.out]; exact hkl
          obtain ⟨b, o, ha, hbl, x0, x1, x2, x3, x4⟩ := (H2.out.keep HB2.out).at k2 hks
          subst ha
          have HP := hid (gp_i64 (List.all_eq_true.1 (ok_of_groups OK.out).1 _ (List.getElem_mem hks)))
          have hwr : wr.heap.size ≠ g2 := by omega
          go_wp2_with (refine wpList_append_own_at _ (by rfl) _ _ _ (by rfl) w.heap.size 140 inf _ 1 16 Tryd.underlying82 I1.out I2.out I3.out I4.out (by rfl) (by omega) (.slice (some ⟨g2, 0, none⟩) ls2.length cp2) ls2.length (ls2.map Ln.val) (by rfl) (World.ownsRow.alloc (World.ownsRow.alloc HL2.out.1 _) _) _ 1 1 [.iface 84 (.pointer (some ⟨wr.heap.size, 0, none⟩))] (by rfl) (by rfl) (cell_one_at (B := wr.heap.size + 1) (by simp)) (by intro u hu; simp at hu; subst hu; rfl) (by unfold maxLen; omega) (by omega) (by have := HB2.out.size; simp; omega) ?_; intro vd W5 hown' hgrow hnil hfr; obtain ⟨g2, c2', rfl⟩ := row_form hown')
          have hW : Below wr.heap.size wr ((wr.alloc (.cells #[.int .i64 c.groups[k2].cpu, .int .i64 c.groups[k2].mem, .int .i64 c.groups[k2].min, .int .i64 c.groups[k2].max, .int .i64 c.groups[k2].boot] 78)).alloc (.cells #[.iface 84 (.pointer (some ⟨wr.heap.size, 0, none⟩))] 140)) := by go_grown
          have hL5 : LinesAt W5 w.heap.size (.slice (some ⟨g2, 0, none⟩) (ls2.length + 1) c2') (ls2 ++ [cfgGroup wr.heap.size c.groups[k2].cpu c.groups[k2].mem c.groups[k2].min c.groups[k2].max c.groups[k2].boot]) :=
            LinesAt.push (HL2.out.keep hW) (cfgGroup_ok wr.heap.size c.groups[k2].cpu c.groups[k2].mem c.groups[k2].min c.groups[k2].max c.groups[k2].boot HP.out) ((Blk.new wr _ _).alloc _) (by simp [Value.ownBlock, cfgGroup]; omega) hown' hgrow hfr
          have hX5 : Hid (Blk W5 w.heap.size #[.slice aw lw cw, .slice (some ⟨b, o, none⟩) lg cg, .int .i64 c.start, .int .i64 c.calm, .int .i64 c.idle, .int .i64 c.back] 31) := (HX2.out.below hW HX2.out.lt).grown hgrow (by simp [Value.ownBlock]; omega)
          have hB5 : Hid (Below w.heap.size w W5) := below_grown2 (HB2.out.trans (hW.mono HB2.out.size)) hgrow (by have := HB2.out.size; simp; omega) (fun g' e => by simp [Value.ownBlock] at e; omega)
          have hT5 : Hid ((ls2 ++ [cfgGroup wr.heap.size c.groups[k2].cpu c.groups[k2].mem c.groups[k2].min c.groups[k2].max c.groups[k2].boot]).map Ln.text = cx2 c (k2 + 1)) := by rw [Hid, List.map_append, HTX2.out, cx2_step c k2 hks]; rfl
          have hg2 : w.heap.size < g2 := by
            have := HB2.out.size
            rcases hfr with e | e <;> simp [Value.ownBlock] at e <;> omega
          refine ⟨⟨g2, c2', k2 + 1, ls2 ++ [cfgGroup wr.heap.size c.groups[k2].cpu c.groups[k2].mem c.groups[k2].min c.groups[k2].max c.groups[k2].boot], by simp, by simp, by omega, hg2, by rw [List.length_append]; exact hL5, hT5, hX5, hB5⟩, ?_⟩
          simp [intOf]
          omega
        · have hkn : ¬ (k2 : Int) < (lg : Int) := by omega
          have hkk : k2 = c.groups.length := by rw [E2.out]; omega
          have HTY2 : Hid (ls2.map Ln.text = cx2 c c.groups.length) := by rw [Hid, HTX2.out, hkk]
          clear hkk HTX2
          go_wp2_with fail
          refine (lines_any g2 cp2 ls2.length w.heap.size ls2 wr HL2.out rfl (hT.keep HB2.out) (by omega)).mono ?_
          rintro e w5 ⟨rfl, hb5⟩
          go_wp2
          go_ret
          exact ⟨by rw [hp.out, ← cx_cfgP, ← HTY2.out]; rfl, HB2.out.trans (hb5.mono HB2.out.size)⟩
end Go.Proofs.YtoceohacplmgnaaDoor
