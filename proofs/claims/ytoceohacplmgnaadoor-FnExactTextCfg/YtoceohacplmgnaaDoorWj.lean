/- Texts: what there is, as the program writes it. -/
import Derived.Test.YtoceohacplmgnaaDoorWi
import Derived.Test.YtoceohacplmgnaaDoorTe
import Derived.Maps.AppendAt
import Derived.Deep.DeepCutAuto
namespace Go.Proofs.YtoceohacplmgnaaDoor
open Go.RowKit

theorem cell_one_at {W : World} {x : Value} {T : TypeId} {B : Nat} (hB : B = W.heap.size) : ∀ j u, [x][j]? = some u → (W.alloc (.cells #[x] T)).cell? ((⟨B, 0, none⟩ : Addr).add j) = some u := by subst hB; exact cell_one_new _ _ _
theorem info140 : (Tryd.prog.info? 140).map (fun i => (i.zero, i.size, i.bytes)) = some (some .nilIface, 1, 16) := by kernel_rfl
/-- A line laid behind the others. -/
theorem LinesAt.push {W W5 : World} {base : Nat} {v v2 : Value} {pre : List Ln} {l : Ln} (h : LinesAt W base v pre) (hl : LnOk l) (hB : Blk W l.r l.cs l.ty) (hne : v.ownBlock ≠ some l.r)
    (hown : W5.ownsRow base 140 1 v2 (pre.length + 1) (pre.map Ln.val ++ [l.val])) (hgrow : W.grownBy W5 v.ownBlock) (hfr : v2.ownBlock = v.ownBlock ∨ v2.ownBlock = some W.heap.size) : LinesAt W5 base v2 (pre ++ [l]) := by
  refine ⟨by rw [List.length_append, List.map_append]; exact hown, fun x hx => ?_⟩
  have key : LnOk x ∧ Blk W x.r x.cs x.ty ∧ v.ownBlock ≠ some x.r := by
    rcases List.mem_append.1 hx with hx | hx
    · exact h.2 x hx
    · obtain rfl : x = l := by simpa using hx
      exact ⟨hl, hB, hne⟩
  refine ⟨key.1, key.2.1.grown hgrow (fun e => key.2.2 e.symm), ?_⟩
  rcases hfr with e | e
  · rw [e]; exact key.2.2
  · rw [e]
    intro e2
    have := key.2.1.lt
    simp at e2
    omega
theorem LinesAt.one {W : World} {base : Nat} (l : Ln) (hl : LnOk l) (hB : Blk W l.r l.cs l.ty) (hb : base ≤ W.heap.size) : LinesAt (W.alloc (.cells #[l.val] 140)) base (.slice (some ⟨W.heap.size, 0, none⟩) 1 1) [l] := by
  refine ⟨⟨by simp, .inr ⟨W.heap.size, 1, #[l.val], rfl, hb, heap_alloc_new W _, Nat.le_refl _, by unfold maxLen; omega, by simp, by simp⟩⟩, fun x hx => ?_⟩
  obtain rfl : x = l := by simpa using hx
  refine ⟨hl, hB.alloc _, ?_⟩
  have := hB.lt
  simp [Value.ownBlock]
  omega
def wkT (x : Ws) : List UInt8 := lineB [119, 111, 114, 107] [x.want, x.load, x.low]
def gpT (x : Gs) : List UInt8 := lineB [103, 114, 111, 117, 112] [x.asked, x.rest, x.fails]
def ndT (x : Nd) : List UInt8 := lineB [110, 111, 100, 101] [x.id, x.group, x.boot, x.idle]
def pdT (x : Pd) : List UInt8 := lineB [112, 111, 100] [x.id, x.work, x.node, x.nom, x.wait]
def hdT (s : St) : List UInt8 := lineB [115, 116, 97, 116, 101] [s.nextPod, s.nextNode]
def tx1 (s : St) (k : Nat) : List (List UInt8) := hdT s :: (s.works.take k).map wkT
def tx2 (s : St) (k : Nat) : List (List UInt8) := tx1 s s.works.length ++ (s.groups.take k).map gpT
def tx3 (s : St) (k : Nat) : List (List UInt8) := tx2 s s.groups.length ++ (s.nodes.take k).map ndT
def tx4 (s : St) (k : Nat) : List (List UInt8) := tx3 s s.nodes.length ++ (s.pods.take k).map pdT
theorem tx1_step (s : St) (k : Nat) (h : k < s.works.length) : tx1 s (k + 1) = tx1 s k ++ [wkT s.works[k]] := by rw [tx1, tx1, List.take_succ_eq_append_getElem h, List.map_append]; rfl
theorem tx2_step (s : St) (k : Nat) (h : k < s.groups.length) : tx2 s (k + 1) = tx2 s k ++ [gpT s.groups[k]] := by rw [tx2, tx2, List.take_succ_eq_append_getElem h, List.map_append, List.append_assoc]; rfl
theorem tx3_step (s : St) (k : Nat) (h : k < s.nodes.length) : tx3 s (k + 1) = tx3 s k ++ [ndT s.nodes[k]] := by rw [tx3, tx3, List.take_succ_eq_append_getElem h, List.map_append, List.append_assoc]; rfl
theorem tx4_step (s : St) (k : Nat) (h : k < s.pods.length) : tx4 s (k + 1) = tx4 s k ++ [pdT s.pods[k]] := by rw [tx4, tx4, List.take_succ_eq_append_getElem h, List.map_append, List.append_assoc]; rfl
theorem tx1_length (s : St) (k : Nat) (h : k ≤ s.works.length) : (tx1 s k).length = 1 + k := by simp [tx1]; omega
theorem tx2_length (s : St) (k : Nat) (h : k ≤ s.groups.length) : (tx2 s k).length = 1 + s.works.length + k := by rw [tx2, List.length_append, tx1_length s _ (Nat.le_refl _)]; simp; omega
theorem tx3_length (s : St) (k : Nat) (h : k ≤ s.nodes.length) : (tx3 s k).length = 1 + s.works.length + s.groups.length + k := by rw [tx3, List.length_append, tx2_length s _ (Nat.le_refl _)]; simp; omega
theorem tx4_length (s : St) (k : Nat) (h : k ≤ s.pods.length) : (tx4 s k).length = 1 + s.works.length + s.groups.length + s.nodes.length + k := by rw [tx4, List.length_append, tx3_length s _ (Nat.le_refl _)]; simp; omega

set_option maxRecDepth 100000 in
set_option maxHeartbeats 8000000 in
/-- The program's TextState, as lines. -/
theorem textState_lines (v : Value) (s : St) (w : World) (h : StateAt w v s) (hI : StI s) (hT : Tab w) :
    Calls Tryd.prog 16 #[v] w fun e w' => e = .returned (str ([10].intercalate (tx4 s s.pods.length))) ∧ Below w.heap.size w w' := by
  obtain ⟨a1, l1, c1, a2, l2, c2, a3, l3, c3, a4, l4, c4, rfl, ⟨e1, m1, h1⟩, ⟨e2, m2, h2⟩, ⟨e3, m3, h3⟩, ⟨e4, m4, h4⟩⟩ := h
  obtain ⟨inf, i1, i2, i3, i4⟩ := info_parts info140
  have I1 := hid i1
  have I2 := hid i2
  have I3 := hid i3
  have I4 := hid i4
  have H1 := hid h1
  have E1 := hid e1
  have H2 := hid h2
  have E2 := hid e2
  have H3 := hid h3
  have E3 := hid e3
  have H4 := hid h4
  have E4 := hid e4
  have HI := hid hI
  clear h1 h2 h3 h4 e1 e2 e3 e4 hI i1 i2 i3 i4
  go_enter Tryd.func16, Tryd.ntmps16
  go_wp2_with fail
  refine wp_gen (fun W => Hid (Below w.heap.size w W) ∧ Hid (Blk W w.heap.size #[.slice a1 l1 c1, .slice a2 l2 c2, .slice a3 l3 c3, .slice a4 l4 c4, .int .i64 s.nextPod, .int .i64 s.nextNode] 48) ∧ ∃ ls : List Ln, ls.length = 1 ∧ Hid (LinesAt W w.heap.size (.slice (some ⟨w.heap.size + 1, 0, none⟩) 1 1) ls) ∧ Hid (ls.map Ln.text = tx1 s 0))
    ⟨by rw [Hid]; go_grown, ((Blk.new w _ _).alloc _), ?_⟩ ?_
  · have hl := LinesAt.one (W := w.alloc (.cells #[.slice a1 l1 c1, .slice a2 l2 c2, .slice a3 l3 c3, .slice a4 l4 c4, .int .i64 s.nextPod, .int .i64 s.nextNode] 48)) (base := w.heap.size) (stHead w.heap.size (.slice a1 l1 c1) (.slice a2 l2 c2) (.slice a3 l3 c3) (.slice a4 l4 c4) s.nextPod s.nextNode) (stHead_ok _ _ _ _ _ _ _ HI.out.1) (Blk.new w _ _) (by simp)
    exact ⟨[stHead w.heap.size (.slice a1 l1 c1) (.slice a2 l2 c2) (.slice a3 l3 c3) (.slice a4 l4 c4) s.nextPod s.nextNode], rfl, by rw [show (w.alloc (.cells #[.slice a1 l1 c1, .slice a2 l2 c2, .slice a3 l3 c3, .slice a4 l4 c4, .int .i64 s.nextPod, .int .i64 s.nextNode] 48)).heap.size = w.heap.size + 1 by simp] at hl; exact hl, rfl⟩
  rintro W ⟨HB0, HX0, ls0, hls0, HL0, HTX0⟩
  have A := HX0.out.cell
  have zx := HX0.out.lt
  go_wp2
  clear A zx
  go_loopw [3, 17] (fun o i w' => ∃ (g1 cp1 k1 : Nat) (ls1 : List Ln), o = .slice (some ⟨g1, 0, none⟩) ls1.length cp1 ∧ i = .int .i64 k1 ∧ k1 ≤ l3 ∧ w.heap.size < g1 ∧ Hid (LinesAt w' w.heap.size (.slice (some ⟨g1, 0, none⟩) ls1.length cp1) ls1) ∧ Hid (ls1.map Ln.text = tx1 s k1) ∧ Hid (Blk w' w.heap.size #[.slice a1 l1 c1, .slice a2 l2 c2, .slice a3 l3 c3, .slice a4 l4 c4, .int .i64 s.nextPod, .int .i64 s.nextNode] 48) ∧ Hid (Below w.heap.size w w')) (fun _ i _ => l3 - (intOf i).toNat)
  case atStart => exact ⟨w.heap.size + 1, 1, 0, ls0, by rw [hls0], rfl, Nat.zero_le _, by omega, by rw [hls0]; exact HL0, HTX0, HX0, HB0⟩
  case round =>
    obtain ⟨g1, cp1, k1, ls1, rfl, rfl, hk, hg1, HL1, HTX1, HX1, HB1⟩ := hrel
    have hk0 : (0 : Int) ≤ (k1 : Int) := by omega
    have hgl := (HL1.out.1.lt g1 rfl).2
    have hll : ls1.length ≤ 10000000 := by
      have h1 := congrArg List.length HTX1.out
      rw [List.length_map, tx1_length s k1 (by rw [E3.out]; exact hk)] at h1
      have q1 := E1.out
      have q2 := E2.out
      have q3 := E3.out
      have q4 := E4.out
      omega
    by_cases hkl : k1 < l3
    · have hkn : (k1 : Int) < (l3 : Int) := by omega
      have hks : k1 < s.works.length := by rw [E3.out]; exact hkl
      obtain ⟨b, o, ha, hbl, x0, x1, x2⟩ := (H3.out.keep HB1.out).at k1 hks
      subst ha
      have HP := hid (HI.out.2.1 s.works[k1] (List.getElem_mem hks))
      have hwr : wr.heap.size ≠ g1 := by omega
      go_wp2_with (refine wpList_append_own_at _ (by rfl) _ _ _ (by rfl) w.heap.size 140 inf _ 1 16 Tryd.underlying82 I1.out I2.out I3.out I4.out (by rfl) (by omega) (.slice (some ⟨g1, 0, none⟩) ls1.length cp1) ls1.length (ls1.map Ln.val) (by rfl) (World.ownsRow.alloc (World.ownsRow.alloc HL1.out.1 _) _) _ 1 1 [.iface 105 (.pointer (some ⟨wr.heap.size, 0, none⟩))] (by rfl) (by rfl) (cell_one_at (B := wr.heap.size + 1) (by simp)) (by intro u hu; simp at hu; subst hu; rfl) (by unfold maxLen; omega) (by omega) (by have := HB1.out.size; simp; omega) ?_; intro vd W5 hown' hgrow hnil hfr; obtain ⟨g2, c2', rfl⟩ := row_form hown')
      have hW : Below wr.heap.size wr ((wr.alloc (.cells #[.int .i64 s.works[k1].want, .int .i64 s.works[k1].load, .int .i64 s.works[k1].low] 93)).alloc (.cells #[.iface 105 (.pointer (some ⟨wr.heap.size, 0, none⟩))] 140)) := by go_grown
      have hL5 : LinesAt W5 w.heap.size (.slice (some ⟨g2, 0, none⟩) (ls1.length + 1) c2') (ls1 ++ [stWork wr.heap.size s.works[k1].want s.works[k1].load s.works[k1].low]) :=
        LinesAt.push (HL1.out.keep hW) (stWork_ok wr.heap.size s.works[k1].want s.works[k1].load s.works[k1].low HP.out) ((Blk.new wr _ _).alloc _) (by simp [Value.ownBlock, stWork]; omega) hown' hgrow hfr
      have hX5 : Hid (Blk W5 w.heap.size #[.slice a1 l1 c1, .slice a2 l2 c2, .slice (some ⟨b, o, none⟩) l3 c3, .slice a4 l4 c4, .int .i64 s.nextPod, .int .i64 s.nextNode] 48) := (HX1.out.below hW HX1.out.lt).grown hgrow (by simp [Value.ownBlock]; omega)
      have hB5 : Hid (Below w.heap.size w W5) := below_grown2 (HB1.out.trans (hW.mono HB1.out.size)) hgrow (by have := HB1.out.size; simp; omega) (fun g' e => by simp [Value.ownBlock] at e; omega)
      have hT5 : Hid ((ls1 ++ [stWork wr.heap.size s.works[k1].want s.works[k1].load s.works[k1].low]).map Ln.text = tx1 s (k1 + 1)) := by rw [Hid, List.map_append, HTX1.out, tx1_step s k1 hks]; rfl
      have hg2 : w.heap.size < g2 := by
        have := HB1.out.size
        rcases hfr with e | e <;> simp [Value.ownBlock] at e <;> omega
      refine ⟨⟨g2, c2', k1 + 1, ls1 ++ [stWork wr.heap.size s.works[k1].want s.works[k1].load s.works[k1].low], by simp, by simp, by omega, hg2, by rw [List.length_append]; exact hL5, hT5, hX5, hB5⟩, ?_⟩
      simp [intOf]
      omega
    · have hkn : ¬ (k1 : Int) < (l3 : Int) := by omega
      have hkk : k1 = s.works.length := by rw [E3.out]; omega
      have HTY1 : Hid (ls1.map Ln.text = tx2 s 0) := by rw [Hid, HTX1.out, hkk, tx2]; simp
      have A := HX1.out.cell
      have zx := HX1.out.lt
      clear hkk HTX1
      clear hk hk0 hgl hll hkl
      go_wp2
      clear A zx
      go_loopw [3, 29] (fun o i w' => ∃ (g2 cp2 k2 : Nat) (ls2 : List Ln), o = .slice (some ⟨g2, 0, none⟩) ls2.length cp2 ∧ i = .int .i64 k2 ∧ k2 ≤ l4 ∧ w.heap.size < g2 ∧ Hid (LinesAt w' w.heap.size (.slice (some ⟨g2, 0, none⟩) ls2.length cp2) ls2) ∧ Hid (ls2.map Ln.text = tx2 s k2) ∧ Hid (Blk w' w.heap.size #[.slice a1 l1 c1, .slice a2 l2 c2, .slice a3 l3 c3, .slice a4 l4 c4, .int .i64 s.nextPod, .int .i64 s.nextNode] 48) ∧ Hid (Below w.heap.size w w')) (fun _ i _ => l4 - (intOf i).toNat)
      case atStart => exact ⟨g1, cp1, 0, ls1, rfl, rfl, Nat.zero_le _, hg1, HL1, HTY1, HX1, HB1⟩
      case round =>
        obtain ⟨g2, cp2, k2, ls2, rfl, rfl, hk, hg2, HL2, HTX2, HX2, HB2⟩ := hrel
        have hk0 : (0 : Int) ≤ (k2 : Int) := by omega
        have hgl := (HL2.out.1.lt g2 rfl).2
        have hll : ls2.length ≤ 10000000 := by
          have h1 := congrArg List.length HTX2.out
          rw [List.length_map, tx2_length s k2 (by rw [E4.out]; exact hk)] at h1
          have q1 := E1.out
          have q2 := E2.out
          have q3 := E3.out
          have q4 := E4.out
          omega
        by_cases hkl : k2 < l4
        · have hkn : (k2 : Int) < (l4 : Int) := by omega
          have hks : k2 < s.groups.length := by rw [E4.out]; exact hkl
          obtain ⟨b, o, ha, hbl, x0, x1, x2⟩ := (H4.out.keep HB2.out).at k2 hks
          subst ha
          have HP := hid (HI.out.2.2.1 s.groups[k2] (List.getElem_mem hks))
          have hwr : wr.heap.size ≠ g2 := by omega
          go_wp2_with (refine wpList_append_own_at _ (by rfl) _ _ _ (by rfl) w.heap.size 140 inf _ 1 16 Tryd.underlying82 I1.out I2.out I3.out I4.out (by rfl) (by omega) (.slice (some ⟨g2, 0, none⟩) ls2.length cp2) ls2.length (ls2.map Ln.val) (by rfl) (World.ownsRow.alloc (World.ownsRow.alloc HL2.out.1 _) _) _ 1 1 [.iface 106 (.pointer (some ⟨wr.heap.size, 0, none⟩))] (by rfl) (by rfl) (cell_one_at (B := wr.heap.size + 1) (by simp)) (by intro u hu; simp at hu; subst hu; rfl) (by unfold maxLen; omega) (by omega) (by have := HB2.out.size; simp; omega) ?_; intro vd W5 hown' hgrow hnil hfr; obtain ⟨g2, c2', rfl⟩ := row_form hown')
          have hW : Below wr.heap.size wr ((wr.alloc (.cells #[.int .i64 s.groups[k2].asked, .int .i64 s.groups[k2].rest, .int .i64 s.groups[k2].fails] 95)).alloc (.cells #[.iface 106 (.pointer (some ⟨wr.heap.size, 0, none⟩))] 140)) := by go_grown
          have hL5 : LinesAt W5 w.heap.size (.slice (some ⟨g2, 0, none⟩) (ls2.length + 1) c2') (ls2 ++ [stGroup wr.heap.size s.groups[k2].asked s.groups[k2].rest s.groups[k2].fails]) :=
            LinesAt.push (HL2.out.keep hW) (stGroup_ok wr.heap.size s.groups[k2].asked s.groups[k2].rest s.groups[k2].fails HP.out) ((Blk.new wr _ _).alloc _) (by simp [Value.ownBlock, stGroup]; omega) hown' hgrow hfr
          have hX5 : Hid (Blk W5 w.heap.size #[.slice a1 l1 c1, .slice a2 l2 c2, .slice a3 l3 c3, .slice (some ⟨b, o, none⟩) l4 c4, .int .i64 s.nextPod, .int .i64 s.nextNode] 48) := (HX2.out.below hW HX2.out.lt).grown hgrow (by simp [Value.ownBlock]; omega)
          have hB5 : Hid (Below w.heap.size w W5) := below_grown2 (HB2.out.trans (hW.mono HB2.out.size)) hgrow (by have := HB2.out.size; simp; omega) (fun g' e => by simp [Value.ownBlock] at e; omega)
          have hT5 : Hid ((ls2 ++ [stGroup wr.heap.size s.groups[k2].asked s.groups[k2].rest s.groups[k2].fails]).map Ln.text = tx2 s (k2 + 1)) := by rw [Hid, List.map_append, HTX2.out, tx2_step s k2 hks]; rfl
          have hg2 : w.heap.size < g2 := by
            have := HB2.out.size
            rcases hfr with e | e <;> simp [Value.ownBlock] at e <;> omega
          refine ⟨⟨g2, c2', k2 + 1, ls2 ++ [stGroup wr.heap.size s.groups[k2].asked s.groups[k2].rest s.groups[k2].fails], by simp, by simp, by omega, hg2, by rw [List.length_append]; exact hL5, hT5, hX5, hB5⟩, ?_⟩
          simp [intOf]
          omega
        · have hkn : ¬ (k2 : Int) < (l4 : Int) := by omega
          have hkk : k2 = s.groups.length := by rw [E4.out]; omega
          have HTY2 : Hid (ls2.map Ln.text = tx3 s 0) := by rw [Hid, HTX2.out, hkk, tx3]; simp
          have A := HX2.out.cell
          have zx := HX2.out.lt
          clear hkk HTX2
          clear hk hk0 hgl hll hkl
          go_wp2
          clear A zx
          go_loopw [3, 41] (fun o i w' => ∃ (g3 cp3 k3 : Nat) (ls3 : List Ln), o = .slice (some ⟨g3, 0, none⟩) ls3.length cp3 ∧ i = .int .i64 k3 ∧ k3 ≤ l2 ∧ w.heap.size < g3 ∧ Hid (LinesAt w' w.heap.size (.slice (some ⟨g3, 0, none⟩) ls3.length cp3) ls3) ∧ Hid (ls3.map Ln.text = tx3 s k3) ∧ Hid (Blk w' w.heap.size #[.slice a1 l1 c1, .slice a2 l2 c2, .slice a3 l3 c3, .slice a4 l4 c4, .int .i64 s.nextPod, .int .i64 s.nextNode] 48) ∧ Hid (Below w.heap.size w w')) (fun _ i _ => l2 - (intOf i).toNat)
          case atStart => exact ⟨g2, cp2, 0, ls2, rfl, rfl, Nat.zero_le _, hg2, HL2, HTY2, HX2, HB2⟩
          case round =>
            obtain ⟨g3, cp3, k3, ls3, rfl, rfl, hk, hg3, HL3, HTX3, HX3, HB3⟩ := hrel
            have hk0 : (0 : Int) ≤ (k3 : Int) := by omega
            have hgl := (HL3.out.1.lt g3 rfl).2
            have hll : ls3.length ≤ 10000000 := by
              have h1 := congrArg List.length HTX3.out
              rw [List.length_map, tx3_length s k3 (by rw [E2.out]; exact hk)] at h1
              have q1 := E1.out
              have q2 := E2.out
              have q3 := E3.out
              have q4 := E4.out
              omega
            by_cases hkl : k3 < l2
            · have hkn : (k3 : Int) < (l2 : Int) := by omega
              have hks : k3 < s.nodes.length := by rw [E2.out]; exact hkl
              obtain ⟨b, o, ha, hbl, x0, x1, x2, x3⟩ := (H2.out.keep HB3.out).at k3 hks
              subst ha
              have HP := hid (HI.out.2.2.2.1 s.nodes[k3] (List.getElem_mem hks))
              have hwr : wr.heap.size ≠ g3 := by omega
              go_wp2_with (refine wpList_append_own_at _ (by rfl) _ _ _ (by rfl) w.heap.size 140 inf _ 1 16 Tryd.underlying82 I1.out I2.out I3.out I4.out (by rfl) (by omega) (.slice (some ⟨g3, 0, none⟩) ls3.length cp3) ls3.length (ls3.map Ln.val) (by rfl) (World.ownsRow.alloc (World.ownsRow.alloc HL3.out.1 _) _) _ 1 1 [.iface 107 (.pointer (some ⟨wr.heap.size, 0, none⟩))] (by rfl) (by rfl) (cell_one_at (B := wr.heap.size + 1) (by simp)) (by intro u hu; simp at hu; subst hu; rfl) (by unfold maxLen; omega) (by omega) (by have := HB3.out.size; simp; omega) ?_; intro vd W5 hown' hgrow hnil hfr; obtain ⟨g2, c2', rfl⟩ := row_form hown')
              have hW : Below wr.heap.size wr ((wr.alloc (.cells #[.int .i64 s.nodes[k3].id, .int .i64 s.nodes[k3].group, .int .i64 s.nodes[k3].boot, .int .i64 s.nodes[k3].idle] 97)).alloc (.cells #[.iface 107 (.pointer (some ⟨wr.heap.size, 0, none⟩))] 140)) := by go_grown
              have hL5 : LinesAt W5 w.heap.size (.slice (some ⟨g2, 0, none⟩) (ls3.length + 1) c2') (ls3 ++ [stNode wr.heap.size s.nodes[k3].id s.nodes[k3].group s.nodes[k3].boot s.nodes[k3].idle]) :=
                LinesAt.push (HL3.out.keep hW) (stNode_ok wr.heap.size s.nodes[k3].id s.nodes[k3].group s.nodes[k3].boot s.nodes[k3].idle HP.out) ((Blk.new wr _ _).alloc _) (by simp [Value.ownBlock, stNode]; omega) hown' hgrow hfr
              have hX5 : Hid (Blk W5 w.heap.size #[.slice a1 l1 c1, .slice (some ⟨b, o, none⟩) l2 c2, .slice a3 l3 c3, .slice a4 l4 c4, .int .i64 s.nextPod, .int .i64 s.nextNode] 48) := (HX3.out.below hW HX3.out.lt).grown hgrow (by simp [Value.ownBlock]; omega)
              have hB5 : Hid (Below w.heap.size w W5) := below_grown2 (HB3.out.trans (hW.mono HB3.out.size)) hgrow (by have := HB3.out.size; simp; omega) (fun g' e => by simp [Value.ownBlock] at e; omega)
              have hT5 : Hid ((ls3 ++ [stNode wr.heap.size s.nodes[k3].id s.nodes[k3].group s.nodes[k3].boot s.nodes[k3].idle]).map Ln.text = tx3 s (k3 + 1)) := by rw [Hid, List.map_append, HTX3.out, tx3_step s k3 hks]; rfl
              have hg2 : w.heap.size < g2 := by
                have := HB3.out.size
                rcases hfr with e | e <;> simp [Value.ownBlock] at e <;> omega
              refine ⟨⟨g2, c2', k3 + 1, ls3 ++ [stNode wr.heap.size s.nodes[k3].id s.nodes[k3].group s.nodes[k3].boot s.nodes[k3].idle], by simp, by simp, by omega, hg2, by rw [List.length_append]; exact hL5, hT5, hX5, hB5⟩, ?_⟩
              simp [intOf]
              omega
            · have hkn : ¬ (k3 : Int) < (l2 : Int) := by omega
              have hkk : k3 = s.nodes.length := by rw [E2.out]; omega
              have HTY3 : Hid (ls3.map Ln.text = tx4 s 0) := by rw [Hid, HTX3.out, hkk, tx4]; simp
              have A := HX3.out.cell
              have zx := HX3.out.lt
              clear hkk HTX3
              clear hk hk0 hgl hll hkl
              go_wp2
              clear A zx
              go_loopw [3, 53] (fun o i w' => ∃ (g4 cp4 k4 : Nat) (ls4 : List Ln), o = .slice (some ⟨g4, 0, none⟩) ls4.length cp4 ∧ i = .int .i64 k4 ∧ k4 ≤ l1 ∧ w.heap.size < g4 ∧ Hid (LinesAt w' w.heap.size (.slice (some ⟨g4, 0, none⟩) ls4.length cp4) ls4) ∧ Hid (ls4.map Ln.text = tx4 s k4) ∧ Hid (Blk w' w.heap.size #[.slice a1 l1 c1, .slice a2 l2 c2, .slice a3 l3 c3, .slice a4 l4 c4, .int .i64 s.nextPod, .int .i64 s.nextNode] 48) ∧ Hid (Below w.heap.size w w')) (fun _ i _ => l1 - (intOf i).toNat)
              case atStart => exact ⟨g3, cp3, 0, ls3, rfl, rfl, Nat.zero_le _, hg3, HL3, HTY3, HX3, HB3⟩
              case round =>
                obtain ⟨g4, cp4, k4, ls4, rfl, rfl, hk, hg4, HL4, HTX4, HX4, HB4⟩ := hrel
                have hk0 : (0 : Int) ≤ (k4 : Int) := by omega
                have hgl := (HL4.out.1.lt g4 rfl).2
                have hll : ls4.length ≤ 10000000 := by
                  have h1 := congrArg List.length HTX4.out
                  rw [List.length_map, tx4_length s k4 (by rw [E1.out]; exact hk)] at h1
                  have q1 := E1.out
                  have q2 := E2.out
                  have q3 := E3.out
                  have q4 := E4.out
                  omega
                by_cases hkl : k4 < l1
                · have hkn : (k4 : Int) < (l1 : Int) := by omega
                  have hks : k4 < s.pods.length := by rw [E1.out]; exact hkl
                  obtain ⟨b, o, ha, hbl, x0, x1, x2, x3, x4⟩ := (H1.out.keep HB4.out).at k4 hks
                  subst ha
                  have HP := hid (HI.out.2.2.2.2 s.pods[k4] (List.getElem_mem hks))
                  have hwr : wr.heap.size ≠ g4 := by omega
                  go_wp2_with (refine wpList_append_own_at _ (by rfl) _ _ _ (by rfl) w.heap.size 140 inf _ 1 16 Tryd.underlying82 I1.out I2.out I3.out I4.out (by rfl) (by omega) (.slice (some ⟨g4, 0, none⟩) ls4.length cp4) ls4.length (ls4.map Ln.val) (by rfl) (World.ownsRow.alloc (World.ownsRow.alloc HL4.out.1 _) _) _ 1 1 [.iface 108 (.pointer (some ⟨wr.heap.size, 0, none⟩))] (by rfl) (by rfl) (cell_one_at (B := wr.heap.size + 1) (by simp)) (by intro u hu; simp at hu; subst hu; rfl) (by unfold maxLen; omega) (by omega) (by have := HB4.out.size; simp; omega) ?_; intro vd W5 hown' hgrow hnil hfr; obtain ⟨g2, c2', rfl⟩ := row_form hown')
                  have hW : Below wr.heap.size wr ((wr.alloc (.cells #[.int .i64 s.pods[k4].id, .int .i64 s.pods[k4].work, .int .i64 s.pods[k4].node, .int .i64 s.pods[k4].nom, .int .i64 s.pods[k4].wait] 99)).alloc (.cells #[.iface 108 (.pointer (some ⟨wr.heap.size, 0, none⟩))] 140)) := by go_grown
                  have hL5 : LinesAt W5 w.heap.size (.slice (some ⟨g2, 0, none⟩) (ls4.length + 1) c2') (ls4 ++ [stPod wr.heap.size s.pods[k4].id s.pods[k4].work s.pods[k4].node s.pods[k4].nom s.pods[k4].wait]) :=
                    LinesAt.push (HL4.out.keep hW) (stPod_ok wr.heap.size s.pods[k4].id s.pods[k4].work s.pods[k4].node s.pods[k4].nom s.pods[k4].wait HP.out) ((Blk.new wr _ _).alloc _) (by simp [Value.ownBlock, stPod]; omega) hown' hgrow hfr
                  have hX5 : Hid (Blk W5 w.heap.size #[.slice (some ⟨b, o, none⟩) l1 c1, .slice a2 l2 c2, .slice a3 l3 c3, .slice a4 l4 c4, .int .i64 s.nextPod, .int .i64 s.nextNode] 48) := (HX4.out.below hW HX4.out.lt).grown hgrow (by simp [Value.ownBlock]; omega)
                  have hB5 : Hid (Below w.heap.size w W5) := below_grown2 (HB4.out.trans (hW.mono HB4.out.size)) hgrow (by have := HB4.out.size; simp; omega) (fun g' e => by simp [Value.ownBlock] at e; omega)
                  have hT5 : Hid ((ls4 ++ [stPod wr.heap.size s.pods[k4].id s.pods[k4].work s.pods[k4].node s.pods[k4].nom s.pods[k4].wait]).map Ln.text = tx4 s (k4 + 1)) := by rw [Hid, List.map_append, HTX4.out, tx4_step s k4 hks]; rfl
                  have hg2 : w.heap.size < g2 := by
                    have := HB4.out.size
                    rcases hfr with e | e <;> simp [Value.ownBlock] at e <;> omega
                  refine ⟨⟨g2, c2', k4 + 1, ls4 ++ [stPod wr.heap.size s.pods[k4].id s.pods[k4].work s.pods[k4].node s.pods[k4].nom s.pods[k4].wait], by simp, by simp, by omega, hg2, by rw [List.length_append]; exact hL5, hT5, hX5, hB5⟩, ?_⟩
                  simp [intOf]
                  omega
                · have hkn : ¬ (k4 : Int) < (l1 : Int) := by omega
                  have hkk : k4 = s.pods.length := by rw [E1.out]; omega
                  have HTY4 : Hid (ls4.map Ln.text = tx4 s s.pods.length) := by rw [Hid, HTX4.out, hkk]
                  clear hkk HTX4
                  go_wp2_with fail
                  refine (lines_any g4 cp4 ls4.length w.heap.size ls4 wr HL4.out rfl (hT.keep HB4.out) (by omega)).mono ?_
                  rintro e w5 ⟨rfl, hb5⟩
                  go_wp2
                  go_ret
                  exact ⟨by rw [← HTY4.out]; rfl, HB4.out.trans (hb5.mono HB4.out.size)⟩
end Go.Proofs.YtoceohacplmgnaaDoor
