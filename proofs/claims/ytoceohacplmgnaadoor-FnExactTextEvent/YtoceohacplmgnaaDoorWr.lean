/- Texts: the exact law of TextEvent: the walk, and what comes in. -/
import Derived.Test.YtoceohacplmgnaaDoorWq
import Derived.Test.YtoceohacplmgnaaDoorWf
namespace Go.Proofs.YtoceohacplmgnaaDoor
open Go.RowKit Go.ChangeShapes Go.WideShapes Go.Deep

theorem toLoopEvent_any (k x y : Int) (w : World) :
    Calls Tryd.prog 19 #[.agg #[.int .i64 k, .int .i64 x, .int .i64 y]] w fun e w' => e = .returned (.agg #[.int .i64 k, .int .i64 x, .int .i64 y]) ∧ Below w.heap.size w w' := by
  go_enter Tryd.func19, Tryd.ntmps19
  go_wp2
  exact bodyPost_ret (v := .agg #[.int .i64 k, .int .i64 x, .int .i64 y]) (by simp [results, Tryd.results19, go_sem]) rfl ⟨rfl, by go_grown⟩
set_option maxRecDepth 100000 in
set_option maxHeartbeats 1000000 in
theorem exTextEvent (k x y : Int) (w : World) (hx : I64 x) (hy : I64 y) (hT : Tab w) :
    Calls Tryd.prog 5 #[.agg #[.int .i64 k, .int .i64 x, .int .i64 y]] w fun e w' => e = .returned (.bool true) ∧ Below w.heap.size w w' := by
  go_enter Tryd.func5, Tryd.ntmps5
  go_wp2_with fail
  refine (toLoopEvent_any k x y _).mono ?_
  rintro e w1 ⟨rfl, hb1⟩
  have hB1 := below_box _ _ hb1
  have hl1 : w.heap.size < w1.heap.size := by have := hb1.size; simp at this; omega
  have c1 : ∀ j v, (w.alloc (.cells #[.int .i64 k, .int .i64 x, .int .i64 y] 53)).cell? ⟨w.heap.size, j, none⟩ = some v → w1.cell? ⟨w.heap.size, j, none⟩ = some v := fun j v h => by rw [hb1.cell (p := ⟨w.heap.size, j, none⟩) (by simp)]; exact h
  have C1 := hid c1
  have H1 := hid hB1
  clear c1 hb1 hB1
  go_wp2_with fail
  refine (sTextEvent_any k x y w1 hx hy).mono ?_
  rintro e w2 ⟨rfl, hb2⟩
  have hl2 : w.heap.size < w2.heap.size := Nat.lt_of_lt_of_le hl1 hb2.size
  have b0 : w2.cell? ⟨w.heap.size, 0, none⟩ = some (.int .i64 k) := by rw [below_cell hb2 hl1]; exact C1.out 0 _ (by simp [go_sem])
  have b1 : w2.cell? ⟨w.heap.size, 1, none⟩ = some (.int .i64 x) := by rw [below_cell hb2 hl1]; exact C1.out 1 _ (by simp [go_sem])
  have b2 : w2.cell? ⟨w.heap.size, 2, none⟩ = some (.int .i64 y) := by rw [below_cell hb2 hl1]; exact C1.out 2 _ (by simp [go_sem])
  have H2 := hid (H1.out.trans (hb2.mono H1.out.size))
  clear H1 C1 hb2
  go_wp2_with fail
  refine (toLoopEvent_any k x y _).mono ?_
  rintro e w3 ⟨rfl, hb3⟩
  have H3 := hid (H2.out.trans (hb3.mono H2.out.size))
  clear H2 hb3 b0 b1 b2
  go_wp2_with fail
  refine (textEvent_any k x y w3 hx hy (hT.keep H3.out)).mono ?_
  rintro e w4 ⟨rfl, hb4⟩
  go_wp2
  go_ret
  exact ⟨rfl, H3.out.trans (hb4.mono H3.out.size)⟩

set_option maxRecDepth 100000 in
/-- An event that comes in. -/
theorem open_event {H : Type} {enc : TypeId × Value → H} {W : World} {b0 : Nat} {v : Value} {d : DataW H} {p : List MemPlace} (hv : Value.okWide Tryd.prog W .any b0 53 v) (h : DataW.Trod enc Tryd.prog W 0 (fun _ => true) true 53 v d p) :
    ∃ k x y : Int, v = .agg #[.int .i64 k, .int .i64 x, .int .i64 y] ∧ I64 k ∧ I64 x ∧ I64 y := by
  obtain ⟨cs, rfl, hsz⟩ := okWide_struct Tryd.underlying53 hv
  have hc : Tryd.prog.cellsOf 53 = 3 := by kernel_rfl
  have hc3 : Tryd.prog.cellsOf 3 = 1 := by kernel_rfl
  rw [hc] at hsz
  obtain ⟨l, rfl⟩ : ∃ l : List Value, cs = l.toArray := ⟨cs.toList, by simp⟩
  obtain ⟨c0, c1, c2, rfl⟩ := list3 (by simpa using hsz)
  obtain ⟨fuel, hf0⟩ := h
  obtain ⟨xs, m, _, _, _, hxl, hf⟩ := DataW.trod_struct Tryd.underlying53 hf0
  have g0 : DataW.trod enc Tryd.prog W 0 (fun _ => true) true m 3 (([c0, c1, c2].drop 0).take (Tryd.prog.cellsOf 3)) = xs[0]? := hf 0 _ rfl
  have g1 : DataW.trod enc Tryd.prog W 0 (fun _ => true) true m 3 (([c0, c1, c2].drop 1).take (Tryd.prog.cellsOf 3)) = xs[1]? := hf 1 _ rfl
  have g2 : DataW.trod enc Tryd.prog W 0 (fun _ => true) true m 3 (([c0, c1, c2].drop 2).take (Tryd.prog.cellsOf 3)) = xs[2]? := hf 2 _ rfl
  rw [hc3, show xs[0]? = some (xs[0]'(by rw [hxl]; decide)) from List.getElem?_eq_getElem _] at g0
  rw [hc3, show xs[1]? = some (xs[1]'(by rw [hxl]; decide)) from List.getElem?_eq_getElem _] at g1
  rw [hc3, show xs[2]? = some (xs[2]'(by rw [hxl]; decide)) from List.getElem?_eq_getElem _] at g2
  obtain ⟨z0, e0, h0⟩ := int_cellB g0
  obtain ⟨z1, e1, h1⟩ := int_cellB g1
  obtain ⟨z2, e2, h2⟩ := int_cellB g2
  simp at e0 e1 e2
  subst e0 e1 e2
  exact ⟨z0, z1, z2, rfl, h0, h1, h2⟩
end Go.Proofs.YtoceohacplmgnaaDoor
