/- What comes in: what is asked, whole. -/
import Derived.Test.YtifijknogofklaaIn
import Derived.Test.YtifijknogofklaaT
namespace Go.Proofs.Ytifijknogofklaa
open Go.RowKit Go.ChangeShapes Go.WideShapes Go.Deep

theorem list6 {α : Type} {l : List α} (h : l.length = 6) : ∃ a b c d e f, l = [a, b, c, d, e, f] := by
  match l, h with
  | [a, b, c, d, e, f], _ => exact ⟨a, b, c, d, e, f, rfl⟩

set_option maxRecDepth 100000 in
theorem open_cfg {H : Type} {enc : TypeId × Value → H} {W : World} {b0 : Nat} {v : Value} {d : DataW H} {p : List MemPlace} (hv : Value.okWide Try.prog W .any b0 39 v) (h : DataW.Trod enc Try.prog W 0 (fun _ => true) true 39 v d p) :
    ∃ aw lw cw ag lg cg, ∃ c : Cf, v = .agg #[.slice aw lw cw, .slice ag lg cg, .int .i64 c.start, .int .i64 c.calm, .int .i64 c.idle, .int .i64 c.back] ∧ c.works.length = lw ∧ lw ≤ 9223372036854775807 ∧ WorksAt W aw c.works ∧ c.groups.length = lg ∧ lg ≤ 9223372036854775807 ∧ GroupsAt W ag c.groups := by
  obtain ⟨cs, rfl, hsz⟩ := okWide_struct Try.underlying39 hv
  have hc : Try.prog.cellsOf 39 = 6 := by kernel_rfl
  have hc3 : Try.prog.cellsOf 3 = 1 := by kernel_rfl
  have hc46 : Try.prog.cellsOf 36 = 1 := by kernel_rfl
  have hc47 : Try.prog.cellsOf 37 = 1 := by kernel_rfl
  rw [hc] at hsz
  obtain ⟨l, rfl⟩ : ∃ l : List Value, cs = l.toArray := ⟨cs.toList, by simp⟩
  obtain ⟨c0, c1, c2, c3, c4, c5, rfl⟩ := list6 (by simpa using hsz)
  obtain ⟨fuel, hf0⟩ := h
  obtain ⟨xs, m, _, _, _, hxl, hf⟩ := DataW.trod_struct Try.underlying39 hf0
  have g0 : DataW.trod enc Try.prog W 0 (fun _ => true) true m 36 (([c0, c1, c2, c3, c4, c5].drop 0).take (Try.prog.cellsOf 36)) = xs[0]? := hf 0 _ rfl
  have g1 : DataW.trod enc Try.prog W 0 (fun _ => true) true m 37 (([c0, c1, c2, c3, c4, c5].drop 1).take (Try.prog.cellsOf 37)) = xs[1]? := hf 1 _ rfl
  have g2 : DataW.trod enc Try.prog W 0 (fun _ => true) true m 3 (([c0, c1, c2, c3, c4, c5].drop 2).take (Try.prog.cellsOf 3)) = xs[2]? := hf 2 _ rfl
  have g3 : DataW.trod enc Try.prog W 0 (fun _ => true) true m 3 (([c0, c1, c2, c3, c4, c5].drop 3).take (Try.prog.cellsOf 3)) = xs[3]? := hf 3 _ rfl
  have g4 : DataW.trod enc Try.prog W 0 (fun _ => true) true m 3 (([c0, c1, c2, c3, c4, c5].drop 4).take (Try.prog.cellsOf 3)) = xs[4]? := hf 4 _ rfl
  have g5 : DataW.trod enc Try.prog W 0 (fun _ => true) true m 3 (([c0, c1, c2, c3, c4, c5].drop 5).take (Try.prog.cellsOf 3)) = xs[5]? := hf 5 _ rfl
  rw [hc46, show xs[0]? = some (xs[0]'(by rw [hxl]; decide)) from List.getElem?_eq_getElem _] at g0
  rw [hc47, show xs[1]? = some (xs[1]'(by rw [hxl]; decide)) from List.getElem?_eq_getElem _] at g1
  rw [hc3, show xs[2]? = some (xs[2]'(by rw [hxl]; decide)) from List.getElem?_eq_getElem _] at g2
  rw [hc3, show xs[3]? = some (xs[3]'(by rw [hxl]; decide)) from List.getElem?_eq_getElem _] at g3
  rw [hc3, show xs[4]? = some (xs[4]'(by rw [hxl]; decide)) from List.getElem?_eq_getElem _] at g4
  rw [hc3, show xs[5]? = some (xs[5]'(by rw [hxl]; decide)) from List.getElem?_eq_getElem _] at g5
  obtain ⟨aw, lw, cw, l1, e0, a1, a2, a3⟩ := open_works g0
  obtain ⟨ag, lg, cg, l2, e1, b1, b2, b3⟩ := open_groups g1
  obtain ⟨z2, e2⟩ := int_cell g2
  obtain ⟨z3, e3⟩ := int_cell g3
  obtain ⟨z4, e4⟩ := int_cell g4
  obtain ⟨z5, e5⟩ := int_cell g5
  simp at e0 e1 e2 e3 e4 e5
  subst e0 e1 e2 e3 e4 e5
  unfold maxLen at a2 b2
  exact ⟨aw, lw, cw, ag, lg, cg, ⟨l1, l2, z2, z3, z4, z5⟩, rfl, a1, by omega, a3, b1, by omega, b3⟩
end Go.Proofs.Ytifijknogofklaa
