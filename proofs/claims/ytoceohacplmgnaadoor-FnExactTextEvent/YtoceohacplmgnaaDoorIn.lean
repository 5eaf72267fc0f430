/- What comes in: what is asked, read as data. -/
import Derived.Test.YtoceohacplmgnaaDoorR
import Derived.Deep.Slices
import Derived.ProofKit
namespace Go.Proofs.YtoceohacplmgnaaDoor
open Go.RowKit Go.ChangeShapes Go.WideShapes Go.Deep

instance : Inhabited Wk := ⟨⟨0, 0, 0, 0, 0, 0, 0, 0⟩⟩
instance : Inhabited Gp := ⟨⟨0, 0, 0, 0, 0⟩⟩

theorem list8 {α : Type} {l : List α} (h : l.length = 8) : ∃ a b c d e f g k, l = [a, b, c, d, e, f, g, k] := by
  match l, h with
  | [a, b, c, d, e, f, g, k], _ => exact ⟨a, b, c, d, e, f, g, k, rfl⟩
theorem list5 {α : Type} {l : List α} (h : l.length = 5) : ∃ a b c d e, l = [a, b, c, d, e] := by
  match l, h with
  | [a, b, c, d, e], _ => exact ⟨a, b, c, d, e, rfl⟩
theorem int_cell {H : Type} {enc : TypeId × Value → H} {w : World} {base : Nat} {sp : Nat → Bool} {held : Bool} {n : Nat} {cs : List Value} {x : DataW H × List MemPlace} (h : DataW.trod enc Tryd.prog w base sp held n 3 cs = some x) : ∃ z : Int, cs = [.int .i64 z] := by
  obtain ⟨z, e, _, _⟩ := DataW.trod_int Tryd.underlying3 h
  exact ⟨z, e⟩
theorem add_mid' (b o j : Nat) : (⟨b, o, none⟩ : Addr).add j = ⟨b, o + j, none⟩ := by unfold Addr.add; split <;> simp_all
theorem lt_of_cell {w : World} {b o : Nat} {v : Value} (h : w.cell? ⟨b, o, none⟩ = some v) : b < w.heap.size := by
  unfold World.cell? at h
  rcases Nat.lt_or_ge b w.heap.size with h' | h'
  · exact h'
  · simp [Array.getElem?_eq_none h'] at h
theorem cells_at {w : World} {a : Addr} {n : Nat} {cs : List Value} (h : w.cells? 0 a n = some cs) (j : Nat) (hj : j < cs.length) : w.cell? (a.add j) = some cs[j] := by
  unfold World.cells? at h
  rw [if_pos (Nat.zero_le _)] at h
  have hl := mapM_some_length h
  have hn : j < n := by rw [List.length_range] at hl; omega
  have := mapM_some_get h j j (by rw [List.getElem?_range hn])
  rw [this, List.getElem?_eq_getElem hj]

theorem work_cells {H : Type} {enc : TypeId × Value → H} {w : World} {sp : Nat → Bool} {held : Bool} {n : Nat} {cs : List Value} {x : DataW H × List MemPlace} (h : DataW.trod enc Tryd.prog w 0 sp held n 132 cs = some x) : ∃ k : Wk, cs = [.int .i64 k.cpu, .int .i64 k.mem, .int .i64 k.min, .int .i64 k.max, .int .i64 k.target, .int .i64 k.limit, .int .i64 k.tol, .int .i64 k.rank] := by
  obtain ⟨xs, m, _, _, hl, hxl, hf⟩ := DataW.trod_struct Tryd.underlying132 h
  have hc : Tryd.prog.cellsOf 132 = 8 := by kernel_rfl
  have hc3 : Tryd.prog.cellsOf 3 = 1 := by kernel_rfl
  have hc92 : Tryd.prog.cellsOf 130 = 2 := by kernel_rfl
  rw [hc] at hl
  obtain ⟨c0, c1, c2, c3, c4, c5, c6, c7, rfl⟩ := list8 hl
  have g1 : DataW.trod enc Tryd.prog w 0 sp held m 3 (([c0, c1, c2, c3, c4, c5, c6, c7].drop 2).take (Tryd.prog.cellsOf 3)) = xs[1]? := hf 1 _ rfl
  have g2 : DataW.trod enc Tryd.prog w 0 sp held m 3 (([c0, c1, c2, c3, c4, c5, c6, c7].drop 3).take (Tryd.prog.cellsOf 3)) = xs[2]? := hf 2 _ rfl
  have g3 : DataW.trod enc Tryd.prog w 0 sp held m 3 (([c0, c1, c2, c3, c4, c5, c6, c7].drop 4).take (Tryd.prog.cellsOf 3)) = xs[3]? := hf 3 _ rfl
  have g4 : DataW.trod enc Tryd.prog w 0 sp held m 3 (([c0, c1, c2, c3, c4, c5, c6, c7].drop 5).take (Tryd.prog.cellsOf 3)) = xs[4]? := hf 4 _ rfl
  have g5 : DataW.trod enc Tryd.prog w 0 sp held m 3 (([c0, c1, c2, c3, c4, c5, c6, c7].drop 6).take (Tryd.prog.cellsOf 3)) = xs[5]? := hf 5 _ rfl
  have g6 : DataW.trod enc Tryd.prog w 0 sp held m 3 (([c0, c1, c2, c3, c4, c5, c6, c7].drop 7).take (Tryd.prog.cellsOf 3)) = xs[6]? := hf 6 _ rfl
  have g0 : DataW.trod enc Tryd.prog w 0 sp held m 130 (([c0, c1, c2, c3, c4, c5, c6, c7].drop 0).take (Tryd.prog.cellsOf 130)) = xs[0]? := hf 0 _ rfl
  rw [hc3] at g1
  have hx1 : xs[1]? = some (xs[1]'(by rw [hxl]; decide)) := List.getElem?_eq_getElem _
  rw [hx1] at g1
  obtain ⟨y1, e1⟩ := int_cell g1
  simp at e1
  subst e1
  rw [hc3] at g2
  have hx2 : xs[2]? = some (xs[2]'(by rw [hxl]; decide)) := List.getElem?_eq_getElem _
  rw [hx2] at g2
  obtain ⟨y2, e2⟩ := int_cell g2
  simp at e2
  subst e2
  rw [hc3] at g3
  have hx3 : xs[3]? = some (xs[3]'(by rw [hxl]; decide)) := List.getElem?_eq_getElem _
  rw [hx3] at g3
  obtain ⟨y3, e3⟩ := int_cell g3
  simp at e3
  subst e3
  rw [hc3] at g4
  have hx4 : xs[4]? = some (xs[4]'(by rw [hxl]; decide)) := List.getElem?_eq_getElem _
  rw [hx4] at g4
  obtain ⟨y4, e4⟩ := int_cell g4
  simp at e4
  subst e4
  rw [hc3] at g5
  have hx5 : xs[5]? = some (xs[5]'(by rw [hxl]; decide)) := List.getElem?_eq_getElem _
  rw [hx5] at g5
  obtain ⟨y5, e5⟩ := int_cell g5
  simp at e5
  subst e5
  rw [hc3] at g6
  have hx6 : xs[6]? = some (xs[6]'(by rw [hxl]; decide)) := List.getElem?_eq_getElem _
  rw [hx6] at g6
  obtain ⟨y6, e6⟩ := int_cell g6
  simp at e6
  subst e6
  rw [hc92] at g0
  have hx0 : xs[0]? = some (xs[0]'(by rw [hxl]; decide)) := List.getElem?_eq_getElem _
  rw [hx0] at g0
  obtain ⟨ys, m2, _, _, _, hyl, hg⟩ := DataW.trod_struct Tryd.underlying130 g0
  have p0 : DataW.trod enc Tryd.prog w 0 sp held m2 3 ((([c0, c1].drop 0).take (Tryd.prog.cellsOf 3))) = ys[0]? := hg 0 _ rfl
  have p1 : DataW.trod enc Tryd.prog w 0 sp held m2 3 ((([c0, c1].drop 1).take (Tryd.prog.cellsOf 3))) = ys[1]? := hg 1 _ rfl
  have hy0 : ys[0]? = some (ys[0]'(by rw [hyl]; decide)) := List.getElem?_eq_getElem _
  have hy1 : ys[1]? = some (ys[1]'(by rw [hyl]; decide)) := List.getElem?_eq_getElem _
  rw [hy0] at p0
  rw [hy1] at p1
  rw [hc3] at p0 p1
  obtain ⟨z0, e0⟩ := int_cell p0
  obtain ⟨z1, e1⟩ := int_cell p1
  simp at e0 e1
  subst e0 e1
  exact ⟨⟨z0, z1, y1, y2, y3, y4, y5, y6⟩, rfl⟩

theorem open_works {H : Type} {enc : TypeId × Value → H} {w : World} {fuel : Nat} {cs : List Value} {x : DataW H × List MemPlace} (h : DataW.trod enc Tryd.prog w 0 (fun _ => true) true fuel 22 cs = some x) :
    ∃ a len cap, ∃ l : List Wk, cs = [.slice a len cap] ∧ l.length = len ∧ len ≤ maxLen ∧ WorksAt w a l := by
  have hc : Tryd.prog.cellsOf 132 = 8 := by kernel_rfl
  rcases open_slice Tryd.underlying22 h with ⟨rfl, _⟩ | ⟨a, len, cap, m, n, D, Pl, rfl, _, hlc, hcm, hm, _, hel⟩
  · exact ⟨none, 0, 0, [], rfl, rfl, Nat.zero_le _, .inl rfl⟩
  · rw [hc] at hel
    simp only [if_true] at hm
    have hk : ∀ i, i < len → ∃ k : Wk, ∀ j, j < 8 → w.cell? (a.add (i * 8 + j)) = some (.int .i64 (k.cell j)) := by
      intro i hi
      obtain ⟨cs', h1, h2⟩ := hel i (by omega)
      obtain ⟨k, rfl⟩ := work_cells h2
      refine ⟨k, fun j hj => ?_⟩
      have := cells_at h1 j (by simpa using hj)
      rw [add_add] at this
      rw [this]
      have hj' : j = 0 ∨ j = 1 ∨ j = 2 ∨ j = 3 ∨ j = 4 ∨ j = 5 ∨ j = 6 ∨ j = 7 := by omega
      rcases hj' with rfl | rfl | rfl | rfl | rfl | rfl | rfl | rfl <;> rfl
    obtain ⟨f, hf⟩ := choose_lt hk
    refine ⟨some a, len, cap, (List.range len).map f, rfl, by simp, by omega, ?_⟩
    by_cases h0 : len = 0
    · subst h0; exact .inl (by simp)
    · obtain ⟨b, o, sp⟩ := a
      have hs : sp = none := by
        have := hf 0 (by omega) 0 (by omega)
        cases sp with
        | none => rfl
        | some s => simp [World.cell?, Addr.add] at this; split at this <;> simp at this
      subst hs
      refine .inr ⟨b, o, rfl, ?_, fun i hi j hj => ?_⟩
      · have := hf 0 (by omega) 0 (by omega)
        exact lt_of_cell (by simpa [add_mid'] using this)
      · have := hf i (by simpa using hi) j hj
        rw [add_mid'] at this
        rw [Nat.add_assoc, this]
        simp

theorem group_cells {H : Type} {enc : TypeId × Value → H} {w : World} {sp : Nat → Bool} {held : Bool} {n : Nat} {cs : List Value} {x : DataW H × List MemPlace} (h : DataW.trod enc Tryd.prog w 0 sp held n 135 cs = some x) : ∃ k : Gp, cs = [.int .i64 k.cpu, .int .i64 k.mem, .int .i64 k.min, .int .i64 k.max, .int .i64 k.boot] := by
  obtain ⟨xs, m, _, _, hl, hxl, hf⟩ := DataW.trod_struct Tryd.underlying135 h
  have hc : Tryd.prog.cellsOf 135 = 5 := by kernel_rfl
  have hc3 : Tryd.prog.cellsOf 3 = 1 := by kernel_rfl
  have hc92 : Tryd.prog.cellsOf 130 = 2 := by kernel_rfl
  rw [hc] at hl
  obtain ⟨c0, c1, c2, c3, c4, rfl⟩ := list5 hl
  have g1 : DataW.trod enc Tryd.prog w 0 sp held m 3 (([c0, c1, c2, c3, c4].drop 2).take (Tryd.prog.cellsOf 3)) = xs[1]? := hf 1 _ rfl
  have g2 : DataW.trod enc Tryd.prog w 0 sp held m 3 (([c0, c1, c2, c3, c4].drop 3).take (Tryd.prog.cellsOf 3)) = xs[2]? := hf 2 _ rfl
  have g3 : DataW.trod enc Tryd.prog w 0 sp held m 3 (([c0, c1, c2, c3, c4].drop 4).take (Tryd.prog.cellsOf 3)) = xs[3]? := hf 3 _ rfl
  have g0 : DataW.trod enc Tryd.prog w 0 sp held m 130 (([c0, c1, c2, c3, c4].drop 0).take (Tryd.prog.cellsOf 130)) = xs[0]? := hf 0 _ rfl
  rw [hc3] at g1
  have hx1 : xs[1]? = some (xs[1]'(by rw [hxl]; decide)) := List.getElem?_eq_getElem _
  rw [hx1] at g1
  obtain ⟨y1, e1⟩ := int_cell g1
  simp at e1
  subst e1
  rw [hc3] at g2
  have hx2 : xs[2]? = some (xs[2]'(by rw [hxl]; decide)) := List.getElem?_eq_getElem _
  rw [hx2] at g2
  obtain ⟨y2, e2⟩ := int_cell g2
  simp at e2
  subst e2
  rw [hc3] at g3
  have hx3 : xs[3]? = some (xs[3]'(by rw [hxl]; decide)) := List.getElem?_eq_getElem _
  rw [hx3] at g3
  obtain ⟨y3, e3⟩ := int_cell g3
  simp at e3
  subst e3
  rw [hc92] at g0
  have hx0 : xs[0]? = some (xs[0]'(by rw [hxl]; decide)) := List.getElem?_eq_getElem _
  rw [hx0] at g0
  obtain ⟨ys, m2, _, _, _, hyl, hg⟩ := DataW.trod_struct Tryd.underlying130 g0
  have p0 : DataW.trod enc Tryd.prog w 0 sp held m2 3 ((([c0, c1].drop 0).take (Tryd.prog.cellsOf 3))) = ys[0]? := hg 0 _ rfl
  have p1 : DataW.trod enc Tryd.prog w 0 sp held m2 3 ((([c0, c1].drop 1).take (Tryd.prog.cellsOf 3))) = ys[1]? := hg 1 _ rfl
  have hy0 : ys[0]? = some (ys[0]'(by rw [hyl]; decide)) := List.getElem?_eq_getElem _
  have hy1 : ys[1]? = some (ys[1]'(by rw [hyl]; decide)) := List.getElem?_eq_getElem _
  rw [hy0] at p0
  rw [hy1] at p1
  rw [hc3] at p0 p1
  obtain ⟨z0, e0⟩ := int_cell p0
  obtain ⟨z1, e1⟩ := int_cell p1
  simp at e0 e1
  subst e0 e1
  exact ⟨⟨z0, z1, y1, y2, y3⟩, rfl⟩

theorem open_groups {H : Type} {enc : TypeId × Value → H} {w : World} {fuel : Nat} {cs : List Value} {x : DataW H × List MemPlace} (h : DataW.trod enc Tryd.prog w 0 (fun _ => true) true fuel 23 cs = some x) :
    ∃ a len cap, ∃ l : List Gp, cs = [.slice a len cap] ∧ l.length = len ∧ len ≤ maxLen ∧ GroupsAt w a l := by
  have hc : Tryd.prog.cellsOf 135 = 5 := by kernel_rfl
  rcases open_slice Tryd.underlying23 h with ⟨rfl, _⟩ | ⟨a, len, cap, m, n, D, Pl, rfl, _, hlc, hcm, hm, _, hel⟩
  · exact ⟨none, 0, 0, [], rfl, rfl, Nat.zero_le _, .inl rfl⟩
  · rw [hc] at hel
    simp only [if_true] at hm
    have hk : ∀ i, i < len → ∃ k : Gp, ∀ j, j < 5 → w.cell? (a.add (i * 5 + j)) = some (.int .i64 (k.cell j)) := by
      intro i hi
      obtain ⟨cs', h1, h2⟩ := hel i (by omega)
      obtain ⟨k, rfl⟩ := group_cells h2
      refine ⟨k, fun j hj => ?_⟩
      have := cells_at h1 j (by simpa using hj)
      rw [add_add] at this
      rw [this]
      have hj' : j = 0 ∨ j = 1 ∨ j = 2 ∨ j = 3 ∨ j = 4 := by omega
      rcases hj' with rfl | rfl | rfl | rfl | rfl <;> rfl
    obtain ⟨f, hf⟩ := choose_lt hk
    refine ⟨some a, len, cap, (List.range len).map f, rfl, by simp, by omega, ?_⟩
    by_cases h0 : len = 0
    · subst h0; exact .inl (by simp)
    · obtain ⟨b, o, sp⟩ := a
      have hs : sp = none := by
        have := hf 0 (by omega) 0 (by omega)
        cases sp with
        | none => rfl
        | some s => simp [World.cell?, Addr.add] at this; split at this <;> simp at this
      subst hs
      refine .inr ⟨b, o, rfl, ?_, fun i hi j hj => ?_⟩
      · have := hf 0 (by omega) 0 (by omega)
        exact lt_of_cell (by simpa [add_mid'] using this)
      · have := hf i (by simpa using hi) j hj
        rw [add_mid'] at this
        rw [Nat.add_assoc, this]
        simp

end Go.Proofs.YtoceohacplmgnaaDoor
