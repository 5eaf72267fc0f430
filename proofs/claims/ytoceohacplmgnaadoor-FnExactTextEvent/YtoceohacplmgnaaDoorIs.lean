/- What comes in: what there is, read as data. -/
import Derived.Test.YtoceohacplmgnaaDoorIn
import Derived.Test.YtoceohacplmgnaaDoorGa
namespace Go.Proofs.YtoceohacplmgnaaDoor
open Go.RowKit Go.ChangeShapes Go.WideShapes Go.Deep

theorem list6 {α : Type} {l : List α} (h : l.length = 6) : ∃ a b c d e f, l = [a, b, c, d, e, f] := by
  match l, h with
  | [a, b, c, d, e, f], _ => exact ⟨a, b, c, d, e, f, rfl⟩
theorem int_cellB {H : Type} {enc : TypeId × Value → H} {w : World} {base : Nat} {sp : Nat → Bool} {held : Bool} {n : Nat} {cs : List Value} {x : DataW H × List MemPlace} (h : DataW.trod enc Tryd.prog w base sp held n 3 cs = some x) : ∃ z : Int, cs = [.int .i64 z] ∧ -9223372036854775808 ≤ z ∧ z ≤ 9223372036854775807 := by
  obtain ⟨z, e, _, hw⟩ := DataW.trod_int Tryd.underlying3 h
  have : -9223372036854775808 ≤ z ∧ z ≤ 9223372036854775807 := by simpa [Lit.wf, IntKind.min, IntKind.max, IntKind.bits, IntKind.signed] using hw
  exact ⟨z, e, by omega, by omega⟩
theorem list4 {α : Type} {l : List α} (h : l.length = 4) : ∃ a b c d, l = [a, b, c, d] := by
  match l, h with
  | [a, b, c, d], _ => exact ⟨a, b, c, d, rfl⟩
theorem list3 {α : Type} {l : List α} (h : l.length = 3) : ∃ a b c, l = [a, b, c] := by
  match l, h with
  | [a, b, c], _ => exact ⟨a, b, c, rfl⟩

instance : Inhabited Pd := ⟨⟨0, 0, 0, 0, 0⟩⟩
theorem pod_cells {H : Type} {enc : TypeId × Value → H} {w : World} {sp : Nat → Bool} {held : Bool} {n : Nat} {cs : List Value} {x : DataW H × List MemPlace} (h : DataW.trod enc Tryd.prog w 0 sp held n 145 cs = some x) : ∃ k : Pd, cs = [.int .i64 k.id, .int .i64 k.work, .int .i64 k.node, .int .i64 k.nom, .int .i64 k.wait] := by
  obtain ⟨xs, m, _, _, hl, hxl, hf⟩ := DataW.trod_struct Tryd.underlying145 h
  have hc : Tryd.prog.cellsOf 145 = 5 := by kernel_rfl
  have hc3 : Tryd.prog.cellsOf 3 = 1 := by kernel_rfl
  rw [hc] at hl
  obtain ⟨c0, c1, c2, c3, c4, rfl⟩ := list5 hl
  have g0 : DataW.trod enc Tryd.prog w 0 sp held m 3 (([c0, c1, c2, c3, c4].drop 0).take (Tryd.prog.cellsOf 3)) = xs[0]? := hf 0 _ rfl
  have g1 : DataW.trod enc Tryd.prog w 0 sp held m 3 (([c0, c1, c2, c3, c4].drop 1).take (Tryd.prog.cellsOf 3)) = xs[1]? := hf 1 _ rfl
  have g2 : DataW.trod enc Tryd.prog w 0 sp held m 3 (([c0, c1, c2, c3, c4].drop 2).take (Tryd.prog.cellsOf 3)) = xs[2]? := hf 2 _ rfl
  have g3 : DataW.trod enc Tryd.prog w 0 sp held m 3 (([c0, c1, c2, c3, c4].drop 3).take (Tryd.prog.cellsOf 3)) = xs[3]? := hf 3 _ rfl
  have g4 : DataW.trod enc Tryd.prog w 0 sp held m 3 (([c0, c1, c2, c3, c4].drop 4).take (Tryd.prog.cellsOf 3)) = xs[4]? := hf 4 _ rfl
  rw [hc3, show xs[0]? = some (xs[0]'(by rw [hxl]; decide)) from List.getElem?_eq_getElem _] at g0
  obtain ⟨y0, e0, b0⟩ := int_cellB g0
  simp at e0
  subst e0
  rw [hc3, show xs[1]? = some (xs[1]'(by rw [hxl]; decide)) from List.getElem?_eq_getElem _] at g1
  obtain ⟨y1, e1, b1⟩ := int_cellB g1
  simp at e1
  subst e1
  rw [hc3, show xs[2]? = some (xs[2]'(by rw [hxl]; decide)) from List.getElem?_eq_getElem _] at g2
  obtain ⟨y2, e2, b2⟩ := int_cellB g2
  simp at e2
  subst e2
  rw [hc3, show xs[3]? = some (xs[3]'(by rw [hxl]; decide)) from List.getElem?_eq_getElem _] at g3
  obtain ⟨y3, e3, b3⟩ := int_cellB g3
  simp at e3
  subst e3
  rw [hc3, show xs[4]? = some (xs[4]'(by rw [hxl]; decide)) from List.getElem?_eq_getElem _] at g4
  obtain ⟨y4, e4, b4⟩ := int_cellB g4
  simp at e4
  subst e4
  exact ⟨⟨y0, y1, y2, y3, y4⟩, rfl⟩

theorem open_pods {H : Type} {enc : TypeId × Value → H} {w : World} {fuel : Nat} {cs : List Value} {x : DataW H × List MemPlace} (h : DataW.trod enc Tryd.prog w 0 (fun _ => true) true fuel 35 cs = some x) :
    ∃ a len cap, ∃ l : List Pd, cs = [.slice a len cap] ∧ l.length = len ∧ len ≤ maxLen ∧ PodsAt w a l := by
  have hc : Tryd.prog.cellsOf 145 = 5 := by kernel_rfl
  rcases open_slice Tryd.underlying35 h with ⟨rfl, _⟩ | ⟨a, len, cap, m, n, D, Pl, rfl, _, hlc, hcm, hm, _, hel⟩
  · exact ⟨none, 0, 0, [], rfl, rfl, Nat.zero_le _, .inl rfl⟩
  · rw [hc] at hel
    simp only [if_true] at hm
    have hk : ∀ i, i < len → ∃ k : Pd, (∀ j, j < 5 → w.cell? (a.add (i * 5 + j)) = some (.int .i64 (k.cell j))) := by
      intro i hi
      obtain ⟨cs', h1, h2⟩ := hel i (by omega)
      obtain ⟨k, rfl⟩ := pod_cells h2
      refine ⟨k, fun j hj => ?_⟩
      have := cells_at h1 j (by simpa using hj)
      rw [add_add] at this
      rw [this]
      have hj' : j = 0 ∨ j = 1 ∨ j = 2 ∨ j = 3 ∨ j = 4 := by omega
      rcases hj' with rfl | rfl | rfl | rfl | rfl <;> rfl
    obtain ⟨f, hf⟩ := choose_lt hk
    refine ⟨some a, len, cap, (List.range len).map f, rfl, by simp, by omega, ?_⟩
    by_cases h0 : len = 0
    · subst h0; exact .inl (by simp)
    · obtain ⟨b, o, sp⟩ := a
      have hs : sp = none := by
        have := (hf 0 (by omega)) 0 (by omega)
        cases sp with
        | none => rfl
        | some s => simp [World.cell?, Addr.add] at this; split at this <;> simp at this
      subst hs
      refine .inr ⟨b, o, rfl, ?_, fun i hi j hj => ?_⟩
      · have := (hf 0 (by omega)) 0 (by omega)
        exact lt_of_cell (by simpa [add_mid'] using this)
      · have := (hf i (by simpa using hi)) j hj
        rw [add_mid'] at this
        rw [Nat.add_assoc, this]
        simp

instance : Inhabited Nd := ⟨⟨0, 0, 0, 0⟩⟩
theorem node_cells {H : Type} {enc : TypeId × Value → H} {w : World} {sp : Nat → Bool} {held : Bool} {n : Nat} {cs : List Value} {x : DataW H × List MemPlace} (h : DataW.trod enc Tryd.prog w 0 sp held n 147 cs = some x) : ∃ k : Nd, cs = [.int .i64 k.id, .int .i64 k.group, .int .i64 k.boot, .int .i64 k.idle] := by
  obtain ⟨xs, m, _, _, hl, hxl, hf⟩ := DataW.trod_struct Tryd.underlying147 h
  have hc : Tryd.prog.cellsOf 147 = 4 := by kernel_rfl
  have hc3 : Tryd.prog.cellsOf 3 = 1 := by kernel_rfl
  rw [hc] at hl
  obtain ⟨c0, c1, c2, c3, rfl⟩ := list4 hl
  have g0 : DataW.trod enc Tryd.prog w 0 sp held m 3 (([c0, c1, c2, c3].drop 0).take (Tryd.prog.cellsOf 3)) = xs[0]? := hf 0 _ rfl
  have g1 : DataW.trod enc Tryd.prog w 0 sp held m 3 (([c0, c1, c2, c3].drop 1).take (Tryd.prog.cellsOf 3)) = xs[1]? := hf 1 _ rfl
  have g2 : DataW.trod enc Tryd.prog w 0 sp held m 3 (([c0, c1, c2, c3].drop 2).take (Tryd.prog.cellsOf 3)) = xs[2]? := hf 2 _ rfl
  have g3 : DataW.trod enc Tryd.prog w 0 sp held m 3 (([c0, c1, c2, c3].drop 3).take (Tryd.prog.cellsOf 3)) = xs[3]? := hf 3 _ rfl
  rw [hc3, show xs[0]? = some (xs[0]'(by rw [hxl]; decide)) from List.getElem?_eq_getElem _] at g0
  obtain ⟨y0, e0, b0⟩ := int_cellB g0
  simp at e0
  subst e0
  rw [hc3, show xs[1]? = some (xs[1]'(by rw [hxl]; decide)) from List.getElem?_eq_getElem _] at g1
  obtain ⟨y1, e1, b1⟩ := int_cellB g1
  simp at e1
  subst e1
  rw [hc3, show xs[2]? = some (xs[2]'(by rw [hxl]; decide)) from List.getElem?_eq_getElem _] at g2
  obtain ⟨y2, e2, b2⟩ := int_cellB g2
  simp at e2
  subst e2
  rw [hc3, show xs[3]? = some (xs[3]'(by rw [hxl]; decide)) from List.getElem?_eq_getElem _] at g3
  obtain ⟨y3, e3, b3⟩ := int_cellB g3
  simp at e3
  subst e3
  exact ⟨⟨y0, y1, y2, y3⟩, rfl⟩

theorem open_nodes {H : Type} {enc : TypeId × Value → H} {w : World} {fuel : Nat} {cs : List Value} {x : DataW H × List MemPlace} (h : DataW.trod enc Tryd.prog w 0 (fun _ => true) true fuel 36 cs = some x) :
    ∃ a len cap, ∃ l : List Nd, cs = [.slice a len cap] ∧ l.length = len ∧ len ≤ maxLen ∧ NodesAt w a l := by
  have hc : Tryd.prog.cellsOf 147 = 4 := by kernel_rfl
  rcases open_slice Tryd.underlying36 h with ⟨rfl, _⟩ | ⟨a, len, cap, m, n, D, Pl, rfl, _, hlc, hcm, hm, _, hel⟩
  · exact ⟨none, 0, 0, [], rfl, rfl, Nat.zero_le _, .inl rfl⟩
  · rw [hc] at hel
    simp only [if_true] at hm
    have hk : ∀ i, i < len → ∃ k : Nd, (∀ j, j < 4 → w.cell? (a.add (i * 4 + j)) = some (.int .i64 (k.cell j))) := by
      intro i hi
      obtain ⟨cs', h1, h2⟩ := hel i (by omega)
      obtain ⟨k, rfl⟩ := node_cells h2
      refine ⟨k, fun j hj => ?_⟩
      have := cells_at h1 j (by simpa using hj)
      rw [add_add] at this
      rw [this]
      have hj' : j = 0 ∨ j = 1 ∨ j = 2 ∨ j = 3 := by omega
      rcases hj' with rfl | rfl | rfl | rfl <;> rfl
    obtain ⟨f, hf⟩ := choose_lt hk
    refine ⟨some a, len, cap, (List.range len).map f, rfl, by simp, by omega, ?_⟩
    by_cases h0 : len = 0
    · subst h0; exact .inl (by simp)
    · obtain ⟨b, o, sp⟩ := a
      have hs : sp = none := by
        have := (hf 0 (by omega)) 0 (by omega)
        cases sp with
        | none => rfl
        | some s => simp [World.cell?, Addr.add] at this; split at this <;> simp at this
      subst hs
      refine .inr ⟨b, o, rfl, ?_, fun i hi j hj => ?_⟩
      · have := (hf 0 (by omega)) 0 (by omega)
        exact lt_of_cell (by simpa [add_mid'] using this)
      · have := (hf i (by simpa using hi)) j hj
        rw [add_mid'] at this
        rw [Nat.add_assoc, this]
        simp

instance : Inhabited Ws := ⟨⟨0, 0, 0⟩⟩
theorem ws_cells {H : Type} {enc : TypeId × Value → H} {w : World} {sp : Nat → Bool} {held : Bool} {n : Nat} {cs : List Value} {x : DataW H × List MemPlace} (h : DataW.trod enc Tryd.prog w 0 sp held n 149 cs = some x) : ∃ k : Ws, cs = [.int .i64 k.want, .int .i64 k.load, .int .i64 k.low] := by
  obtain ⟨xs, m, _, _, hl, hxl, hf⟩ := DataW.trod_struct Tryd.underlying149 h
  have hc : Tryd.prog.cellsOf 149 = 3 := by kernel_rfl
  have hc3 : Tryd.prog.cellsOf 3 = 1 := by kernel_rfl
  rw [hc] at hl
  obtain ⟨c0, c1, c2, rfl⟩ := list3 hl
  have g0 : DataW.trod enc Tryd.prog w 0 sp held m 3 (([c0, c1, c2].drop 0).take (Tryd.prog.cellsOf 3)) = xs[0]? := hf 0 _ rfl
  have g1 : DataW.trod enc Tryd.prog w 0 sp held m 3 (([c0, c1, c2].drop 1).take (Tryd.prog.cellsOf 3)) = xs[1]? := hf 1 _ rfl
  have g2 : DataW.trod enc Tryd.prog w 0 sp held m 3 (([c0, c1, c2].drop 2).take (Tryd.prog.cellsOf 3)) = xs[2]? := hf 2 _ rfl
  rw [hc3, show xs[0]? = some (xs[0]'(by rw [hxl]; decide)) from List.getElem?_eq_getElem _] at g0
  obtain ⟨y0, e0, b0⟩ := int_cellB g0
  simp at e0
  subst e0
  rw [hc3, show xs[1]? = some (xs[1]'(by rw [hxl]; decide)) from List.getElem?_eq_getElem _] at g1
  obtain ⟨y1, e1, b1⟩ := int_cellB g1
  simp at e1
  subst e1
  rw [hc3, show xs[2]? = some (xs[2]'(by rw [hxl]; decide)) from List.getElem?_eq_getElem _] at g2
  obtain ⟨y2, e2, b2⟩ := int_cellB g2
  simp at e2
  subst e2
  exact ⟨⟨y0, y1, y2⟩, rfl⟩

theorem open_wss {H : Type} {enc : TypeId × Value → H} {w : World} {fuel : Nat} {cs : List Value} {x : DataW H × List MemPlace} (h : DataW.trod enc Tryd.prog w 0 (fun _ => true) true fuel 37 cs = some x) :
    ∃ a len cap, ∃ l : List Ws, cs = [.slice a len cap] ∧ l.length = len ∧ len ≤ maxLen ∧ WssAt w a l := by
  have hc : Tryd.prog.cellsOf 149 = 3 := by kernel_rfl
  rcases open_slice Tryd.underlying37 h with ⟨rfl, _⟩ | ⟨a, len, cap, m, n, D, Pl, rfl, _, hlc, hcm, hm, _, hel⟩
  · exact ⟨none, 0, 0, [], rfl, rfl, Nat.zero_le _, .inl rfl⟩
  · rw [hc] at hel
    simp only [if_true] at hm
    have hk : ∀ i, i < len → ∃ k : Ws, (∀ j, j < 3 → w.cell? (a.add (i * 3 + j)) = some (.int .i64 (k.cell j))) := by
      intro i hi
      obtain ⟨cs', h1, h2⟩ := hel i (by omega)
      obtain ⟨k, rfl⟩ := ws_cells h2
      refine ⟨k, fun j hj => ?_⟩
      have := cells_at h1 j (by simpa using hj)
      rw [add_add] at this
      rw [this]
      have hj' : j = 0 ∨ j = 1 ∨ j = 2 := by omega
      rcases hj' with rfl | rfl | rfl <;> rfl
    obtain ⟨f, hf⟩ := choose_lt hk
    refine ⟨some a, len, cap, (List.range len).map f, rfl, by simp, by omega, ?_⟩
    by_cases h0 : len = 0
    · subst h0; exact .inl (by simp)
    · obtain ⟨b, o, sp⟩ := a
      have hs : sp = none := by
        have := (hf 0 (by omega)) 0 (by omega)
        cases sp with
        | none => rfl
        | some s => simp [World.cell?, Addr.add] at this; split at this <;> simp at this
      subst hs
      refine .inr ⟨b, o, rfl, ?_, fun i hi j hj => ?_⟩
      · have := (hf 0 (by omega)) 0 (by omega)
        exact lt_of_cell (by simpa [add_mid'] using this)
      · have := (hf i (by simpa using hi)) j hj
        rw [add_mid'] at this
        rw [Nat.add_assoc, this]
        simp

instance : Inhabited Gs := ⟨⟨0, 0, 0⟩⟩
theorem gs_cells {H : Type} {enc : TypeId × Value → H} {w : World} {sp : Nat → Bool} {held : Bool} {n : Nat} {cs : List Value} {x : DataW H × List MemPlace} (h : DataW.trod enc Tryd.prog w 0 sp held n 151 cs = some x) : ∃ k : Gs, cs = [.int .i64 k.asked, .int .i64 k.rest, .int .i64 k.fails] ∧ -9223372036854775808 ≤ k.asked ∧ k.asked ≤ 9223372036854775807 := by
  obtain ⟨xs, m, _, _, hl, hxl, hf⟩ := DataW.trod_struct Tryd.underlying151 h
  have hc : Tryd.prog.cellsOf 151 = 3 := by kernel_rfl
  have hc3 : Tryd.prog.cellsOf 3 = 1 := by kernel_rfl
  rw [hc] at hl
  obtain ⟨c0, c1, c2, rfl⟩ := list3 hl
  have g0 : DataW.trod enc Tryd.prog w 0 sp held m 3 (([c0, c1, c2].drop 0).take (Tryd.prog.cellsOf 3)) = xs[0]? := hf 0 _ rfl
  have g1 : DataW.trod enc Tryd.prog w 0 sp held m 3 (([c0, c1, c2].drop 1).take (Tryd.prog.cellsOf 3)) = xs[1]? := hf 1 _ rfl
  have g2 : DataW.trod enc Tryd.prog w 0 sp held m 3 (([c0, c1, c2].drop 2).take (Tryd.prog.cellsOf 3)) = xs[2]? := hf 2 _ rfl
  rw [hc3, show xs[0]? = some (xs[0]'(by rw [hxl]; decide)) from List.getElem?_eq_getElem _] at g0
  obtain ⟨y0, e0, b0⟩ := int_cellB g0
  simp at e0
  subst e0
  rw [hc3, show xs[1]? = some (xs[1]'(by rw [hxl]; decide)) from List.getElem?_eq_getElem _] at g1
  obtain ⟨y1, e1, b1⟩ := int_cellB g1
  simp at e1
  subst e1
  rw [hc3, show xs[2]? = some (xs[2]'(by rw [hxl]; decide)) from List.getElem?_eq_getElem _] at g2
  obtain ⟨y2, e2, b2⟩ := int_cellB g2
  simp at e2
  subst e2
  exact ⟨⟨y0, y1, y2⟩, rfl, b0⟩

theorem open_gss {H : Type} {enc : TypeId × Value → H} {w : World} {fuel : Nat} {cs : List Value} {x : DataW H × List MemPlace} (h : DataW.trod enc Tryd.prog w 0 (fun _ => true) true fuel 38 cs = some x) :
    ∃ a len cap, ∃ l : List Gs, cs = [.slice a len cap] ∧ l.length = len ∧ len ≤ maxLen ∧ GssAt w a l ∧ ∀ k ∈ l, -9223372036854775808 ≤ k.asked ∧ k.asked ≤ 9223372036854775807 := by
  have hc : Tryd.prog.cellsOf 151 = 3 := by kernel_rfl
  rcases open_slice Tryd.underlying38 h with ⟨rfl, _⟩ | ⟨a, len, cap, m, n, D, Pl, rfl, _, hlc, hcm, hm, _, hel⟩
  · exact ⟨none, 0, 0, [], rfl, rfl, Nat.zero_le _, .inl rfl, by simp⟩
  · rw [hc] at hel
    simp only [if_true] at hm
    have hk : ∀ i, i < len → ∃ k : Gs, (∀ j, j < 3 → w.cell? (a.add (i * 3 + j)) = some (.int .i64 (k.cell j))) ∧ -9223372036854775808 ≤ k.asked ∧ k.asked ≤ 9223372036854775807 := by
      intro i hi
      obtain ⟨cs', h1, h2⟩ := hel i (by omega)
      obtain ⟨k, rfl, b1, b2⟩ := gs_cells h2
      refine ⟨k, fun j hj => ?_, b1, b2⟩
      have := cells_at h1 j (by simpa using hj)
      rw [add_add] at this
      rw [this]
      have hj' : j = 0 ∨ j = 1 ∨ j = 2 := by omega
      rcases hj' with rfl | rfl | rfl <;> rfl
    obtain ⟨f, hf⟩ := choose_lt hk
    refine ⟨some a, len, cap, (List.range len).map f, rfl, by simp, by omega, ?_, by simp only [List.mem_map, List.mem_range]; rintro k ⟨i, hi, rfl⟩; exact (hf i hi).2⟩
    by_cases h0 : len = 0
    · subst h0; exact .inl (by simp)
    · obtain ⟨b, o, sp⟩ := a
      have hs : sp = none := by
        have := (hf 0 (by omega)).1 0 (by omega)
        cases sp with
        | none => rfl
        | some s => simp [World.cell?, Addr.add] at this; split at this <;> simp at this
      subst hs
      refine .inr ⟨b, o, rfl, ?_, fun i hi j hj => ?_⟩
      · have := (hf 0 (by omega)).1 0 (by omega)
        exact lt_of_cell (by simpa [add_mid'] using this)
      · have := (hf i (by simpa using hi)).1 j hj
        rw [add_mid'] at this
        rw [Nat.add_assoc, this]
        simp

set_option maxRecDepth 100000 in
theorem open_cfg {H : Type} {enc : TypeId × Value → H} {W : World} {b0 : Nat} {v : Value} {d : DataW H} {p : List MemPlace} (hv : Value.okWide Tryd.prog W .any b0 25 v) (h : DataW.Trod enc Tryd.prog W 0 (fun _ => true) true 25 v d p) :
    ∃ aw lw cw ag lg cg, ∃ c : Cf, v = .agg #[.slice aw lw cw, .slice ag lg cg, .int .i64 c.start, .int .i64 c.calm, .int .i64 c.idle, .int .i64 c.back] ∧ c.works.length = lw ∧ lw ≤ 9223372036854775807 ∧ WorksAt W aw c.works ∧ c.groups.length = lg ∧ lg ≤ 9223372036854775807 ∧ GroupsAt W ag c.groups := by
  obtain ⟨cs, rfl, hsz⟩ := okWide_struct Tryd.underlying25 hv
  have hc : Tryd.prog.cellsOf 25 = 6 := by kernel_rfl
  have hc3 : Tryd.prog.cellsOf 3 = 1 := by kernel_rfl
  have hc22 : Tryd.prog.cellsOf 22 = 1 := by kernel_rfl
  have hc23 : Tryd.prog.cellsOf 23 = 1 := by kernel_rfl
  rw [hc] at hsz
  obtain ⟨l, rfl⟩ : ∃ l : List Value, cs = l.toArray := ⟨cs.toList, by simp⟩
  obtain ⟨c0, c1, c2, c3, c4, c5, rfl⟩ := list6 (by simpa using hsz)
  obtain ⟨fuel, hf0⟩ := h
  obtain ⟨xs, m, _, _, _, hxl, hf⟩ := DataW.trod_struct Tryd.underlying25 hf0
  have g0 : DataW.trod enc Tryd.prog W 0 (fun _ => true) true m 22 (([c0, c1, c2, c3, c4, c5].drop 0).take (Tryd.prog.cellsOf 22)) = xs[0]? := hf 0 _ rfl
  have g1 : DataW.trod enc Tryd.prog W 0 (fun _ => true) true m 23 (([c0, c1, c2, c3, c4, c5].drop 1).take (Tryd.prog.cellsOf 23)) = xs[1]? := hf 1 _ rfl
  have g2 : DataW.trod enc Tryd.prog W 0 (fun _ => true) true m 3 (([c0, c1, c2, c3, c4, c5].drop 2).take (Tryd.prog.cellsOf 3)) = xs[2]? := hf 2 _ rfl
  have g3 : DataW.trod enc Tryd.prog W 0 (fun _ => true) true m 3 (([c0, c1, c2, c3, c4, c5].drop 3).take (Tryd.prog.cellsOf 3)) = xs[3]? := hf 3 _ rfl
  have g4 : DataW.trod enc Tryd.prog W 0 (fun _ => true) true m 3 (([c0, c1, c2, c3, c4, c5].drop 4).take (Tryd.prog.cellsOf 3)) = xs[4]? := hf 4 _ rfl
  have g5 : DataW.trod enc Tryd.prog W 0 (fun _ => true) true m 3 (([c0, c1, c2, c3, c4, c5].drop 5).take (Tryd.prog.cellsOf 3)) = xs[5]? := hf 5 _ rfl
  rw [hc22, show xs[0]? = some (xs[0]'(by rw [hxl]; decide)) from List.getElem?_eq_getElem _] at g0
  rw [hc23, show xs[1]? = some (xs[1]'(by rw [hxl]; decide)) from List.getElem?_eq_getElem _] at g1
  rw [hc3, show xs[2]? = some (xs[2]'(by rw [hxl]; decide)) from List.getElem?_eq_getElem _] at g2
  rw [hc3, show xs[3]? = some (xs[3]'(by rw [hxl]; decide)) from List.getElem?_eq_getElem _] at g3
  rw [hc3, show xs[4]? = some (xs[4]'(by rw [hxl]; decide)) from List.getElem?_eq_getElem _] at g4
  rw [hc3, show xs[5]? = some (xs[5]'(by rw [hxl]; decide)) from List.getElem?_eq_getElem _] at g5
  obtain ⟨a0, l0, n0, L0, e0, x0, y0, z0⟩ := open_works g0
  obtain ⟨a1, l1, n1, L1, e1, x1, y1, z1⟩ := open_groups g1
  obtain ⟨z2, e2⟩ := int_cell g2
  obtain ⟨z3, e3⟩ := int_cell g3
  obtain ⟨z4, e4⟩ := int_cell g4
  obtain ⟨z5, e5⟩ := int_cell g5
  simp at e0 e1 e2 e3 e4 e5
  subst e0 e1 e2 e3 e4 e5
  unfold maxLen at y0 y1
  exact ⟨a0, l0, n0, a1, l1, n1, ⟨L0, L1, z2, z3, z4, z5⟩, rfl, x0, by omega, z0, x1, by omega, z1⟩

/-- What comes in as what there is: like StateAt, with lengths of any greatness. -/
def StateIn (w : World) (v : Value) (s : St) : Prop :=
  ∃ a1 l1 c1 a2 l2 c2 a3 l3 c3 a4 l4 c4, v = .agg #[.slice a1 l1 c1, .slice a2 l2 c2, .slice a3 l3 c3, .slice a4 l4 c4, .int .i64 s.nextPod, .int .i64 s.nextNode] ∧
    (s.pods.length = l1 ∧ l1 ≤ 9223372036854775807 ∧ PodsAt w a1 s.pods) ∧ (s.nodes.length = l2 ∧ l2 ≤ 9223372036854775807 ∧ NodesAt w a2 s.nodes) ∧ (s.works.length = l3 ∧ l3 ≤ 9223372036854775807 ∧ WssAt w a3 s.works) ∧ (s.groups.length = l4 ∧ l4 ≤ 9223372036854775807 ∧ GssAt w a4 s.groups) ∧ ∀ k ∈ s.groups, -9223372036854775808 ≤ k.asked ∧ k.asked ≤ 9223372036854775807

set_option maxRecDepth 100000 in
theorem open_state {H : Type} {enc : TypeId × Value → H} {W : World} {b0 : Nat} {v : Value} {d : DataW H} {p : List MemPlace} (hv : Value.okWide Tryd.prog W .any b0 40 v) (h : DataW.Trod enc Tryd.prog W 0 (fun _ => true) true 40 v d p) :
    ∃ s : St, StateIn W v s := by
  obtain ⟨cs, rfl, hsz⟩ := okWide_struct Tryd.underlying40 hv
  have hc : Tryd.prog.cellsOf 40 = 6 := by kernel_rfl
  have hc3 : Tryd.prog.cellsOf 3 = 1 := by kernel_rfl
  have hc44 : Tryd.prog.cellsOf 35 = 1 := by kernel_rfl
  have hc45 : Tryd.prog.cellsOf 36 = 1 := by kernel_rfl
  have hc46 : Tryd.prog.cellsOf 37 = 1 := by kernel_rfl
  have hc47 : Tryd.prog.cellsOf 38 = 1 := by kernel_rfl
  rw [hc] at hsz
  obtain ⟨l, rfl⟩ : ∃ l : List Value, cs = l.toArray := ⟨cs.toList, by simp⟩
  obtain ⟨c0, c1, c2, c3, c4, c5, rfl⟩ := list6 (by simpa using hsz)
  obtain ⟨fuel, hf0⟩ := h
  obtain ⟨xs, m, _, _, _, hxl, hf⟩ := DataW.trod_struct Tryd.underlying40 hf0
  have g0 : DataW.trod enc Tryd.prog W 0 (fun _ => true) true m 35 (([c0, c1, c2, c3, c4, c5].drop 0).take (Tryd.prog.cellsOf 35)) = xs[0]? := hf 0 _ rfl
  have g1 : DataW.trod enc Tryd.prog W 0 (fun _ => true) true m 36 (([c0, c1, c2, c3, c4, c5].drop 1).take (Tryd.prog.cellsOf 36)) = xs[1]? := hf 1 _ rfl
  have g2 : DataW.trod enc Tryd.prog W 0 (fun _ => true) true m 37 (([c0, c1, c2, c3, c4, c5].drop 2).take (Tryd.prog.cellsOf 37)) = xs[2]? := hf 2 _ rfl
  have g3 : DataW.trod enc Tryd.prog W 0 (fun _ => true) true m 38 (([c0, c1, c2, c3, c4, c5].drop 3).take (Tryd.prog.cellsOf 38)) = xs[3]? := hf 3 _ rfl
  have g4 : DataW.trod enc Tryd.prog W 0 (fun _ => true) true m 3 (([c0, c1, c2, c3, c4, c5].drop 4).take (Tryd.prog.cellsOf 3)) = xs[4]? := hf 4 _ rfl
  have g5 : DataW.trod enc Tryd.prog W 0 (fun _ => true) true m 3 (([c0, c1, c2, c3, c4, c5].drop 5).take (Tryd.prog.cellsOf 3)) = xs[5]? := hf 5 _ rfl
  rw [hc44, show xs[0]? = some (xs[0]'(by rw [hxl]; decide)) from List.getElem?_eq_getElem _] at g0
  rw [hc45, show xs[1]? = some (xs[1]'(by rw [hxl]; decide)) from List.getElem?_eq_getElem _] at g1
  rw [hc46, show xs[2]? = some (xs[2]'(by rw [hxl]; decide)) from List.getElem?_eq_getElem _] at g2
  rw [hc47, show xs[3]? = some (xs[3]'(by rw [hxl]; decide)) from List.getElem?_eq_getElem _] at g3
  rw [hc3, show xs[4]? = some (xs[4]'(by rw [hxl]; decide)) from List.getElem?_eq_getElem _] at g4
  rw [hc3, show xs[5]? = some (xs[5]'(by rw [hxl]; decide)) from List.getElem?_eq_getElem _] at g5
  obtain ⟨a0, l0, n0, L0, e0, x0, y0, z0⟩ := open_pods g0
  obtain ⟨a1, l1, n1, L1, e1, x1, y1, z1⟩ := open_nodes g1
  obtain ⟨a2, l2, n2, L2, e2, x2, y2, z2⟩ := open_wss g2
  obtain ⟨a3, l3, n3, L3, e3, x3, y3, z3, hgs⟩ := open_gss g3
  obtain ⟨z4, e4⟩ := int_cell g4
  obtain ⟨z5, e5⟩ := int_cell g5
  simp at e0 e1 e2 e3 e4 e5
  subst e0 e1 e2 e3 e4 e5
  unfold maxLen at y0 y1 y2 y3
  exact ⟨⟨L0, L1, L2, L3, z4, z5⟩, a0, l0, n0, a1, l1, n1, a2, l2, n2, a3, l3, n3, rfl, ⟨x0, by omega, z0⟩, ⟨x1, by omega, z1⟩, ⟨x2, by omega, z2⟩, ⟨x3, by omega, z3⟩, hgs⟩

end Go.Proofs.YtoceohacplmgnaaDoor
