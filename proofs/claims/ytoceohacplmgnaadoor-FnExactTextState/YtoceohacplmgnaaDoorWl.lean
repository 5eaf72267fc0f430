/- What comes in: what there is, each number held by an int. -/
import Derived.Test.YtoceohacplmgnaaDoorWk
import Derived.Test.YtoceohacplmgnaaDoorIs
namespace Go.Proofs.YtoceohacplmgnaaDoor
open Go.RowKit Go.ChangeShapes Go.WideShapes Go.Deep

theorem pod_cellsI {H : Type} {enc : TypeId × Value → H} {w : World} {sp : Nat → Bool} {held : Bool} {n : Nat} {cs : List Value} {x : DataW H × List MemPlace} (h : DataW.trod enc Tryd.prog w 0 sp held n 145 cs = some x) : ∃ k : Pd, cs = [.int .i64 k.id, .int .i64 k.work, .int .i64 k.node, .int .i64 k.nom, .int .i64 k.wait] ∧ podSI k := by
  obtain ⟨xs, m, _, _, hl, hxl, hf⟩ := DataW.trod_struct Tryd.underlying145 h
  have hc : Tryd.prog.cellsOf 145 = 5 := by kernel_rfl
  have hc3 : Tryd.prog.cellsOf 3 = 1 := by kernel_rfl
  rw [hc] at hl
  obtain ⟨c0, c1, c2, c3, c4, rfl⟩ := list5 hl
  have g0 : DataW.trod enc Tryd.prog w 0 sp held m 3 (([c0, c1, c2, c3, c4].drop 0).take (Tryd.prog.cellsOf 3)) = xs[0]? := hf 0 _ rfl
  have g1 : DataW.trod enc Tryd.prog w 0 sp held m 3 (([c0, c1, c2, c3, c4].drop 1).take (Tryd.prog.cellsOf 3)) = xs[1]? := hf 1 _ rfl
  have g2 : DataW.trod enc Tryd.prog w 0 sp held m 3 (([c0, c1, c2, c3, c4].drop 2).take (Tryd.prog.cellsOf 3)) = xs[2]? := hf 2 _ rfl
  have g3 : DataW.trod enc Tryd.prog w 0 sp held m 3 (([c0, c1, c2, c3, c4].drop 3).take (Tryd.prog.cellsOf 3)) = xs[3]? := hf 3 _ rfl
  have g4 : DataW.trod enc Tryd.prog w 0 sp held m 3 (([c0, c1, c2, c3, c4].drop 4).take (Tryd.prog.cellsOf 3)) = xs[4]? := hf 4 _ rfl
  rw [hc3, show xs[0]? = some (xs[0]'(by rw [hxl]; decide)) from List.getElem?_eq_getElem _] at g0
  obtain ⟨y0, e0, b0⟩ := int_cellB g0
  simp at e0
  subst e0
  have B0 : I64 y0 := b0
  rw [hc3, show xs[1]? = some (xs[1]'(by rw [hxl]; decide)) from List.getElem?_eq_getElem _] at g1
  obtain ⟨y1, e1, b1⟩ := int_cellB g1
  simp at e1
  subst e1
  have B1 : I64 y1 := b1
  rw [hc3, show xs[2]? = some (xs[2]'(by rw [hxl]; decide)) from List.getElem?_eq_getElem _] at g2
  obtain ⟨y2, e2, b2⟩ := int_cellB g2
  simp at e2
  subst e2
  have B2 : I64 y2 := b2
  rw [hc3, show xs[3]? = some (xs[3]'(by rw [hxl]; decide)) from List.getElem?_eq_getElem _] at g3
  obtain ⟨y3, e3, b3⟩ := int_cellB g3
  simp at e3
  subst e3
  have B3 : I64 y3 := b3
  rw [hc3, show xs[4]? = some (xs[4]'(by rw [hxl]; decide)) from List.getElem?_eq_getElem _] at g4
  obtain ⟨y4, e4, b4⟩ := int_cellB g4
  simp at e4
  subst e4
  have B4 : I64 y4 := b4
  refine ⟨⟨y0, y1, y2, y3, y4⟩, rfl, fun n hn => ?_⟩
  simp only [List.mem_cons, List.not_mem_nil, or_false] at hn
  rcases hn with rfl | rfl | rfl | rfl | rfl <;> assumption

theorem open_podsI {H : Type} {enc : TypeId × Value → H} {w : World} {fuel : Nat} {cs : List Value} {x : DataW H × List MemPlace} (h : DataW.trod enc Tryd.prog w 0 (fun _ => true) true fuel 35 cs = some x) :
    ∃ a len cap, ∃ l : List Pd, cs = [.slice a len cap] ∧ l.length = len ∧ len ≤ maxLen ∧ PodsAt w a l ∧ ∀ k ∈ l, podSI k := by
  have hc : Tryd.prog.cellsOf 145 = 5 := by kernel_rfl
  rcases open_slice Tryd.underlying35 h with ⟨rfl, _⟩ | ⟨a, len, cap, m, n, D, Pl, rfl, _, hlc, hcm, hm, _, hel⟩
  · exact ⟨none, 0, 0, [], rfl, rfl, Nat.zero_le _, .inl rfl, by simp⟩
  · rw [hc] at hel
    simp only [if_true] at hm
    have hk : ∀ i, i < len → ∃ k : Pd, (∀ j, j < 5 → w.cell? (a.add (i * 5 + j)) = some (.int .i64 (k.cell j))) ∧ podSI k := by
      intro i hi
      obtain ⟨cs', h1, h2⟩ := hel i (by omega)
      obtain ⟨k, rfl, b1⟩ := pod_cellsI h2
      refine ⟨k, fun j hj => ?_, b1⟩
      have := cells_at h1 j (by simpa using hj)
      rw [add_add] at this
      rw [this]
      have hj' : j = 0 ∨ j = 1 ∨ j = 2 ∨ j = 3 ∨ j = 4 := by omega
      rcases hj' with rfl | rfl | rfl | rfl | rfl <;> rfl
    obtain ⟨f, hf⟩ := choose_lt hk
    refine ⟨some a, len, cap, (List.range len).map f, rfl, by simp, by omega, ?_, by simp only [List.mem_map, List.mem_range]; rintro k ⟨i, hi, rfl⟩; exact (hf i hi).2⟩
    by_cases h0 : len = 0
    · subst h0; exact .inl (by simp)
    · obtain ⟨b, o, sp⟩ := a
      have hs : sp = none := by
        have := (hf 0 (by omega)).1 0 (by omega)
        cases sp with
        | none => rfl
        | some s => simp [World.cell?, Addr.add] at this; split at this <;> simp at this
      subst hs
      refine .inr ⟨b, o, rfl, ?_, fun i hi j hj => ?_⟩
      · have := (hf 0 (by omega)).1 0 (by omega)
        exact lt_of_cell (by simpa [add_mid'] using this)
      · have := (hf i (by simpa using hi)).1 j hj
        rw [add_mid'] at this
        rw [Nat.add_assoc, this]
        simp

theorem node_cellsI {H : Type} {enc : TypeId × Value → H} {w : World} {sp : Nat → Bool} {held : Bool} {n : Nat} {cs : List Value} {x : DataW H × List MemPlace} (h : DataW.trod enc Tryd.prog w 0 sp held n 147 cs = some x) : ∃ k : Nd, cs = [.int .i64 k.id, .int .i64 k.group, .int .i64 k.boot, .int .i64 k.idle] ∧ nodeSI k := by
  obtain ⟨xs, m, _, _, hl, hxl, hf⟩ := DataW.trod_struct Tryd.underlying147 h
  have hc : Tryd.prog.cellsOf 147 = 4 := by kernel_rfl
  have hc3 : Tryd.prog.cellsOf 3 = 1 := by kernel_rfl
  rw [hc] at hl
  obtain ⟨c0, c1, c2, c3, rfl⟩ := list4 hl
  have g0 : DataW.trod enc Tryd.prog w 0 sp held m 3 (([c0, c1, c2, c3].drop 0).take (Tryd.prog.cellsOf 3)) = xs[0]? := hf 0 _ rfl
  have g1 : DataW.trod enc Tryd.prog w 0 sp held m 3 (([c0, c1, c2, c3].drop 1).take (Tryd.prog.cellsOf 3)) = xs[1]? := hf 1 _ rfl
  have g2 : DataW.trod enc Tryd.prog w 0 sp held m 3 (([c0, c1, c2, c3].drop 2).take (Tryd.prog.cellsOf 3)) = xs[2]? := hf 2 _ rfl
  have g3 : DataW.trod enc Tryd.prog w 0 sp held m 3 (([c0, c1, c2, c3].drop 3).take (Tryd.prog.cellsOf 3)) = xs[3]? := hf 3 _ rfl
  rw [hc3, show xs[0]? = some (xs[0]'(by rw [hxl]; decide)) from List.getElem?_eq_getElem _] at g0
  obtain ⟨y0, e0, b0⟩ := int_cellB g0
  simp at e0
  subst e0
  have B0 : I64 y0 := b0
  rw [hc3, show xs[1]? = some (xs[1]'(by rw [hxl]; decide)) from List.getElem?_eq_getElem _] at g1
  obtain ⟨y1, e1, b1⟩ := int_cellB g1
  simp at e1
  subst e1
  have B1 : I64 y1 := b1
  rw [hc3, show xs[2]? = some (xs[2]'(by rw [hxl]; decide)) from List.getElem?_eq_getElem _] at g2
  obtain ⟨y2, e2, b2⟩ := int_cellB g2
  simp at e2
  subst e2
  have B2 : I64 y2 := b2
  rw [hc3, show xs[3]? = some (xs[3]'(by rw [hxl]; decide)) from List.getElem?_eq_getElem _] at g3
  obtain ⟨y3, e3, b3⟩ := int_cellB g3
  simp at e3
  subst e3
  have B3 : I64 y3 := b3
  refine ⟨⟨y0, y1, y2, y3⟩, rfl, fun n hn => ?_⟩
  simp only [List.mem_cons, List.not_mem_nil, or_false] at hn
  rcases hn with rfl | rfl | rfl | rfl <;> assumption

theorem open_nodesI {H : Type} {enc : TypeId × Value → H} {w : World} {fuel : Nat} {cs : List Value} {x : DataW H × List MemPlace} (h : DataW.trod enc Tryd.prog w 0 (fun _ => true) true fuel 36 cs = some x) :
    ∃ a len cap, ∃ l : List Nd, cs = [.slice a len cap] ∧ l.length = len ∧ len ≤ maxLen ∧ NodesAt w a l ∧ ∀ k ∈ l, nodeSI k := by
  have hc : Tryd.prog.cellsOf 147 = 4 := by kernel_rfl
  rcases open_slice Tryd.underlying36 h with ⟨rfl, _⟩ | ⟨a, len, cap, m, n, D, Pl, rfl, _, hlc, hcm, hm, _, hel⟩
  · exact ⟨none, 0, 0, [], rfl, rfl, Nat.zero_le _, .inl rfl, by simp⟩
  · rw [hc] at hel
    simp only [if_true] at hm
    have hk : ∀ i, i < len → ∃ k : Nd, (∀ j, j < 4 → w.cell? (a.add (i * 4 + j)) = some (.int .i64 (k.cell j))) ∧ nodeSI k := by
      intro i hi
      obtain ⟨cs', h1, h2⟩ := hel i (by omega)
      obtain ⟨k, rfl, b1⟩ := node_cellsI h2
      refine ⟨k, fun j hj => ?_, b1⟩
      have := cells_at h1 j (by simpa using hj)
      rw [add_add] at this
      rw [this]
      have hj' : j = 0 ∨ j = 1 ∨ j = 2 ∨ j = 3 := by omega
      rcases hj' with rfl | rfl | rfl | rfl <;> rfl
    obtain ⟨f, hf⟩ := choose_lt hk
    refine ⟨some a, len, cap, (List.range len).map f, rfl, by simp, by omega, ?_, by simp only [List.mem_map, List.mem_range]; rintro k ⟨i, hi, rfl⟩; exact (hf i hi).2⟩
    by_cases h0 : len = 0
    · subst h0; exact .inl (by simp)
    · obtain ⟨b, o, sp⟩ := a
      have hs : sp = none := by
        have := (hf 0 (by omega)).1 0 (by omega)
        cases sp with
        | none => rfl
        | some s => simp [World.cell?, Addr.add] at this; split at this <;> simp at this
      subst hs
      refine .inr ⟨b, o, rfl, ?_, fun i hi j hj => ?_⟩
      · have := (hf 0 (by omega)).1 0 (by omega)
        exact lt_of_cell (by simpa [add_mid'] using this)
      · have := (hf i (by simpa using hi)).1 j hj
        rw [add_mid'] at this
        rw [Nat.add_assoc, this]
        simp

theorem ws_cellsI {H : Type} {enc : TypeId × Value → H} {w : World} {sp : Nat → Bool} {held : Bool} {n : Nat} {cs : List Value} {x : DataW H × List MemPlace} (h : DataW.trod enc Tryd.prog w 0 sp held n 149 cs = some x) : ∃ k : Ws, cs = [.int .i64 k.want, .int .i64 k.load, .int .i64 k.low] ∧ workSI k := by
  obtain ⟨xs, m, _, _, hl, hxl, hf⟩ := DataW.trod_struct Tryd.underlying149 h
  have hc : Tryd.prog.cellsOf 149 = 3 := by kernel_rfl
  have hc3 : Tryd.prog.cellsOf 3 = 1 := by kernel_rfl
  rw [hc] at hl
  obtain ⟨c0, c1, c2, rfl⟩ := list3 hl
  have g0 : DataW.trod enc Tryd.prog w 0 sp held m 3 (([c0, c1, c2].drop 0).take (Tryd.prog.cellsOf 3)) = xs[0]? := hf 0 _ rfl
  have g1 : DataW.trod enc Tryd.prog w 0 sp held m 3 (([c0, c1, c2].drop 1).take (Tryd.prog.cellsOf 3)) = xs[1]? := hf 1 _ rfl
  have g2 : DataW.trod enc Tryd.prog w 0 sp held m 3 (([c0, c1, c2].drop 2).take (Tryd.prog.cellsOf 3)) = xs[2]? := hf 2 _ rfl
  rw [hc3, show xs[0]? = some (xs[0]'(by rw [hxl]; decide)) from List.getElem?_eq_getElem _] at g0
  obtain ⟨y0, e0, b0⟩ := int_cellB g0
  simp at e0
  subst e0
  have B0 : I64 y0 := b0
  rw [hc3, show xs[1]? = some (xs[1]'(by rw [hxl]; decide)) from List.getElem?_eq_getElem _] at g1
  obtain ⟨y1, e1, b1⟩ := int_cellB g1
  simp at e1
  subst e1
  have B1 : I64 y1 := b1
  rw [hc3, show xs[2]? = some (xs[2]'(by rw [hxl]; decide)) from List.getElem?_eq_getElem _] at g2
  obtain ⟨y2, e2, b2⟩ := int_cellB g2
  simp at e2
  subst e2
  have B2 : I64 y2 := b2
  refine ⟨⟨y0, y1, y2⟩, rfl, fun n hn => ?_⟩
  simp only [List.mem_cons, List.not_mem_nil, or_false] at hn
  rcases hn with rfl | rfl | rfl <;> assumption

theorem open_wssI {H : Type} {enc : TypeId × Value → H} {w : World} {fuel : Nat} {cs : List Value} {x : DataW H × List MemPlace} (h : DataW.trod enc Tryd.prog w 0 (fun _ => true) true fuel 37 cs = some x) :
    ∃ a len cap, ∃ l : List Ws, cs = [.slice a len cap] ∧ l.length = len ∧ len ≤ maxLen ∧ WssAt w a l ∧ ∀ k ∈ l, workSI k := by
  have hc : Tryd.prog.cellsOf 149 = 3 := by kernel_rfl
  rcases open_slice Tryd.underlying37 h with ⟨rfl, _⟩ | ⟨a, len, cap, m, n, D, Pl, rfl, _, hlc, hcm, hm, _, hel⟩
  · exact ⟨none, 0, 0, [], rfl, rfl, Nat.zero_le _, .inl rfl, by simp⟩
  · rw [hc] at hel
    simp only [if_true] at hm
    have hk : ∀ i, i < len → ∃ k : Ws, (∀ j, j < 3 → w.cell? (a.add (i * 3 + j)) = some (.int .i64 (k.cell j))) ∧ workSI k := by
      intro i hi
      obtain ⟨cs', h1, h2⟩ := hel i (by omega)
      obtain ⟨k, rfl, b1⟩ := ws_cellsI h2
      refine ⟨k, fun j hj => ?_, b1⟩
      have := cells_at h1 j (by simpa using hj)
      rw [add_add] at this
      rw [this]
      have hj' : j = 0 ∨ j = 1 ∨ j = 2 := by omega
      rcases hj' with rfl | rfl | rfl <;> rfl
    obtain ⟨f, hf⟩ := choose_lt hk
    refine ⟨some a, len, cap, (List.range len).map f, rfl, by simp, by omega, ?_, by simp only [List.mem_map, List.mem_range]; rintro k ⟨i, hi, rfl⟩; exact (hf i hi).2⟩
    by_cases h0 : len = 0
    · subst h0; exact .inl (by simp)
    · obtain ⟨b, o, sp⟩ := a
      have hs : sp = none := by
        have := (hf 0 (by omega)).1 0 (by omega)
        cases sp with
        | none => rfl
        | some s => simp [World.cell?, Addr.add] at this; split at this <;> simp at this
      subst hs
      refine .inr ⟨b, o, rfl, ?_, fun i hi j hj => ?_⟩
      · have := (hf 0 (by omega)).1 0 (by omega)
        exact lt_of_cell (by simpa [add_mid'] using this)
      · have := (hf i (by simpa using hi)).1 j hj
        rw [add_mid'] at this
        rw [Nat.add_assoc, this]
        simp

theorem gs_cellsI {H : Type} {enc : TypeId × Value → H} {w : World} {sp : Nat → Bool} {held : Bool} {n : Nat} {cs : List Value} {x : DataW H × List MemPlace} (h : DataW.trod enc Tryd.prog w 0 sp held n 151 cs = some x) : ∃ k : Gs, cs = [.int .i64 k.asked, .int .i64 k.rest, .int .i64 k.fails] ∧ groupSI k := by
  obtain ⟨xs, m, _, _, hl, hxl, hf⟩ := DataW.trod_struct Tryd.underlying151 h
  have hc : Tryd.prog.cellsOf 151 = 3 := by kernel_rfl
  have hc3 : Tryd.prog.cellsOf 3 = 1 := by kernel_rfl
  rw [hc] at hl
  obtain ⟨c0, c1, c2, rfl⟩ := list3 hl
  have g0 : DataW.trod enc Tryd.prog w 0 sp held m 3 (([c0, c1, c2].drop 0).take (Tryd.prog.cellsOf 3)) = xs[0]? := hf 0 _ rfl
  have g1 : DataW.trod enc Tryd.prog w 0 sp held m 3 (([c0, c1, c2].drop 1).take (Tryd.prog.cellsOf 3)) = xs[1]? := hf 1 _ rfl
  have g2 : DataW.trod enc Tryd.prog w 0 sp held m 3 (([c0, c1, c2].drop 2).take (Tryd.prog.cellsOf 3)) = xs[2]? := hf 2 _ rfl
  rw [hc3, show xs[0]? = some (xs[0]'(by rw [hxl]; decide)) from List.getElem?_eq_getElem _] at g0
  obtain ⟨y0, e0, b0⟩ := int_cellB g0
  simp at e0
  subst e0
  have B0 : I64 y0 := b0
  rw [hc3, show xs[1]? = some (xs[1]'(by rw [hxl]; decide)) from List.getElem?_eq_getElem _] at g1
  obtain ⟨y1, e1, b1⟩ := int_cellB g1
  simp at e1
  subst e1
  have B1 : I64 y1 := b1
  rw [hc3, show xs[2]? = some (xs[2]'(by rw [hxl]; decide)) from List.getElem?_eq_getElem _] at g2
  obtain ⟨y2, e2, b2⟩ := int_cellB g2
  simp at e2
  subst e2
  have B2 : I64 y2 := b2
  refine ⟨⟨y0, y1, y2⟩, rfl, fun n hn => ?_⟩
  simp only [List.mem_cons, List.not_mem_nil, or_false] at hn
  rcases hn with rfl | rfl | rfl <;> assumption

theorem open_gssI {H : Type} {enc : TypeId × Value → H} {w : World} {fuel : Nat} {cs : List Value} {x : DataW H × List MemPlace} (h : DataW.trod enc Tryd.prog w 0 (fun _ => true) true fuel 38 cs = some x) :
    ∃ a len cap, ∃ l : List Gs, cs = [.slice a len cap] ∧ l.length = len ∧ len ≤ maxLen ∧ GssAt w a l ∧ ∀ k ∈ l, groupSI k := by
  have hc : Tryd.prog.cellsOf 151 = 3 := by kernel_rfl
  rcases open_slice Tryd.underlying38 h with ⟨rfl, _⟩ | ⟨a, len, cap, m, n, D, Pl, rfl, _, hlc, hcm, hm, _, hel⟩
  · exact ⟨none, 0, 0, [], rfl, rfl, Nat.zero_le _, .inl rfl, by simp⟩
  · rw [hc] at hel
    simp only [if_true] at hm
    have hk : ∀ i, i < len → ∃ k : Gs, (∀ j, j < 3 → w.cell? (a.add (i * 3 + j)) = some (.int .i64 (k.cell j))) ∧ groupSI k := by
      intro i hi
      obtain ⟨cs', h1, h2⟩ := hel i (by omega)
      obtain ⟨k, rfl, b1⟩ := gs_cellsI h2
      refine ⟨k, fun j hj => ?_, b1⟩
      have := cells_at h1 j (by simpa using hj)
      rw [add_add] at this
      rw [this]
      have hj' : j = 0 ∨ j = 1 ∨ j = 2 := by omega
      rcases hj' with rfl | rfl | rfl <;> rfl
    obtain ⟨f, hf⟩ := choose_lt hk
    refine ⟨some a, len, cap, (List.range len).map f, rfl, by simp, by omega, ?_, by simp only [List.mem_map, List.mem_range]; rintro k ⟨i, hi, rfl⟩; exact (hf i hi).2⟩
    by_cases h0 : len = 0
    · subst h0; exact .inl (by simp)
    · obtain ⟨b, o, sp⟩ := a
      have hs : sp = none := by
        have := (hf 0 (by omega)).1 0 (by omega)
        cases sp with
        | none => rfl
        | some s => simp [World.cell?, Addr.add] at this; split at this <;> simp at this
      subst hs
      refine .inr ⟨b, o, rfl, ?_, fun i hi j hj => ?_⟩
      · have := (hf 0 (by omega)).1 0 (by omega)
        exact lt_of_cell (by simpa [add_mid'] using this)
      · have := (hf i (by simpa using hi)).1 j hj
        rw [add_mid'] at this
        rw [Nat.add_assoc, this]
        simp

set_option maxRecDepth 100000 in
theorem open_stateI {H : Type} {enc : TypeId × Value → H} {W : World} {b0 : Nat} {v : Value} {d : DataW H} {p : List MemPlace} (hv : Value.okWide Tryd.prog W .any b0 40 v) (h : DataW.Trod enc Tryd.prog W 0 (fun _ => true) true 40 v d p) :
    ∃ s : St, StateIn W v s ∧ StI s := by
  obtain ⟨cs, rfl, hsz⟩ := okWide_struct Tryd.underlying40 hv
  have hc : Tryd.prog.cellsOf 40 = 6 := by kernel_rfl
  have hc3 : Tryd.prog.cellsOf 3 = 1 := by kernel_rfl
  have hc44 : Tryd.prog.cellsOf 35 = 1 := by kernel_rfl
  have hc45 : Tryd.prog.cellsOf 36 = 1 := by kernel_rfl
  have hc46 : Tryd.prog.cellsOf 37 = 1 := by kernel_rfl
  have hc47 : Tryd.prog.cellsOf 38 = 1 := by kernel_rfl
  rw [hc] at hsz
  obtain ⟨l, rfl⟩ : ∃ l : List Value, cs = l.toArray := ⟨cs.toList, by simp⟩
  obtain ⟨c0, c1, c2, c3, c4, c5, rfl⟩ := list6 (by simpa using hsz)
  obtain ⟨fuel, hf0⟩ := h
  obtain ⟨xs, m, _, _, _, hxl, hf⟩ := DataW.trod_struct Tryd.underlying40 hf0
  have g0 : DataW.trod enc Tryd.prog W 0 (fun _ => true) true m 35 (([c0, c1, c2, c3, c4, c5].drop 0).take (Tryd.prog.cellsOf 35)) = xs[0]? := hf 0 _ rfl
  have g1 : DataW.trod enc Tryd.prog W 0 (fun _ => true) true m 36 (([c0, c1, c2, c3, c4, c5].drop 1).take (Tryd.prog.cellsOf 36)) = xs[1]? := hf 1 _ rfl
  have g2 : DataW.trod enc Tryd.prog W 0 (fun _ => true) true m 37 (([c0, c1, c2, c3, c4, c5].drop 2).take (Tryd.prog.cellsOf 37)) = xs[2]? := hf 2 _ rfl
  have g3 : DataW.trod enc Tryd.prog W 0 (fun _ => true) true m 38 (([c0, c1, c2, c3, c4, c5].drop 3).take (Tryd.prog.cellsOf 38)) = xs[3]? := hf 3 _ rfl
  have g4 : DataW.trod enc Tryd.prog W 0 (fun _ => true) true m 3 (([c0, c1, c2, c3, c4, c5].drop 4).take (Tryd.prog.cellsOf 3)) = xs[4]? := hf 4 _ rfl
  have g5 : DataW.trod enc Tryd.prog W 0 (fun _ => true) true m 3 (([c0, c1, c2, c3, c4, c5].drop 5).take (Tryd.prog.cellsOf 3)) = xs[5]? := hf 5 _ rfl
  rw [hc44, show xs[0]? = some (xs[0]'(by rw [hxl]; decide)) from List.getElem?_eq_getElem _] at g0
  rw [hc45, show xs[1]? = some (xs[1]'(by rw [hxl]; decide)) from List.getElem?_eq_getElem _] at g1
  rw [hc46, show xs[2]? = some (xs[2]'(by rw [hxl]; decide)) from List.getElem?_eq_getElem _] at g2
  rw [hc47, show xs[3]? = some (xs[3]'(by rw [hxl]; decide)) from List.getElem?_eq_getElem _] at g3
  rw [hc3, show xs[4]? = some (xs[4]'(by rw [hxl]; decide)) from List.getElem?_eq_getElem _] at g4
  rw [hc3, show xs[5]? = some (xs[5]'(by rw [hxl]; decide)) from List.getElem?_eq_getElem _] at g5
  obtain ⟨a0, l0, n0, L0, e0, x0, y0, z0, p0⟩ := open_podsI g0
  obtain ⟨a1, l1, n1, L1, e1, x1, y1, z1, p1⟩ := open_nodesI g1
  obtain ⟨a2, l2, n2, L2, e2, x2, y2, z2, p2⟩ := open_wssI g2
  obtain ⟨a3, l3, n3, L3, e3, x3, y3, z3, p3⟩ := open_gssI g3
  obtain ⟨z4, e4, b4⟩ := int_cellB g4
  obtain ⟨z5, e5, b5⟩ := int_cellB g5
  simp at e0 e1 e2 e3 e4 e5
  subst e0 e1 e2 e3 e4 e5
  unfold maxLen at y0 y1 y2 y3
  have B4 : I64 z4 := b4
  have B5 : I64 z5 := b5
  refine ⟨⟨L0, L1, L2, L3, z4, z5⟩, ⟨a0, l0, n0, a1, l1, n1, a2, l2, n2, a3, l3, n3, rfl, ⟨x0, by omega, z0⟩, ⟨x1, by omega, z1⟩, ⟨x2, by omega, z2⟩, ⟨x3, by omega, z3⟩, fun k hk => p3 k hk k.asked (by simp)⟩, fun n hn => ?_, p2, p3, p1, p0⟩
  simp only [List.mem_cons, List.not_mem_nil, or_false] at hn
  rcases hn with rfl | rfl <;> assumption
end Go.Proofs.YtoceohacplmgnaaDoor
