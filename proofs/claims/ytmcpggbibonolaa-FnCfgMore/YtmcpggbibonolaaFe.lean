/- Plain facts: lists of works and groups laid flat; the bound grows with a wait, with nodes, with pods. -/
import Derived.Test.YtmcpggbibonolaaDc
import Derived.Test.YtmcpggbibonolaaFc
namespace Go.Proofs.Ytmcpggbibonolaa
open Go.RowKit

def flatG : List Gp → List Value
  | [] => []
  | g :: r => .int .i64 g.cpu :: .int .i64 g.mem :: .int .i64 g.min :: .int .i64 g.max :: .int .i64 g.boot :: flatG r
def flatW : List Wk → List Value
  | [] => []
  | g :: r => .int .i64 g.cpu :: .int .i64 g.mem :: .int .i64 g.min :: .int .i64 g.max :: .int .i64 g.target :: .int .i64 g.limit :: .int .i64 g.tol :: .int .i64 g.rank :: flatW r
theorem flatG_len : ∀ l : List Gp, (flatG l).length = l.length * 5
  | [] => rfl
  | g :: r => by simp only [flatG, List.length_cons, flatG_len r]; omega
theorem flatW_len : ∀ l : List Wk, (flatW l).length = l.length * 8
  | [] => rfl
  | g :: r => by simp only [flatW, List.length_cons, flatW_len r]; omega
theorem flatG_ints : ∀ l : List Gp, ∀ u ∈ flatG l, u.oneCell' = true
  | [], u, h => by cases h
  | g :: r, u, h => by
    simp only [flatG, List.mem_cons] at h
    rcases h with rfl | rfl | rfl | rfl | rfl | h
    all_goals first | rfl | exact flatG_ints r u h
theorem flatW_ints : ∀ l : List Wk, ∀ u ∈ flatW l, u.oneCell' = true
  | [], u, h => by cases h
  | g :: r, u, h => by
    simp only [flatW, List.mem_cons] at h
    rcases h with rfl | rfl | rfl | rfl | rfl | rfl | rfl | rfl | h
    all_goals first | rfl | exact flatW_ints r u h
theorem flatG_at : ∀ (l : List Gp) (i : Nat) (h : i < l.length) (j : Nat), j < 5 → (flatG l)[i * 5 + j]? = some (.int .i64 (l[i].cell j))
  | [], i, h, _, _ => by simp at h
  | g :: r, 0, h, j, hj => by
    have hj' : j = 0 ∨ j = 1 ∨ j = 2 ∨ j = 3 ∨ j = 4 := by omega
    rcases hj' with rfl | rfl | rfl | rfl | rfl <;> rfl
  | g :: r, i + 1, h, j, hj => by
    have := flatG_at r i (by simpa using h) j hj
    have e : (i + 1) * 5 + j = (i * 5 + j) + 1 + 1 + 1 + 1 + 1 := by omega
    rw [e]
    simpa only [flatG, List.getElem?_cons_succ, List.getElem_cons_succ] using this
theorem flatW_at : ∀ (l : List Wk) (i : Nat) (h : i < l.length) (j : Nat), j < 8 → (flatW l)[i * 8 + j]? = some (.int .i64 (l[i].cell j))
  | [], i, h, _, _ => by simp at h
  | g :: r, 0, h, j, hj => by
    have hj' : j = 0 ∨ j = 1 ∨ j = 2 ∨ j = 3 ∨ j = 4 ∨ j = 5 ∨ j = 6 ∨ j = 7 := by omega
    rcases hj' with rfl | rfl | rfl | rfl | rfl | rfl | rfl | rfl <;> rfl
  | g :: r, i + 1, h, j, hj => by
    have := flatW_at r i (by simpa using h) j hj
    have e : (i + 1) * 8 + j = (i * 8 + j) + 1 + 1 + 1 + 1 + 1 + 1 + 1 + 1 := by omega
    rw [e]
    simpa only [flatW, List.getElem?_cons_succ, List.getElem_cons_succ] using this
theorem at_add {w : World} {b off i : Nat} {v : Value} (h : w.cell? ⟨b, off + i, none⟩ = some v) : w.cell? ((⟨b, off, none⟩ : Addr).add i) = some v := by
  by_cases hi : i = 0
  · subst hi; simpa [Addr.add] using h
  · simpa [Addr.add, hi] using h
/-- The cells of a list in memory are the list laid flat. -/
theorem GroupsAt.flat {w : World} {a : Option Addr} {l : List Gp} (h : GroupsAt w a l) (hl : 0 < l.length) : ∃ b o, a = some ⟨b, o, none⟩ ∧ b < w.heap.size ∧ ∀ j u, (flatG l)[j]? = some u → w.cell? ((⟨b, o, none⟩ : Addr).add j) = some u := by
  rcases h with h | ⟨b, o, ha, hb, hc⟩
  · subst h; simp at hl
  · refine ⟨b, o, ha, hb, fun j u hj => at_add ?_⟩
    have hjl : j < l.length * 5 := by rw [← flatG_len]; exact (List.getElem?_eq_some_iff.1 hj).1
    have h1 := flatG_at l (j / 5) (by omega) (j % 5) (by omega)
    have e : j / 5 * 5 + j % 5 = j := by omega
    rw [e, hj] at h1
    have h2 := hc (j / 5) (by omega) (j % 5) (by omega)
    rw [h1, ← h2]
    congr 2; omega
theorem WorksAt.flat {w : World} {a : Option Addr} {l : List Wk} (h : WorksAt w a l) (hl : 0 < l.length) : ∃ b o, a = some ⟨b, o, none⟩ ∧ b < w.heap.size ∧ ∀ j u, (flatW l)[j]? = some u → w.cell? ((⟨b, o, none⟩ : Addr).add j) = some u := by
  rcases h with h | ⟨b, o, ha, hb, hc⟩
  · subst h; simp at hl
  · refine ⟨b, o, ha, hb, fun j u hj => at_add ?_⟩
    have hjl : j < l.length * 8 := by rw [← flatW_len]; exact (List.getElem?_eq_some_iff.1 hj).1
    have h1 := flatW_at l (j / 8) (by omega) (j % 8) (by omega)
    have e : j / 8 * 8 + j % 8 = j := by omega
    rw [e, hj] at h1
    have h2 := hc (j / 8) (by omega) (j % 8) (by omega)
    rw [h1, ← h2]
    congr 2; omega
theorem groups_flat {w : World} {base g n c : Nat} {l : List Gp} (h : w.ownsRow base 37 5 (.slice (some ⟨g, 0, none⟩) n c) n (flatG l)) : GroupsAt w (some ⟨g, 0, none⟩) l ∧ l.length = n := by
  have hn : l.length = n := by have := h.1; rw [flatG_len] at this; omega
  refine ⟨.inr ⟨g, 0, rfl, (h.lt g rfl).2, fun i hi j hj => ?_⟩, hn⟩
  have hb : i * 5 + j < n * 5 := by have := Nat.mul_le_mul_right 5 (show i + 1 ≤ n by omega); omega
  rw [Nat.zero_add, h.cellAt _ hb]
  exact flatG_at l i hi j hj
theorem works_flat {w : World} {base g n c : Nat} {l : List Wk} (h : w.ownsRow base 40 8 (.slice (some ⟨g, 0, none⟩) n c) n (flatW l)) : WorksAt w (some ⟨g, 0, none⟩) l ∧ l.length = n := by
  have hn : l.length = n := by have := h.1; rw [flatW_len] at this; omega
  refine ⟨.inr ⟨g, 0, rfl, (h.lt g rfl).2, fun i hi j hj => ?_⟩, hn⟩
  have hb : i * 8 + j < n * 8 := by have := Nat.mul_le_mul_right 8 (show i + 1 ≤ n by omega); omega
  rw [Nat.zero_add, h.cellAt _ hb]
  exact flatW_at l i hi j hj

/-- The first group, the first work with one more. -/
def moreG (g : Gp) : Gp := { g with max := g.max + 1 }
def moreW (g : Wk) : Wk := { g with max := g.max + 1 }
theorem flatG_more (g : Gp) (r : List Gp) : (flatG (g :: r)).set 3 (.int .i64 (g.max + 1)) = flatG (moreG g :: r) := rfl
theorem flatW_more (g : Wk) (r : List Wk) : (flatW (g :: r)).set 3 (.int .i64 (g.max + 1)) = flatW (moreW g :: r) := rfl

theorem mul_lt_r {t a b : Int} (h : 1 ≤ t) (hab : a < b) : t * a < t * b := Int.mul_lt_mul_of_pos_left hab (by omega)
theorem mul_le_r {t a b : Int} (h : 0 ≤ t) (hab : a ≤ b) : t * a ≤ t * b := Int.mul_le_mul_of_nonneg_left hab h
theorem mul_le_l {t a b : Int} (h : 0 ≤ t) (hab : a ≤ b) : a * t ≤ b * t := Int.mul_le_mul_of_nonneg_right hab h

theorem more_start (c : Cf) (h : cfgOk c = true) (h2 : cfgOk { c with start := c.start + 1 } = true) (f : Int) (h0 : 0 ≤ f) (h1 : f ≤ 100) : boundOf c f < boundOf { c with start := c.start + 1 } f := by
  have a1 := nodesOf_bd c h
  have a2 := mostBoot_bd' c h
  have a3 := sumTurns_bd' c h
  have e1 : inB f 0 100 = true := in_iff.2 ⟨h0, by omega⟩
  have e2 : nodesOf { c with start := c.start + 1 } = nodesOf c := by simp only [nodesOf, h, h2]
  simp only [boundOf, h, h2, e1, e2, Bool.and_self, if_true, boundI]
  have := mul_lt_r (t := 2 + sumTurns c.works) (a := (nodesOf c + 1) * (mostBoot c.groups + 3) + c.start + c.calm + 4) (b := (nodesOf c + 1) * (mostBoot c.groups + 3) + (c.start + 1) + c.calm + 4) (by omega) (by omega)
  omega
theorem more_nodes (c : Cf) (g : Gp) (r : List Gp) (hc : c.groups = g :: r) (h : cfgOk c = true) (h2 : cfgOk { c with groups := moreG g :: r } = true) (f : Int) (h0 : 0 ≤ f) (h1 : f ≤ 100) :
    nodesOf { c with groups := moreG g :: r } = nodesOf c + 1 ∧ boundOf c f < boundOf { c with groups := moreG g :: r } f := by
  have a1 := nodesOf_bd c h
  have a2 := mostBoot_bd' c h
  have a3 := sumTurns_bd' c h
  have a4 := ok_of_waits h
  have e1 : inB f 0 100 = true := in_iff.2 ⟨h0, by omega⟩
  have e2 : nodesOf { c with groups := moreG g :: r } = nodesOf c + 1 := by
    simp only [nodesOf, h, h2, if_true, hc]; simp only [sumMaxG, moreG, List.map_cons, List.sum_cons]; omega
  have e3 : mostBoot (moreG g :: r) = mostBoot c.groups := by rw [hc]; rfl
  refine ⟨e2, ?_⟩
  simp only [boundOf, h, h2, e1, e2, e3, Bool.and_self, if_true, boundI]
  have m1 : (nodesOf c + 1) * (mostBoot c.groups + 3) ≤ (nodesOf c + 1 + 1) * (mostBoot c.groups + 3) := mul_le_l (by omega) (by omega)
  have m2 := mul_le_r (t := 2 + sumTurns c.works) (a := (nodesOf c + 1) * (mostBoot c.groups + 3) + c.start + c.calm + 4) (b := (nodesOf c + 1 + 1) * (mostBoot c.groups + 3) + c.start + c.calm + 4) (by omega) (by omega)
  have m3 : (nodesOf c + 1) * (c.idle + 2) < (nodesOf c + 1 + 1) * (c.idle + 2) := by rw [Int.add_mul (nodesOf c + 1) 1 (c.idle + 2), Int.one_mul]; omega
  omega
theorem more_pods (c : Cf) (g : Wk) (r : List Wk) (hc : c.works = g :: r) (h : cfgOk c = true) (h2 : cfgOk { c with works := moreW g :: r } = true) (f : Int) (h0 : 0 ≤ f) (h1 : f ≤ 100) :
    podsOf { c with works := moreW g :: r } = podsOf c + 1 ∧ boundOf c f < boundOf { c with works := moreW g :: r } f := by
  have a1 := nodesOf_bd c h
  have a2 := mostBoot_bd' c h
  have a3 := sumTurns_bd' c h
  have a4 := ok_of_waits h
  have e1 : inB f 0 100 = true := in_iff.2 ⟨h0, by omega⟩
  have e2 : podsOf { c with works := moreW g :: r } = podsOf c + 1 := by
    simp only [podsOf, h, h2, if_true, hc]; simp only [sumMax, moreW, List.map_cons, List.sum_cons]; omega
  have e3 : sumTurns (moreW g :: r) = sumTurns c.works + 1 := by
    rw [hc]; simp only [sumTurns, moreW, List.map_cons, List.sum_cons]; omega
  have e4 : nodesOf { c with works := moreW g :: r } = nodesOf c := by simp only [nodesOf, h, h2]
  refine ⟨e2, ?_⟩
  simp only [boundOf, h, h2, e1, e3, e4, Bool.and_self, if_true, boundI]
  have m1 : 0 ≤ (nodesOf c + 1) * (mostBoot c.groups + 3) := Int.mul_nonneg (by omega) (by omega)
  have m2 : (2 + sumTurns c.works) * ((nodesOf c + 1) * (mostBoot c.groups + 3) + c.start + c.calm + 4) < (2 + (sumTurns c.works + 1)) * ((nodesOf c + 1) * (mostBoot c.groups + 3) + c.start + c.calm + 4) :=
    Int.mul_lt_mul_of_pos_right (by omega) (by omega)
  omega
end Go.Proofs.Ytmcpggbibonolaa
