/- Rows of records in memory of one's own. -/
import Derived.Test.YthdlkpgialmlfaaGreatDoorGa
import Derived.Test.YthdlkpgialmlfaaGreatDoorBk
namespace Go.Proofs.YthdlkpgialmlfaaGreatDoor
open Go.RowKit

/-- The cells of one record. -/
def rowOf {α : Type} (m : Nat) (cell : α → Nat → Int) (x : α) : List Value := (List.range m).map fun j => .int .i64 (cell x j)
/-- The cells of a list of records. -/
def flat {α : Type} (m : Nat) (cell : α → Nat → Int) (l : List α) : List Value := l.flatMap (rowOf m cell)
section
variable {α : Type} {m : Nat} {cell : α → Nat → Int}
theorem rowOf_length (x : α) : (rowOf m cell x).length = m := by simp [rowOf]
theorem rowOf_get (x : α) (j : Nat) (hj : j < m) : (rowOf m cell x)[j]? = some (.int .i64 (cell x j)) := by simp [rowOf, hj]
theorem flat_nil : flat m cell [] = [] := rfl
theorem flat_cons (x : α) (l : List α) : flat m cell (x :: l) = rowOf m cell x ++ flat m cell l := by simp [flat]
theorem flat_append (l l' : List α) : flat m cell (l ++ l') = flat m cell l ++ flat m cell l' := by simp [flat]
theorem flat_one (x : α) : flat m cell [x] = rowOf m cell x := by simp [flat]
theorem flat_length (l : List α) : (flat m cell l).length = l.length * m := by
  induction l with
  | nil => simp [flat_nil]
  | cons x l ih => rw [flat_cons, List.length_append, rowOf_length, ih, List.length_cons, Nat.add_mul]; omega
theorem flat_get : ∀ (l : List α) (i : Nat) (h : i < l.length) (j : Nat), j < m → (flat m cell l)[i * m + j]? = some (.int .i64 (cell l[i] j))
  | x :: l, 0, _, j, hj => by
    rw [flat_cons, List.getElem?_append_left (by rw [rowOf_length]; omega), Nat.zero_mul, Nat.zero_add, rowOf_get x j hj]; rfl
  | x :: l, i + 1, h, j, hj => by
    rw [flat_cons, List.getElem?_append_right (by rw [rowOf_length, Nat.add_mul]; omega), rowOf_length, show (i + 1) * m + j - m = i * m + j by rw [Nat.add_mul]; omega]
    simpa using flat_get l i (by simpa using h) j hj
theorem flat_int (l : List α) : ∀ u ∈ flat m cell l, u.oneCell' = true := by
  intro u hu
  simp only [flat, rowOf, List.mem_flatMap, List.mem_map] at hu
  obtain ⟨x, _, j, _, rfl⟩ := hu
  rfl
/-- One field of one record is set. -/
theorem flat_set (l : List α) (i : Nat) (h : i < l.length) (j : Nat) (hj : j < m) (x : α) (z : Int) (hx : ∀ j', j' < m → cell x j' = if j' = j then z else cell l[i] j') :
    (flat m cell l).set (i * m + j) (.int .i64 z) = flat m cell (l.set i x) := by
  apply List.ext_getElem?
  intro k
  by_cases hk : k < l.length * m
  · have hm : 0 < m := by omega
    obtain ⟨a, b, hb, rfl⟩ : ∃ a b, b < m ∧ k = a * m + b := ⟨k / m, k % m, Nat.mod_lt _ hm, by rw [Nat.mul_comm]; exact (Nat.div_add_mod k m).symm⟩
    have ha : a < l.length := by
      rcases Nat.lt_or_ge a l.length with h' | h'
      · exact h'
      · have := Nat.mul_le_mul_right m h'; omega
    rw [flat_get (l.set i x) a (by simpa using ha) b hb]
    by_cases e : a = i
    · subst e
      by_cases e' : b = j
      · subst e'
        rw [List.getElem?_set_self (by rw [flat_length]; exact hk)]
        simp [hx b hb]
      · rw [List.getElem?_set_ne (by omega), flat_get l a ha b hb]
        simp [hx b hb, e']
    · have : i * m + j ≠ a * m + b := by
        intro he
        rcases Nat.lt_or_gt_of_ne e with h' | h'
        · have := Nat.mul_le_mul_right m (show a + 1 ≤ i from h'); rw [Nat.add_mul] at this; omega
        · have := Nat.mul_le_mul_right m (show i + 1 ≤ a from h'); rw [Nat.add_mul] at this; omega
      rw [List.getElem?_set_ne this, flat_get l a ha b hb]
      rw [List.getElem_set_ne (fun e' => e e'.symm)]
  · rw [List.getElem?_eq_none (by rw [List.length_set, flat_length]; omega), List.getElem?_eq_none (by rw [flat_length, List.length_set]; omega)]

/-- The list l lies, whole and one's own, in a row from base on. -/
def Owns (m : Nat) (cell : α → Nat → Int) (T : TypeId) (base : Nat) (w : World) (v : Value) (l : List α) : Prop := w.ownsRow base T m v l.length (flat m cell l)
theorem Owns.form {T : TypeId} {base : Nat} {w : World} {v : Value} {l : List α} (h : Owns m cell T base w v l) : ∃ a c, v = .slice a l.length c ∧ RowsAt m cell w a l := by
  rcases h.2 with ⟨h1, h2⟩ | ⟨g, cap, cur, h1, _⟩
  · exact ⟨none, 0, by rw [h2]; exact h1, .inl (List.length_eq_zero_iff.1 h2)⟩
  · refine ⟨some ⟨g, 0, none⟩, cap, h1, .inr ⟨g, 0, rfl, ?_, fun i hi j hj => ?_⟩⟩
    · exact (h.lt g (by rw [h1]; rfl)).2
    · have h' : w.ownsRow base T m (.slice (some ⟨g, 0, none⟩) l.length cap) l.length (flat m cell l) := by rw [← h1]; exact h
      have hlt : i * m + j < l.length * m := by have := Nat.mul_le_mul_right m (show i + 1 ≤ l.length from hi); rw [Nat.add_mul] at this; omega
      rw [Nat.zero_add, h'.cellAt _ hlt, flat_get l i hi j hj]
theorem Owns.keep {T : TypeId} {base : Nat} {w w' : World} {v : Value} {l : List α} (h : Owns m cell T base w v l) (hb : Below w.heap.size w w') : Owns m cell T base w' v l := World.ownsRow.kept h (bel_grown hb) (by cases h' : v.ownBlock <;> simp)
theorem Owns.lt {T : TypeId} {base : Nat} {w : World} {v : Value} {l : List α} (h : Owns m cell T base w v l) : ∀ k, v.ownBlock = some k → base ≤ k ∧ k < w.heap.size := World.ownsRow.lt h
theorem Owns.alloc {T : TypeId} {base : Nat} {w : World} {v : Value} {l : List α} (h : Owns m cell T base w v l) (o : Obj) : Owns m cell T base (w.alloc o) v l := World.ownsRow.alloc h o
theorem Owns.far {T : TypeId} {base : Nat} {w : World} {v : Value} {l : List α} (h : Owns m cell T base w v l) {p : Addr} (u : Value) (hp : ∀ k, v.ownBlock = some k → k ≠ p.block) : Owns m cell T base (w.setCell p u) v l := by
  refine World.ownsRow.kept h (row := some p.block) ⟨rfl, rfl, rfl, by simp, fun k _ hk => Below.heap_setCell _ _ _ _ (fun e => hk (by rw [e]))⟩ ?_
  cases hv : v.ownBlock with
  | none => exact .inl rfl
  | some k => exact .inr (fun e => hp k hv (by cases e; rfl))
theorem Owns.set {T : TypeId} {base g cap n : Nat} {w : World} {l : List α} (h : Owns m cell T base w (.slice (some ⟨g, 0, none⟩) n cap) l) (hn : n = l.length) (i : Nat) (hi : i < l.length) (j : Nat) (hj : j < m) (x : α) (z : Int) (hx : ∀ j', j' < m → cell x j' = if j' = j then z else cell l[i] j') :
    Owns m cell T base (w.setCell ⟨g, i * m + j, none⟩ (.int .i64 z)) (.slice (some ⟨g, 0, none⟩) n cap) (l.set i x) := by
  subst hn
  have := (World.ownsRow.stored h (i * m + j) (.int .i64 z)).1
  rw [flat_set l i hi j hj x z hx] at this
  unfold Owns
  rw [List.length_set]
  exact this
theorem Owns.cellAt {T : TypeId} {base g cap n : Nat} {w : World} {l : List α} (h : Owns m cell T base w (.slice (some ⟨g, 0, none⟩) n cap) l) (hn : n = l.length) (i : Nat) (hi : i < l.length) (j : Nat) (hj : j < m) : w.cell? ⟨g, i * m + j, none⟩ = some (.int .i64 (cell l[i] j)) ∧ w.frozen? ⟨g, i * m + j, none⟩ = false := by
  subst hn
  have hlt : i * m + j < l.length * m := by have := Nat.mul_le_mul_right m (show i + 1 ≤ l.length from hi); rw [Nat.add_mul] at this; omega
  exact ⟨by rw [World.ownsRow.cellAt h _ hlt, flat_get l i hi j hj], World.ownsRow.frozenAt h _⟩
theorem Owns.mono {T : TypeId} {base base' : Nat} {w : World} {v : Value} {l : List α} (h : Owns m cell T base w v l) (hb : base' ≤ base) : Owns m cell T base' w v l := by
  refine ⟨h.1, ?_⟩
  rcases h.2 with h2 | ⟨g, cap, cur, h1, h2, h3⟩
  · exact .inl h2
  · exact .inr ⟨g, cap, cur, h1, Nat.le_trans hb h2, h3⟩
theorem Owns.far6 {T : TypeId} {base b : Nat} {w : World} {v : Value} {l : List α} (h : Owns m cell T base w v l) (hp : ∀ k, v.ownBlock = some k → k ≠ b) (u0 u1 u2 u3 u4 u5 : Value) :
    Owns m cell T base ((((((w.setCell ⟨b, 0, none⟩ u0).setCell ⟨b, 1, none⟩ u1).setCell ⟨b, 2, none⟩ u2).setCell ⟨b, 3, none⟩ u3).setCell ⟨b, 4, none⟩ u4).setCell ⟨b, 5, none⟩ u5) v l :=
  (((((h.far (p := ⟨b, 0, none⟩) u0 hp).far (p := ⟨b, 1, none⟩) u1 hp).far (p := ⟨b, 2, none⟩) u2 hp).far (p := ⟨b, 3, none⟩) u3 hp).far (p := ⟨b, 4, none⟩) u4 hp).far (p := ⟨b, 5, none⟩) u5 hp
end
theorem bel_set6 {B b : Nat} {w w' : World} (h : Below B w w') (hb : B ≤ b) (u0 u1 u2 u3 u4 u5 : Value) :
    Below B w ((((((w'.setCell ⟨b, 0, none⟩ u0).setCell ⟨b, 1, none⟩ u1).setCell ⟨b, 2, none⟩ u2).setCell ⟨b, 3, none⟩ u3).setCell ⟨b, 4, none⟩ u4).setCell ⟨b, 5, none⟩ u5) :=
  (((((h.setCell (p := ⟨b, 0, none⟩) hb u0).setCell (p := ⟨b, 1, none⟩) hb u1).setCell (p := ⟨b, 2, none⟩) hb u2).setCell (p := ⟨b, 3, none⟩) hb u3).setCell (p := ⟨b, 4, none⟩) hb u4).setCell (p := ⟨b, 5, none⟩) hb u5
theorem news_new (U : World) (cs : List Value) (T : TypeId) : ∀ j u, cs[j]? = some u → (U.alloc (.cells cs.toArray T)).cell? ((⟨U.heap.size, 0, none⟩ : Addr).add j) = some u := by
  intro j u hj
  have : (⟨U.heap.size, 0, none⟩ : Addr).add j = ⟨U.heap.size, j, none⟩ := by unfold Addr.add; split <;> simp_all
  rw [this, (Blk.new U cs.toArray T).cell j]
  simpa using hj
end Go.Proofs.YthdlkpgialmlfaaGreatDoor
