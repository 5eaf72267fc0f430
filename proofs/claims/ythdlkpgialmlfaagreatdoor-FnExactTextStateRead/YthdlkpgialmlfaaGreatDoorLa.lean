/- The laws' own mirrors: copies of what is asked. -/
import Derived.Test.YthdlkpgialmlfaaGreatDoorLast
import Derived.Deep.MidRow
namespace Go.Proofs.YthdlkpgialmlfaaGreatDoor
open Go.RowKit

theorem bel_grown {w w' : World} (h : Below w.heap.size w w') : w.grownBy w' none := ⟨h.os, h.tape, h.output, h.size, fun k hk _ => h.block k hk⟩
theorem grown_bel {w w' : World} (h : w.grownBy w' none) : Below w.heap.size w w' := ⟨h.os, h.tape, h.output, h.size, fun k hk => h.block k hk (by simp)⟩

theorem bel_setCells {B b : Nat} {w : World} (hb : B ≤ b) : ∀ (vs : List Value) (o : Nat) (w' : World), Below B w w' → Below B w (w'.setCells b o vs)
  | [], _, _, h => h
  | v :: r, o, w', h => bel_setCells hb r (o + 1) (w'.setCell ⟨b, o, none⟩ v) (h.setCell hb v)
def setsAt : List Value → Nat → List Value → List Value
  | xs, _, [] => xs
  | xs, j, v :: r => setsAt (xs.set j v) (j + 1) r
theorem setsAt_out : ∀ (vs xs : List Value) (j i : Nat), i < j ∨ j + vs.length ≤ i → (setsAt xs j vs)[i]? = xs[i]?
  | [], _, _, _, _ => rfl
  | v :: r, xs, j, i, h => by
    rw [setsAt, setsAt_out r _ _ _ (by simp at h; omega), List.getElem?_set_ne (by simp at h; omega)]
theorem setsAt_in : ∀ (vs xs : List Value) (j i : Nat), i < vs.length → j + vs.length ≤ xs.length → (setsAt xs j vs)[j + i]? = vs[i]?
  | [], _, _, _, h, _ => by simp at h
  | v :: r, xs, j, 0, _, hl => by
    rw [setsAt, setsAt_out r _ _ _ (by omega)]
    simp at hl
    simp [List.getElem?_set]; omega
  | v :: r, xs, j, i + 1, h, hl => by
    simp at h hl
    have := setsAt_in r (xs.set j v) (j + 1) i (by omega) (by simp; omega)
    rw [setsAt, show j + (i + 1) = j + 1 + i by omega, this]; simp
theorem owns_setCells {base size g n cap : Nat} {e : TypeId} : ∀ (vs : List Value) (j : Nat) (xs : List Value) (w : World), w.ownsRow base e size (.slice (some ⟨g, 0, none⟩) n cap) n xs → (w.setCells g j vs).ownsRow base e size (.slice (some ⟨g, 0, none⟩) n cap) n (setsAt xs j vs)
  | [], _, _, _, h => h
  | v :: r, j, xs, w, h => owns_setCells r (j + 1) (xs.set j v) (w.setCell ⟨g, j, none⟩ v) (h.stored j v).1

theorem info74 : ∃ i, Tryz.prog.info? 74 = some i ∧ i.zero = some (.agg #[.int .i64 0, .int .i64 0, .int .i64 0, .int .i64 0, .int .i64 0, .int .i64 0, .int .i64 0, .int .i64 0]) ∧ i.size = 8 ∧ i.bytes = 64 := by
  have h0 : (Tryz.prog.info? 74).isSome = true := by kernel_rfl
  have h1 : (Tryz.prog.info? 74).map (·.zero) = some (some (.agg #[.int .i64 0, .int .i64 0, .int .i64 0, .int .i64 0, .int .i64 0, .int .i64 0, .int .i64 0, .int .i64 0])) := by kernel_rfl
  have h2 : (Tryz.prog.info? 74).map (·.size) = some 8 := by kernel_rfl
  have h3 : (Tryz.prog.info? 74).map (·.bytes) = some 64 := by kernel_rfl
  obtain ⟨i, hi⟩ := Option.isSome_iff_exists.1 h0
  rw [hi] at h1 h2 h3
  exact ⟨i, hi, by simpa using h1, by simpa using h2, by simpa using h3⟩
theorem info76 : ∃ i, Tryz.prog.info? 76 = some i ∧ i.zero = some (.agg #[.int .i64 0, .int .i64 0, .int .i64 0, .int .i64 0, .int .i64 0]) ∧ i.size = 5 ∧ i.bytes = 40 := by
  have h0 : (Tryz.prog.info? 76).isSome = true := by kernel_rfl
  have h1 : (Tryz.prog.info? 76).map (·.zero) = some (some (.agg #[.int .i64 0, .int .i64 0, .int .i64 0, .int .i64 0, .int .i64 0])) := by kernel_rfl
  have h2 : (Tryz.prog.info? 76).map (·.size) = some 5 := by kernel_rfl
  have h3 : (Tryz.prog.info? 76).map (·.bytes) = some 40 := by kernel_rfl
  obtain ⟨i, hi⟩ := Option.isSome_iff_exists.1 h0
  rw [hi] at h1 h2 h3
  exact ⟨i, hi, by simpa using h1, by simpa using h2, by simpa using h3⟩

/-- A row of cells of which the first k elements are those of the list. -/
def HasWk (xs : List Value) (l : List Wk) (k : Nat) : Prop := ∀ i (h : i < l.length), i < k → ∀ j, j < 8 → xs[i * 8 + j]? = some (.int .i64 (l[i].cell j))
theorem HasWk.next {xs : List Value} {l : List Wk} {k : Nat} (h : HasWk xs l k) (hk : k < l.length) (hlen : xs.length = l.length * 8) :
    HasWk (setsAt xs (k * 8) [.int .i64 l[k].cpu, .int .i64 l[k].mem, .int .i64 l[k].min, .int .i64 l[k].max, .int .i64 l[k].target, .int .i64 l[k].limit, .int .i64 l[k].tol, .int .i64 l[k].rank]) l (k + 1) := by
  intro i hi hik j hj
  have hx : k * 8 + 8 ≤ xs.length := by rw [hlen]; have := Nat.mul_le_mul_right 8 (show k + 1 ≤ l.length from hk); omega
  by_cases hik' : i = k
  · subst hik'
    rw [setsAt_in _ _ _ _ (by simpa using hj) (by simpa using hx)]
    have hj' : j = 0 ∨ j = 1 ∨ j = 2 ∨ j = 3 ∨ j = 4 ∨ j = 5 ∨ j = 6 ∨ j = 7 := by omega
    rcases hj' with rfl | rfl | rfl | rfl | rfl | rfl | rfl | rfl <;> rfl
  · have h0 := h i hi (by omega) j hj
    have hlt : i * 8 + 8 ≤ k * 8 := by have := Nat.mul_le_mul_right 8 (show i + 1 ≤ k by omega); omega
    rw [setsAt_out _ _ _ _ (by omega)]
    exact h0

/-- A row of cells of which the first k elements are those of the list. -/
def HasGp (xs : List Value) (l : List Gp) (k : Nat) : Prop := ∀ i (h : i < l.length), i < k → ∀ j, j < 5 → xs[i * 5 + j]? = some (.int .i64 (l[i].cell j))
theorem HasGp.next {xs : List Value} {l : List Gp} {k : Nat} (h : HasGp xs l k) (hk : k < l.length) (hlen : xs.length = l.length * 5) :
    HasGp (setsAt xs (k * 5) [.int .i64 l[k].cpu, .int .i64 l[k].mem, .int .i64 l[k].min, .int .i64 l[k].max, .int .i64 l[k].boot]) l (k + 1) := by
  intro i hi hik j hj
  have hx : k * 5 + 5 ≤ xs.length := by rw [hlen]; have := Nat.mul_le_mul_right 5 (show k + 1 ≤ l.length from hk); omega
  by_cases hik' : i = k
  · subst hik'
    rw [setsAt_in _ _ _ _ (by simpa using hj) (by simpa using hx)]
    have hj' : j = 0 ∨ j = 1 ∨ j = 2 ∨ j = 3 ∨ j = 4 := by omega
    rcases hj' with rfl | rfl | rfl | rfl | rfl <;> rfl
  · have h0 := h i hi (by omega) j hj
    have hlt : i * 5 + 5 ≤ k * 5 := by have := Nat.mul_le_mul_right 5 (show i + 1 ≤ k by omega); omega
    rw [setsAt_out _ _ _ _ (by omega)]
    exact h0

end Go.Proofs.YthdlkpgialmlfaaGreatDoor
