/- The walks of the exact laws whose answers are sizes. -/
import Derived.Test.YtifijknogofklaaE
import Derived.Deep.DeepCutAuto
namespace Go.Proofs.Ytifijknogofklaa
open Go.RowKit

theorem bel_realloc {B : Nat} {w : World} (h : B ≤ w.heap.size) (o o' : Obj) : Below B (w.alloc o) (w.alloc o') :=
  ⟨rfl, rfl, rfl, by simp, fun k hk => by rw [Below.heap_alloc _ _ _ (by omega), Below.heap_alloc _ _ _ (by omega)]⟩

/-- What every region of these laws keeps, behind whatever turns nothing below the two boxes. -/
theorem keepB {w W w1 : World} {a b c d : Int} (hb : Below (w.heap.size + 2) W w1)
    (h : Below w.heap.size w W ∧ w.heap.size + 2 ≤ W.heap.size ∧ W.cell? ⟨w.heap.size, 0, none⟩ = some (.int .i64 a) ∧ W.cell? ⟨w.heap.size, 1, none⟩ = some (.int .i64 b) ∧ W.cell? ⟨w.heap.size + 1, 0, none⟩ = some (.int .i64 c) ∧ W.cell? ⟨w.heap.size + 1, 1, none⟩ = some (.int .i64 d)) :
    Below w.heap.size w w1 ∧ w.heap.size + 2 ≤ w1.heap.size ∧ w1.cell? ⟨w.heap.size, 0, none⟩ = some (.int .i64 a) ∧ w1.cell? ⟨w.heap.size, 1, none⟩ = some (.int .i64 b) ∧ w1.cell? ⟨w.heap.size + 1, 0, none⟩ = some (.int .i64 c) ∧ w1.cell? ⟨w.heap.size + 1, 1, none⟩ = some (.int .i64 d) := by
  obtain ⟨h1, h2, h3, h4, h5, h6⟩ := h
  refine ⟨h1.trans (hb.mono (by omega)), Nat.le_trans h2 hb.size, ?_, ?_, ?_, ?_⟩
  · rw [hb.cell (p := ⟨w.heap.size, 0, none⟩) (by simp)]; exact h3
  · rw [hb.cell (p := ⟨w.heap.size, 1, none⟩) (by simp)]; exact h4
  · rw [hb.cell (p := ⟨w.heap.size + 1, 0, none⟩) (by simp)]; exact h5
  · rw [hb.cell (p := ⟨w.heap.size + 1, 1, none⟩) (by simp)]; exact h6

theorem blt {w0 w1 : World} {o : Obj} (hb : Below (w0.alloc o).heap.size (w0.alloc o) w1) : w0.heap.size < w1.heap.size := by
  have := hb.size; simp at this; omega

theorem bel_drewalloc {B : Nat} {w : World} (h : B ≤ w.heap.size) (o : Obj) : Below B w.drew (w.alloc o).drew :=
  ⟨rfl, rfl, rfl, by simp, fun k hk => Below.heap_alloc w o k (by omega)⟩

theorem startS (w : World) (a b c d : Int) : Below w.heap.size w (((w.alloc (.cells #[.int .i64 a, .int .i64 b] 115)).alloc (.cells #[.int .i64 c, .int .i64 d] 115)).drew) ∧ w.heap.size + 2 ≤ (((w.alloc (.cells #[.int .i64 a, .int .i64 b] 115)).alloc (.cells #[.int .i64 c, .int .i64 d] 115)).drew).heap.size ∧ (((w.alloc (.cells #[.int .i64 a, .int .i64 b] 115)).alloc (.cells #[.int .i64 c, .int .i64 d] 115)).drew).cell? ⟨w.heap.size, 0, none⟩ = some (.int .i64 a) ∧ (((w.alloc (.cells #[.int .i64 a, .int .i64 b] 115)).alloc (.cells #[.int .i64 c, .int .i64 d] 115)).drew).cell? ⟨w.heap.size, 1, none⟩ = some (.int .i64 b) ∧ (((w.alloc (.cells #[.int .i64 a, .int .i64 b] 115)).alloc (.cells #[.int .i64 c, .int .i64 d] 115)).drew).cell? ⟨w.heap.size + 1, 0, none⟩ = some (.int .i64 c) ∧ (((w.alloc (.cells #[.int .i64 a, .int .i64 b] 115)).alloc (.cells #[.int .i64 c, .int .i64 d] 115)).drew).cell? ⟨w.heap.size + 1, 1, none⟩ = some (.int .i64 d) := by
  refine ⟨by go_grown, ?_⟩
  simp [go_sem]


/-- The same behind the first answer: three boxes. -/
theorem keepC {w wc W w1 : World} {B : Nat} {a b c d p q : Int} (hw : w.heap.size + 2 ≤ wc.heap.size) (hB : B < wc.heap.size) (hb : Below wc.heap.size W w1)
    (h : Below w.heap.size w W ∧ wc.heap.size ≤ W.heap.size ∧ W.cell? ⟨w.heap.size, 0, none⟩ = some (.int .i64 a) ∧ W.cell? ⟨w.heap.size, 1, none⟩ = some (.int .i64 b) ∧ W.cell? ⟨w.heap.size + 1, 0, none⟩ = some (.int .i64 c) ∧ W.cell? ⟨w.heap.size + 1, 1, none⟩ = some (.int .i64 d) ∧ W.cell? ⟨B, 0, none⟩ = some (.int .i64 p) ∧ W.cell? ⟨B, 1, none⟩ = some (.int .i64 q)) :
    Below w.heap.size w w1 ∧ wc.heap.size ≤ w1.heap.size ∧ w1.cell? ⟨w.heap.size, 0, none⟩ = some (.int .i64 a) ∧ w1.cell? ⟨w.heap.size, 1, none⟩ = some (.int .i64 b) ∧ w1.cell? ⟨w.heap.size + 1, 0, none⟩ = some (.int .i64 c) ∧ w1.cell? ⟨w.heap.size + 1, 1, none⟩ = some (.int .i64 d) ∧ w1.cell? ⟨B, 0, none⟩ = some (.int .i64 p) ∧ w1.cell? ⟨B, 1, none⟩ = some (.int .i64 q) := by
  obtain ⟨h1, h2, h3, h4, h5, h6, h7, h8⟩ := h
  refine ⟨h1.trans (hb.mono (by omega)), Nat.le_trans h2 hb.size, ?_, ?_, ?_, ?_, ?_, ?_⟩
  · rw [hb.cell (p := ⟨w.heap.size, 0, none⟩) (by simp; omega)]; exact h3
  · rw [hb.cell (p := ⟨w.heap.size, 1, none⟩) (by simp; omega)]; exact h4
  · rw [hb.cell (p := ⟨w.heap.size + 1, 0, none⟩) (by simp; omega)]; exact h5
  · rw [hb.cell (p := ⟨w.heap.size + 1, 1, none⟩) (by simp; omega)]; exact h6
  · rw [hb.cell (p := ⟨B, 0, none⟩) (by simpa using hB)]; exact h7
  · rw [hb.cell (p := ⟨B, 1, none⟩) (by simpa using hB)]; exact h8

theorem startC {w wc : World} {B : Nat} {a b c d p q : Int} (h : Below w.heap.size w wc ∧ w.heap.size + 2 ≤ wc.heap.size ∧ wc.cell? ⟨w.heap.size, 0, none⟩ = some (.int .i64 a) ∧ wc.cell? ⟨w.heap.size, 1, none⟩ = some (.int .i64 b) ∧ wc.cell? ⟨w.heap.size + 1, 0, none⟩ = some (.int .i64 c) ∧ wc.cell? ⟨w.heap.size + 1, 1, none⟩ = some (.int .i64 d)) (h7 : wc.cell? ⟨B, 0, none⟩ = some (.int .i64 p)) (h8 : wc.cell? ⟨B, 1, none⟩ = some (.int .i64 q)) :
    Below w.heap.size w wc.drew ∧ wc.heap.size ≤ wc.drew.heap.size ∧ wc.drew.cell? ⟨w.heap.size, 0, none⟩ = some (.int .i64 a) ∧ wc.drew.cell? ⟨w.heap.size, 1, none⟩ = some (.int .i64 b) ∧ wc.drew.cell? ⟨w.heap.size + 1, 0, none⟩ = some (.int .i64 c) ∧ wc.drew.cell? ⟨w.heap.size + 1, 1, none⟩ = some (.int .i64 d) ∧ wc.drew.cell? ⟨B, 0, none⟩ = some (.int .i64 p) ∧ wc.drew.cell? ⟨B, 1, none⟩ = some (.int .i64 q) := by
  obtain ⟨h1, h2, h3, h4, h5, h6⟩ := h
  exact ⟨h1.drew, Nat.le_refl _, h3, h4, h5, h6, h7, h8⟩
end Go.Proofs.Ytifijknogofklaa
