/- The walks of the exact laws. -/
import Derived.Test.YtifijknogofklaaD
namespace Go.Proofs.Ytifijknogofklaa
open Go.RowKit

/-- What every region of these laws keeps: the two boxes of the arguments. -/
theorem keepA {w W w1 : World} {a b c d : Int} (hb : Below W.heap.size W w1)
    (h : Below w.heap.size w W ∧ w.heap.size + 2 ≤ W.heap.size ∧ W.cell? ⟨w.heap.size, 0, none⟩ = some (.int .i64 a) ∧ W.cell? ⟨w.heap.size, 1, none⟩ = some (.int .i64 b) ∧ W.cell? ⟨w.heap.size + 1, 0, none⟩ = some (.int .i64 c) ∧ W.cell? ⟨w.heap.size + 1, 1, none⟩ = some (.int .i64 d)) :
    Below w.heap.size w w1 ∧ w.heap.size + 2 ≤ w1.heap.size ∧ w1.cell? ⟨w.heap.size, 0, none⟩ = some (.int .i64 a) ∧ w1.cell? ⟨w.heap.size, 1, none⟩ = some (.int .i64 b) ∧ w1.cell? ⟨w.heap.size + 1, 0, none⟩ = some (.int .i64 c) ∧ w1.cell? ⟨w.heap.size + 1, 1, none⟩ = some (.int .i64 d) := by
  obtain ⟨h1, h2, h3, h4, h5, h6⟩ := h
  refine ⟨bel_trans h1 hb, Nat.le_trans h2 hb.size, ?_, ?_, ?_, ?_⟩
  · rw [(bcell hb).1 _ _ (by omega)]; exact h3
  · rw [(bcell hb).1 _ _ (by omega)]; exact h4
  · rw [(bcell hb).1 _ _ (by omega)]; exact h5
  · rw [(bcell hb).1 _ _ (by omega)]; exact h6

end Go.Proofs.Ytifijknogofklaa
