/- What is asked, whole: the document's counts. -/
import Derived.Test.YtoceohacplmgnaaDoorSc
namespace Go.Proofs.YtoceohacplmgnaaDoor
open Go.RowKit

/-- Six cells of a box stay. -/
theorem six_keep {W w1 : World} {B : Nat} {v0 v1 v2 v3 v4 v5 : Value} (hz : B < W.heap.size) (hb : Below W.heap.size W w1)
    (h : W.cell? ⟨B, 0, none⟩ = some v0 ∧ W.cell? ⟨B, 1, none⟩ = some v1 ∧ W.cell? ⟨B, 2, none⟩ = some v2 ∧ W.cell? ⟨B, 3, none⟩ = some v3 ∧ W.cell? ⟨B, 4, none⟩ = some v4 ∧ W.cell? ⟨B, 5, none⟩ = some v5) :
    w1.cell? ⟨B, 0, none⟩ = some v0 ∧ w1.cell? ⟨B, 1, none⟩ = some v1 ∧ w1.cell? ⟨B, 2, none⟩ = some v2 ∧ w1.cell? ⟨B, 3, none⟩ = some v3 ∧ w1.cell? ⟨B, 4, none⟩ = some v4 ∧ w1.cell? ⟨B, 5, none⟩ = some v5 := by
  obtain ⟨h0, h1, h2, h3, h4, h5⟩ := h
  have hc := (bcell hb).1
  exact ⟨(hc _ _ hz).trans h0, (hc _ _ hz).trans h1, (hc _ _ hz).trans h2, (hc _ _ hz).trans h3, (hc _ _ hz).trans h4, (hc _ _ hz).trans h5⟩

end Go.Proofs.YtoceohacplmgnaaDoor
