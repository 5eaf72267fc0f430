/- What is asked, whole: the document's greatest size. -/
import Derived.Test.YtoceohacplmgnaaDoorSd
import Derived.Test.YtoceohacplmgnaaDoorLast
namespace Go.Proofs.YtoceohacplmgnaaDoor
open Go.RowKit

theorem two_keep {W w1 : World} {B : Nat} {x y : Value} (hz : B < W.heap.size) (hb : Below W.heap.size W w1) (h : W.cell? ⟨B, 0, none⟩ = some x ∧ W.cell? ⟨B, 1, none⟩ = some y ∧ W.frozen? ⟨B, 0, none⟩ = false ∧ W.frozen? ⟨B, 1, none⟩ = false) :
    w1.cell? ⟨B, 0, none⟩ = some x ∧ w1.cell? ⟨B, 1, none⟩ = some y ∧ w1.frozen? ⟨B, 0, none⟩ = false ∧ w1.frozen? ⟨B, 1, none⟩ = false := by
  obtain ⟨h0, h1, h2, h3⟩ := h
  have hc := bcell hb
  exact ⟨(hc.1 _ _ hz).trans h0, (hc.1 _ _ hz).trans h1, (hc.2 _ _ hz).trans h2, (hc.2 _ _ hz).trans h3⟩
end Go.Proofs.YtoceohacplmgnaaDoor
