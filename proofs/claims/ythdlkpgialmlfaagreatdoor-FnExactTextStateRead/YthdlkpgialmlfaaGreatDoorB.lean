/- Contracts of the size functions, second part. -/
import Derived.Test.YthdlkpgialmlfaaGreatDoorA
namespace Go.Proofs.YthdlkpgialmlfaaGreatDoor
open Go.RowKit

/-- What a walk keeps behind a call that turned nothing below it: the cells of its own three boxes are still there. -/
theorem after {W w1 : World} (hb : Below W.heap.size W w1) (N : Nat) (h : N + 3 ≤ W.heap.size) :
    (∀ b o, b < W.heap.size → w1.cell? ⟨b, o, none⟩ = W.cell? ⟨b, o, none⟩) ∧ (∀ b o, b < W.heap.size → w1.frozen? ⟨b, o, none⟩ = W.frozen? ⟨b, o, none⟩) ∧ N < w1.heap.size ∧ N + 1 < w1.heap.size ∧ N + 2 < w1.heap.size :=
  ⟨(bcell hb).1, (bcell hb).2, by have := hb.size; omega, by have := hb.size; omega, by have := hb.size; omega⟩

def addOk (a b c d : Int) : Bool := okB a b && okB c d && okB (a + c) (b + d)
def addC (a b c d : Int) : Int := if addOk a b c d then a + c else 0
def addM (a b c d : Int) : Int := if addOk a b c d then b + d else 0
def lessOk (a b c d : Int) : Bool := okB a b && okB c d && fitB c d a b
def lessC (a b c d : Int) : Int := if lessOk a b c d then a - c else 0
def lessM (a b c d : Int) : Int := if lessOk a b c d then b - d else 0

end Go.Proofs.YthdlkpgialmlfaaGreatDoor
