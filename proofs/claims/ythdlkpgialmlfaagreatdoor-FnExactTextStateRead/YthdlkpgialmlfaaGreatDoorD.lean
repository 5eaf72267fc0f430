/- Contracts of the size functions, fourth part: slots. -/
import Derived.Test.YthdlkpgialmlfaaGreatDoorC
namespace Go.Proofs.YthdlkpgialmlfaaGreatDoor
open Go.RowKit

theorem after2 {W w1 : World} (hb : Below W.heap.size W w1) (N : Nat) (h : N + 2 ≤ W.heap.size) :
    (∀ b o, b < W.heap.size → w1.cell? ⟨b, o, none⟩ = W.cell? ⟨b, o, none⟩) ∧ (∀ b o, b < W.heap.size → w1.frozen? ⟨b, o, none⟩ = W.frozen? ⟨b, o, none⟩) ∧ N < w1.heap.size ∧ N + 1 < w1.heap.size :=
  ⟨(bcell hb).1, (bcell hb).2, by have := hb.size; omega, by have := hb.size; omega⟩

def notB (a b : Int) : Bool := decide (a = 0 ∧ b = 0)
def slotsI (a b c d : Int) : Int := if okB a b && okB c d && !notB a b then minI (slotI a c) (slotI b d) else 0

theorem isNothing_any' (a b : Int) (w : World) :
    Calls Tryz.prog 116 #[.agg #[.int .i64 a, .int .i64 b]] w fun e w' => e = .returned (.bool (notB a b)) ∧ Below w.heap.size w w' := isNothing_any a b w

theorem div_le_tt (a c : Int) (h1 : 0 < a) (h2 : 0 ≤ c) (h3 : c ≤ 10000) : c / a ≤ 10000 ∧ 0 ≤ c / a :=
  ⟨Int.le_trans (Int.ediv_le_self _ h2) h3, Int.ediv_nonneg h2 (by omega)⟩

end Go.Proofs.YthdlkpgialmlfaaGreatDoor
