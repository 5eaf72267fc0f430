/- Texts: numbers as the library writes them. -/
import Derived.Test.YthdlkpgialmlfaaGreatDoorTh
import Derived.Test.YthdlkpgialmlfaaGreatDoorSh
import Derived.Lib.AppendIntMem
namespace Go.Proofs.YthdlkpgialmlfaaGreatDoor
open Go.RowKit

/-- The library's table of the powers of ten stands. -/
def Tab (w : World) : Prop := Lib.TabIs Tryz.prog w "internal/strconv.uint64pow10" .u64 Lib.pow10Tab
theorem Tab.keep {w w' : World} (h : Tab w) (hb : Below w.heap.size w w') : Tab w' := Lib.tabBelow_of_tabIs h w' hb
theorem digs_eq (n : Nat) : Lib.decDigits n = digsN n := by
  induction n using Nat.strongRecOn with
  | _ n ih =>
    rw [Lib.decDigits, digsN]
    split
    · rfl
    · rw [ih (n / 10) (by omega)]
theorem itoa_eq (n : Int) : Lib.itoa n = decB n := by
  simp only [Lib.itoa, decB, digs_eq]
  split
  · rw [show n.natAbs = (-n).toNat by omega]
  · rfl
theorem below_more {w w' : World} (h : ∃ k os, w' = Sort.grow (w.drewN k) os) : Below w.heap.size w w' := by
  obtain ⟨k, os, rfl⟩ := h
  exact Lib.below_grow _ w (Nat.le_refl _) k os
theorem itoa_any (n : Int) (w : World) (h : I64 n) (hT : Tab w) :
    Calls Tryz.prog 96 #[.int .i64 n] w fun e w' => e = .returned (str (decB n)) ∧ Below w.heap.size w w' :=
  (Tryz.strconv_Itoa n h.1 h.2 w hT).mono fun e w' ⟨he, hw⟩ => ⟨by rw [he, itoa_eq], below_more hw⟩
end Go.Proofs.YthdlkpgialmlfaaGreatDoor
