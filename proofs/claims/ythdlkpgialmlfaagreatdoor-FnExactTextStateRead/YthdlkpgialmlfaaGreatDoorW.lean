/- What is asked, whole: whether there is room. -/
import Derived.Test.YthdlkpgialmlfaaGreatDoorKeep
namespace Go.Proofs.YthdlkpgialmlfaaGreatDoor
open Go.RowKit

theorem slotI_bd (a b : Int) (h1 : 0 ≤ a) (h3 : 0 ≤ b) (h4 : b ≤ 10000) : 0 ≤ slotI a b ∧ slotI a b ≤ 10000 := by
  unfold slotI
  split
  · omega
  · have := div_le_tt a b (by omega) h3 h4; omega
theorem slotsI_bd (a b c d : Int) : 0 ≤ slotsI a b c d ∧ slotsI a b c d ≤ 10000 := by
  unfold slotsI
  split
  · rename_i h
    simp only [Bool.and_eq_true, ok_iff] at h
    have h1 := slotI_bd a c (by omega) (by omega) (by omega)
    have h2 := slotI_bd b d (by omega) (by omega) (by omega)
    unfold minI
    split <;> omega
  · omega
theorem mul_bd2 (a b A B : Int) (h0 : 0 ≤ a) (h1 : a ≤ A) (h2 : 0 ≤ b) (h3 : b ≤ B) : 0 ≤ a * b ∧ a * b ≤ A * B :=
  ⟨Int.mul_nonneg h0 h2, Int.mul_le_mul h1 h3 h2 (by omega)⟩

def roomG (p mc mm : Int) (g : Gp) : Bool := decide (p ≤ slotsI mc mm g.cpu g.mem * g.max)
def roomyB (c : Cf) : Bool := cfgOk c && c.groups.any (roomG (podsOf c) (mostOfC c) (mostOfM c))

theorem take_any {α : Type} (p : α → Bool) (l : List α) (i : Nat) (h : i < l.length) : ((l.take i).any p || p l[i]) = (l.take (i + 1)).any p := by
  rw [List.take_succ_eq_append_getElem h, List.any_append]; simp

end Go.Proofs.YthdlkpgialmlfaaGreatDoor
