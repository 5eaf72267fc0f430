/- Numbers that a text is read with. -/
import Derived.Test.YthdlkpgialmlfaaGreatDoorWa
namespace Go.Proofs.YthdlkpgialmlfaaGreatDoor
open Go.RowKit

def inId (n : Int) : Bool := decide (-1000000 ≤ n ∧ n ≤ 1000000)
theorem canBeRead_any (n : Int) (w : World) : Calls Tryz.prog 97 #[.int .i64 n] w fun e w' => e = .returned (.bool (inId n)) ∧ w' = w := by
  by_cases h1 : -1000000 ≤ n
  · by_cases h2 : n ≤ 1000000
    · have e1 : Hid (inId n = true) := by simp [Hid, inId, h1, h2]
      go_enter Tryz.func97, Tryz.ntmps97
      go_wp2
      go_ret
      exact ⟨by rw [e1.out]; rfl, rfl⟩
    · have e1 : Hid (inId n = false) := by simp [Hid, inId, h2]
      go_enter Tryz.func97, Tryz.ntmps97
      go_wp2
      go_ret
      exact ⟨by rw [e1.out]; rfl, rfl⟩
  · have e1 : Hid (inId n = false) := by simp [Hid, inId, h1]
    go_enter Tryz.func97, Tryz.ntmps97
    go_wp2
    go_ret
    exact ⟨by rw [e1.out]; rfl, rfl⟩
end Go.Proofs.YthdlkpgialmlfaaGreatDoor
