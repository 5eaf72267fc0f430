/- Texts: what the document reads: a line without its word. -/
import Derived.Test.YthdlkpgialmlfaaGreatDoorTb
namespace Go.Proofs.YthdlkpgialmlfaaGreatDoor
open Go.RowKit

theorem ba_get (l : List UInt8) (i : Nat) (h : i < (ByteArray.mk l.toArray).size) : (ByteArray.mk l.toArray)[i]'h = l[i]'(by have h' : i < l.toArray.size := h; simpa using h') := rfl

def restB (l wd : List UInt8) : Option (List UInt8) :=
  if wd.length < l.length ∧ l.take wd.length = wd ∧ l[wd.length]? = some 32 then some (l.drop (wd.length + 1)) else none

theorem u8_ne {a b : UInt8} (h : ¬ a = b) : ((a.toNat : Int) != (b.toNat : Int)) = true := by
  rw [bne_iff_ne]
  intro e
  exact h (UInt8.toNat.inj (by omega))
theorem u8_eq {a b : UInt8} (h : a = b) : ((a.toNat : Int) != (b.toNat : Int)) = false := by
  subst h
  simp

set_option maxRecDepth 100000 in
set_option maxHeartbeats 1000000 in
theorem rest_any (l wd : List UInt8) (w : World) (_h1 : l.length ≤ 9000000000000) (h2 : wd.length ≤ 1000) :
    Calls Tryz.prog 16 #[str l, str wd] w fun e w' => e = .returned (.tuple #[str ((restB l wd).getD []), .bool (restB l wd).isSome]) ∧ w' = w := by
  have hx : ∀ a b, (ByteArray.mk l.toArray).extract a b = ByteArray.mk ((l.drop a).take (b - a)).toArray := ByteArray.extract_mk l
  have hg := ba_get l
  by_cases g1 : wd.length < l.length
  · have g1' : ¬ (l.length : Int) ≤ (wd.length : Int) := by omega
    by_cases g2 : l.take wd.length = wd
    · have b2 : (List.take wd.length l == wd) = true := by simpa using g2
      by_cases g3 : l[wd.length] = 32
      · have hr : Hid (restB l wd = some (l.drop (wd.length + 1))) := by simp [Hid, restB, g1, g2, g3]
        have b3 : ((l[wd.length].toNat : Int) != 32) = false := u8_eq (b := 32) g3
        clear g2 g3
        go_enter Tryz.func16, Tryz.ntmps16
        go_wp2
        go_ret2
        refine ⟨?_, rfl⟩
        rw [hr.out]
        show Ending.returned (.tuple #[str _, .bool true]) = .returned (.tuple #[str _, .bool true])
        rw [List.take_of_length_le (by simp)]
        rfl
      · have hr : Hid (restB l wd = none) := by simp [Hid, restB, g1, g3]
        have b3 : ((l[wd.length].toNat : Int) != 32) = true := u8_ne (b := 32) g3
        clear g2 g3
        go_enter Tryz.func16, Tryz.ntmps16
        go_wp2
        go_ret2
        exact ⟨by rw [hr.out]; rfl, rfl⟩
    · have hr : Hid (restB l wd = none) := by simp [Hid, restB, g2]
      have b2 : (List.take wd.length l == wd) = false := by simpa using g2
      clear g2
      go_enter Tryz.func16, Tryz.ntmps16
      go_wp2
      go_ret2
      exact ⟨by rw [hr.out]; rfl, rfl⟩
  · have hr : Hid (restB l wd = none) := by simp [Hid, restB, g1]
    have g1' : (l.length : Int) ≤ (wd.length : Int) := by omega
    go_enter Tryz.func16, Tryz.ntmps16
    go_wp2
    go_ret2
    exact ⟨by rw [hr.out]; rfl, rfl⟩
end Go.Proofs.YthdlkpgialmlfaaGreatDoor
