/- Texts: an event, as the document reads it. -/
import Derived.Test.YthdlkpgialmlfaaGreatDoorTj
import Derived.Test.YthdlkpgialmlfaaGreatDoorBk
import Derived.BigRegion
namespace Go.Proofs.YthdlkpgialmlfaaGreatDoor
open Go.RowKit

def wordB : Nat → List UInt8
  | 1 => [119, 97, 110, 116]
  | 2 => [109, 97, 107, 101]
  | 3 => [98, 105, 110, 100]
  | 4 => [111, 117, 115, 116]
  | 5 => [103, 114, 111, 119]
  | 6 => [115, 104, 114, 105, 110, 107]
  | 7 => [116, 105, 99, 107]
  | 8 => [99, 111, 109, 101]
  | 9 => [108, 111, 97, 100]
  | 10 => [100, 105, 101]
  | _ => []
theorem restB_iff {t wd a : List UInt8} : restB t wd = some a ↔ t = wd ++ 32 :: a := by
  unfold restB
  constructor
  · intro h
    split at h
    · rename_i hc
      obtain ⟨h1, h2, h3⟩ := hc
      cases h
      have h4 : t[wd.length] = 32 := by
        rw [List.getElem?_eq_getElem h1] at h3
        exact Option.some.inj h3
      conv => lhs; rw [← List.take_append_drop wd.length t, h2, List.drop_eq_getElem_cons h1, h4]
    · cases h
  · intro h
    subst h
    simp
/-- The event that a text tells of, if the word is that of kind k. -/
def evAt (t : List UInt8) (k : Nat) : Option (List Int) := match restB t (wordB k) with
  | some a => readB a 2
  | none => none

theorem word_len (k : Nat) : (wordB k).length ≤ 10 := by unfold wordB; split <;> simp
theorem two_of {xs : List Int} (h : xs.length = 2) : ∃ a b, xs = [a, b] := by
  match xs, h with
  | [a, b], _ => exact ⟨a, b, rfl⟩
theorem none_next {t : List UInt8} {k : Nat} (h : ∀ j, 1 ≤ j → j < k → evAt t j = none) (hk : evAt t k = none) : ∀ j, 1 ≤ j → j < k + 1 → evAt t j = none := by
  intro j h1 h2
  by_cases hj : j = k
  · rw [hj]; exact hk
  · exact h j h1 (by omega)
theorem rest_len {t wd a : List UInt8} (h : restB t wd = some a) : a.length ≤ t.length := by
  rw [restB_iff.1 h]
  simp
  omega
end Go.Proofs.YthdlkpgialmlfaaGreatDoor
