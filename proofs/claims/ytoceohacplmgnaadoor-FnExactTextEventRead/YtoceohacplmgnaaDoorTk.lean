/- Texts: an event, as the document reads it. -/
import Derived.Test.YtoceohacplmgnaaDoorTj
import Derived.Test.YtoceohacplmgnaaDoorBk
import Derived.BigRegion
namespace Go.Proofs.YtoceohacplmgnaaDoor
open Go.RowKit

def wordB : Nat → List UInt8
  | 1 => [119, 97, 110, 116]
  | 2 => [109, 97, 107, 101]
  | 3 => [98, 105, 110, 100]
  | 4 => [111, 117, 115, 116]
  | 5 => [103, 114, 111, 119]
  | 6 => [115, 104, 114, 105, 110, 107]
  | 7 => [116, 105, 99, 107]
  | 8 => [99, 111, 109, 101]
  | 9 => [108, 111, 97, 100]
  | 10 => [100, 105, 101]
  | _ => []
theorem restB_iff {t wd a : List UInt8} : restB t wd = some a ↔ t = wd ++ 32 :: a := by
  unfold restB
  constructor
  · intro h
    split at h
    · rename_i hc
      obtain ⟨h1, h2, h3⟩ := hc
      cases h
      have h4 : t[wd.length] = 32 := by
        rw [List.getElem?_eq_getElem h1] at h3
        exact Option.some.inj h3
      conv => lhs; rw [← List.take_append_drop wd.length t, h2, List.drop_eq_getElem_cons h1, h4]
    · cases h
  · intro h
    subst h
    simp
/-- The event that a text tells of, if the word is that of kind k. -/
def evAt (t : List UInt8) (k : Nat) : Option (List Int) := match restB t (wordB k) with
  | some a => readB a 2
  | none => none

set_option maxRecDepth 100000 in
set_option maxHeartbeats 1000000 in
theorem words_any (w : World) :
    Calls Tryd.prog 49 #[] w fun e w' => e = .returned (.slice (some ⟨w.heap.size, 0, none⟩) 11 11) ∧ (∀ i, i < 11 → w'.cell? ⟨w.heap.size, i, none⟩ = some (str (wordB i))) ∧ w.heap.size < w'.heap.size ∧ Below w.heap.size w w' := by
  go_enter Tryd.func49, Tryd.ntmps49
  go_wp2
  go_ret
  refine ⟨rfl, ?_, by simp, by go_grown⟩
  intro i hi
  rw [(Blk.new w _ _).cell]
  match i, hi with
  | 0, _ => rfl
  | 1, _ => rfl
  | 2, _ => rfl
  | 3, _ => rfl
  | 4, _ => rfl
  | 5, _ => rfl
  | 6, _ => rfl
  | 7, _ => rfl
  | 8, _ => rfl
  | 9, _ => rfl
  | 10, _ => rfl

theorem word_len (k : Nat) : (wordB k).length ≤ 10 := by unfold wordB; split <;> simp
theorem two_of {xs : List Int} (h : xs.length = 2) : ∃ a b, xs = [a, b] := by
  match xs, h with
  | [a, b], _ => exact ⟨a, b, rfl⟩
theorem none_next {t : List UInt8} {k : Nat} (h : ∀ j, 1 ≤ j → j < k → evAt t j = none) (hk : evAt t k = none) : ∀ j, 1 ≤ j → j < k + 1 → evAt t j = none := by
  intro j h1 h2
  by_cases hj : j = k
  · rw [hj]; exact hk
  · exact h j h1 (by omega)
theorem rest_len {t wd a : List UInt8} (h : restB t wd = some a) : a.length ≤ t.length := by
  rw [restB_iff.1 h]
  simp
  omega

set_option maxRecDepth 100000 in
set_option maxHeartbeats 4000000 in
theorem sEventRead_any (t : List UInt8) (w : World) (hl : t.length ≤ 2000000) :
    Calls Tryd.prog 21 #[str t] w fun e w' => ((∃ (k : Nat) (a n : Int), 1 ≤ k ∧ k ≤ 10 ∧ evAt t k = some [a, n] ∧ e = .returned (.tuple #[.agg #[.int .i64 k, .int .i64 a, .int .i64 n], .bool true])) ∨ ((∀ k, 1 ≤ k → k ≤ 10 → evAt t k = none) ∧ e = .returned (.tuple #[.agg #[.int .i64 0, .int .i64 0, .int .i64 0], .bool false]))) ∧ Below w.heap.size w w' := by
  go_enter Tryd.func21, Tryd.ntmps21
  go_wp2
  go_loopw [4] (fun i w' => ∃ k : Nat, i = .int .i64 k ∧ 1 ≤ k ∧ k ≤ 11 ∧ Hid (∀ j, 1 ≤ j → j < k → evAt t j = none) ∧ Below w.heap.size w w' ∧ Blk w' w.heap.size #[.int .i64 0, .int .i64 0, .int .i64 0] 55) (fun i _ => 11 - (intOf i).toNat)
  case atStart => exact ⟨1, rfl, by omega, by omega, fun j h1 h2 => absurd h2 (by omega), by go_grown, Blk.new w _ _⟩
  case round =>
    obtain ⟨k, rfl, hk1, hk2, hno, hb, hX⟩ := hrel
    by_cases hk : k ≤ 10
    · have hk0 : (0 : Int) ≤ (k : Int) := by omega
      have hkn : (k : Int) ≤ 10 := by omega
      have hkm : (k : Int) < 11 := by omega
      have HB := hid hb
      have HX := hid hX
      clear hb hX
      go_wp2_with fail
      refine (words_any _).mono ?_
      rintro e w2 ⟨rfl, hW, hz, hb2⟩
      have hck := hW k (by omega)
      have hB2 := Below.trans HB.out (hb2.mono HB.out.size)
      have hX2 := HX.out.below hb2 HX.out.lt
      have HB2 := hid hB2
      have HX2 := hid hX2
      clear hW hb2 hB2 hX2 HB HX
      go_wp2_with fail
      refine (rest_any t (wordB k) _ (by omega) (by have := word_len k; omega)).mono ?_
      rintro e w3 ⟨rfl, rfl⟩
      cases hr : restB t (wordB k) with
      | none =>
        have hev : Hid (∀ j, 1 ≤ j → j < k + 1 → evAt t j = none) := none_next hno.out (by simp [evAt, hr])
        go_wp2_with fail
        refine (read_any [] 2 _ (by simp) (by omega)).mono ?_
        rintro e w4 ⟨v, rfl, hv, hb4⟩
        have hB4 := Below.trans HB2.out (hb4.mono HB2.out.size)
        have hX4 := HX2.out.below hb4 HX2.out.lt
        have HB4 := hid hB4
        have HX4 := hid hX4
        clear hv hb4 hB4 hX4
        go_wp2
        exact ⟨⟨k + 1, by simp, by omega, by omega, hev, HB4.out, HX4.out⟩, by simp [intOf]; omega⟩
      | some a =>
        have hal := rest_len hr
        go_wp2_with fail
        refine (read_any a 2 _ (by omega) (by omega)).mono ?_
        rintro e w4 ⟨v, rfl, hv, hb4⟩
        have hB4 := Below.trans HB2.out (hb4.mono HB2.out.size)
        have hX4 := HX2.out.below hb4 HX2.out.lt
        have HB4 := hid hB4
        have HX4 := hid hX4
        clear hb4 hB4 hX4
        cases hx : readB a 2 with
        | none =>
          have hev : Hid (∀ j, 1 ≤ j → j < k + 1 → evAt t j = none) := none_next hno.out (by simp [evAt, hr, hx])
          clear hv
          go_wp2
          exact ⟨⟨k + 1, by simp, by omega, by omega, hev, HB4.out, HX4.out⟩, by simp [intOf]; omega⟩
        | some xs =>
          obtain ⟨a1, a2, rfl⟩ := two_of ((readB_iff (by omega)).1 hx).1
          obtain ⟨ad, cp, rfl, hI⟩ := hv _ hx
          have hev : Hid (evAt t k = some [a1, a2]) := by simp [Hid, evAt, hr, hx]
          obtain ⟨b, o, rfl, hbl, c0⟩ := hI.at 0 (by simp)
          obtain ⟨b', o', he, _, c1⟩ := hI.at 1 (by simp)
          cases he
          replace c0 : w4.cell? ⟨b, o, none⟩ = some (.int .i64 a1) := c0
          replace c1 : w4.cell? ⟨b, o + 1, none⟩ = some (.int .i64 a2) := c1
          have hXc := HX4.out.cell
          have hXf := HX4.out.frozen
          have hXl := HX4.out.lt
          clear hI hv
          go_wp2
          go_region
          repeat (first | go_values | go_skip | go_guarded | go_step | go_upon)
          refine bodyPost_ret (v := .tuple #[.agg #[.int .i64 k, .int .i64 a1, .int .i64 a2], .bool true]) (by simp [results, Tryd.results21, go_sem, *]) rfl ⟨.inl ⟨k, a1, a2, hk1, hk, hev.out, rfl⟩, ?_⟩
          exact (((HB4.out.setCell (p := ⟨w.heap.size, 0, none⟩) (Nat.le_refl _) _).setCell (p := ⟨w.heap.size, 1, none⟩) (Nat.le_refl _) _).setCell (p := ⟨w.heap.size, 2, none⟩) (Nat.le_refl _) _).drew
    · have hkn : ¬ (k : Int) ≤ 10 := by omega
      have hev : Hid (∀ j, 1 ≤ j → j ≤ 10 → evAt t j = none) := fun j h1 h2 => hno.out j h1 (by omega)
      have hXc := hX.cell
      have hXf := hX.frozen
      have hXl := hX.lt
      have HB := hid hb
      clear hb
      go_wp2
      refine bodyPost_ret (v := .tuple #[.agg #[.int .i64 0, .int .i64 0, .int .i64 0], .bool false]) (by simp [results, Tryd.results21, go_sem, *]) rfl ⟨.inr ⟨hev.out, rfl⟩, ?_⟩
      exact ((HB.out.setCell (p := ⟨w.heap.size, 0, none⟩) (Nat.le_refl _) _).setCell (p := ⟨w.heap.size, 1, none⟩) (Nat.le_refl _) _).setCell (p := ⟨w.heap.size, 2, none⟩) (Nat.le_refl _) _
end Go.Proofs.YtoceohacplmgnaaDoor
