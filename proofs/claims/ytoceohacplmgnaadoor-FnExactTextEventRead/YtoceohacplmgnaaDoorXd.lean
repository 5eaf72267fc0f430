/- Texts: an event, as the program reads it. -/
import Derived.Test.YtoceohacplmgnaaDoorXc
namespace Go.Proofs.YtoceohacplmgnaaDoor
open Go.RowKit

abbrev ba (l : List UInt8) : ByteArray := ⟨l.toArray⟩
theorem ba_inj {x y : List UInt8} (h : ba x = ba y) : x = y := by
  have := congrArg (fun b => b.data.toList) h
  simpa using this
theorem idx_from (x : ByteArray) : ∀ (zs : List ByteArray) (i : Nat), (Lib.idxFromS zs x i = -1 ∧ x ∉ zs) ∨ ∃ j, ∃ h : j < zs.length, zs[j] = x ∧ Lib.idxFromS zs x i = ((i + j : Nat) : Int)
  | [], i => .inl ⟨rfl, by simp⟩
  | z :: zs, i => by
    by_cases h : z = x
    · exact .inr ⟨0, by simp, h, by rw [Lib.idxFromS, if_pos h]; simp⟩
    · rcases idx_from x zs (i + 1) with ⟨h1, h2⟩ | ⟨j, hj, h1, h2⟩
      · exact .inl ⟨by rw [Lib.idxFromS, if_neg h]; exact h1, by simp [h2]; exact fun e => h e.symm⟩
      · exact .inr ⟨j + 1, by simpa using hj, by simpa using h1, by rw [Lib.idxFromS, if_neg h, h2]; congr 1; omega⟩
/-- The place of a word among others; -1, if it is none of them. -/
def idxB (ws : List (List UInt8)) (x : List UInt8) : Int := Lib.idxOfS (ws.map ba) (ba x)
theorem idxB_cases (ws : List (List UInt8)) (x : List UInt8) : (idxB ws x = -1 ∧ x ∉ ws) ∨ ∃ j, ∃ h : j < ws.length, ws[j] = x ∧ idxB ws x = (j : Int) := by
  rcases idx_from (ba x) (ws.map ba) 0 with ⟨h1, h2⟩ | ⟨j, hj, h1, h2⟩
  · exact .inl ⟨h1, fun h => h2 (List.mem_map.2 ⟨x, h, rfl⟩)⟩
  · refine .inr ⟨j, by simpa using hj, ?_, by simpa [idxB, Lib.idxOfS] using h2⟩
    rw [List.getElem_map] at h1
    exact ba_inj h1
theorem index_any (g n : Nat) (ws : List (List UInt8)) (x : List UInt8) (w : World) (hn : n = ws.length) (hl : ws.length ≤ 1000) (hc : ∀ (j : Nat) (h : j < ws.length), w.cell? ⟨g, j, none⟩ = some (str ws[j])) :
    Calls Tryd.prog 87 #[.slice (some ⟨g, 0, none⟩) n n, str x] w fun e w' => e = .returned (.int .i64 (idxB ws x)) ∧ w' = w := by
  subst hn
  have h := Tryd.slices_Index_string g 0 ws.length ws.length (ws.map ba) (ba x) w (by simp) (by omega) (fun j hj => by
    have hj2 : j < ws.length := by simpa using hj
    rw [Nat.zero_add, hc j hj2]
    simp [hj2])
  rw [List.take_of_length_le (by simp)] at h
  exact h
theorem cut_any' (l : List UInt8) (w : World) (hl : l.length ≤ 2000000) (hM : ∃ m : Int, w.cell? ⟨1, 0, none⟩ = some (.int .i64 m)) :
    Calls Tryd.prog 86 #[str l, str [32]] w fun e w' => e = .returned (.tuple #[str (Lib.cut l [32]).1, str (Lib.cut l [32]).2.1, .bool (Lib.cut l [32]).2.2]) ∧ Below w.heap.size w w' := by
  obtain ⟨k, hk⟩ := hM
  have hsz : (ByteArray.mk l.toArray).size = l.length := by show l.toArray.size = l.length; simp
  refine Calls.mono (Tryd.strings_Cut ⟨l.toArray⟩ ⟨#[32]⟩ k w (by rw [hsz]; omega) hk) ?_
  rintro e w' ⟨rfl, n, rfl⟩
  exact ⟨by simp, ⟨rfl, rfl, rfl, Nat.le_refl _, fun _ _ => rfl⟩⟩
theorem eventFieldsR (r : Nat) (w : World) :
    Calls Tryd.prog 197 #[.pointer (some ⟨r, 0, none⟩)] w fun e w2 => ∃ b c, e = .returned (.slice (some ⟨b, 0, none⟩) 2 c) ∧ w.heap.size ≤ b ∧ PtrR w2 b r [1, 2] ∧ Below w.heap.size w w2 := by
  go_enter Tryd.func197, Tryd.ntmps197
  go_wp2
  go_region
  repeat (first | go_values | go_skip | go_guarded | go_step | go_upon)
  go_ret
  refine ⟨w.heap.size, 2, rfl, Nat.le_refl _, ⟨by simp, fun i hi => ?_⟩, by go_grown⟩
  match i, hi with
  | 0, _ => simp [go_sem]
  | 1, _ => simp [go_sem]
theorem eventFieldsAt (r : Nat) (w : World) : FieldsAt w 118 197 r [1, 2] where
  mf := fun _ => by kernel_rfl
  ef := fun args w => by kernel_rfl
  cf := eventFieldsR r w
/-- What an event's text is, in the words of what is cut off ahead. -/
theorem evAt_iff {t : List UInt8} {k : Nat} {xs : List Int} (h1 : 1 ≤ k) (h2 : k ≤ 10) : evAt t k = some xs ↔ (Lib.cut t [32]).1 = wordB k ∧ readB (Lib.cut t [32]).2.1 2 = some xs := by
  have hw : (32 : UInt8) ∉ wordB k := by
    have : ∀ k, k < 11 → (32 : UInt8) ∉ wordB k := by decide
    exact this k (by omega)
  have key : evAt t k = some xs ↔ ∃ a, t = wordB k ++ 32 :: a ∧ readB a 2 = some xs := by
    unfold evAt
    cases hr : restB t (wordB k) with
    | none =>
      simp only
      constructor
      · intro h; cases h
      · rintro ⟨a, h, _⟩
        rw [restB_iff.2 h] at hr
        cases hr
    | some a =>
      have ht := restB_iff.1 hr
      simp only
      constructor
      · intro h; exact ⟨a, ht, by simpa using h⟩
      · rintro ⟨a', h, h'⟩
        have : a' = a := by
          rw [ht] at h
          simpa using (List.append_cancel_left h).symm
        subst this
        simpa using h'
  rw [key]
  constructor
  · rintro ⟨a, rfl, h⟩
    rw [cut_lib, if_pos (by simp), cut_some a hw]
    simpa using h
  · rintro ⟨h3, h4⟩
    by_cases hm : (32 : UInt8) ∈ t
    · rcases idx_one 32 t with ⟨h5, _⟩ | ⟨p, q, h5, h6, _⟩
      · exact absurd hm h5
      · subst h5
        rw [cut_lib, if_pos hm, cut_some q h6] at h3 h4
        simp only [List.headD_cons] at h3 h4
        subst h3
        exact ⟨q, rfl, by simpa using h4⟩
    · rw [cut_lib, if_neg hm] at h4
      have := (readB_pieces (by omega)).1 h4
      simp [cutB] at this
end Go.Proofs.YtoceohacplmgnaaDoor
