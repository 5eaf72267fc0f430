/- Texts: an event, as the program reads it. -/
import Derived.Test.YthdlkpgialmlfaaGreatDoorXc
namespace Go.Proofs.YthdlkpgialmlfaaGreatDoor
open Go.RowKit

abbrev ba (l : List UInt8) : ByteArray := ⟨l.toArray⟩
theorem ba_inj {x y : List UInt8} (h : ba x = ba y) : x = y := by
  have := congrArg (fun b => b.data.toList) h
  simpa using this
theorem idx_from (x : ByteArray) : ∀ (zs : List ByteArray) (i : Nat), (Lib.idxFromS zs x i = -1 ∧ x ∉ zs) ∨ ∃ j, ∃ h : j < zs.length, zs[j] = x ∧ Lib.idxFromS zs x i = ((i + j : Nat) : Int)
  | [], i => .inl ⟨rfl, by simp⟩
  | z :: zs, i => by
    by_cases h : z = x
    · exact .inr ⟨0, by simp, h, by rw [Lib.idxFromS, if_pos h]; simp⟩
    · rcases idx_from x zs (i + 1) with ⟨h1, h2⟩ | ⟨j, hj, h1, h2⟩
      · exact .inl ⟨by rw [Lib.idxFromS, if_neg h]; exact h1, by simp [h2]; exact fun e => h e.symm⟩
      · exact .inr ⟨j + 1, by simpa using hj, by simpa using h1, by rw [Lib.idxFromS, if_neg h, h2]; congr 1; omega⟩
/-- The place of a word among others; -1, if it is none of them. -/
def idxB (ws : List (List UInt8)) (x : List UInt8) : Int := Lib.idxOfS (ws.map ba) (ba x)
theorem idxB_cases (ws : List (List UInt8)) (x : List UInt8) : (idxB ws x = -1 ∧ x ∉ ws) ∨ ∃ j, ∃ h : j < ws.length, ws[j] = x ∧ idxB ws x = (j : Int) := by
  rcases idx_from (ba x) (ws.map ba) 0 with ⟨h1, h2⟩ | ⟨j, hj, h1, h2⟩
  · exact .inl ⟨h1, fun h => h2 (List.mem_map.2 ⟨x, h, rfl⟩)⟩
  · refine .inr ⟨j, by simpa using hj, ?_, by simpa [idxB, Lib.idxOfS] using h2⟩
    rw [List.getElem_map] at h1
    exact ba_inj h1
theorem index_any (g n : Nat) (ws : List (List UInt8)) (x : List UInt8) (w : World) (hn : n = ws.length) (hl : ws.length ≤ 1000) (hc : ∀ (j : Nat) (h : j < ws.length), w.cell? ⟨g, j, none⟩ = some (str ws[j])) :
    Calls Tryz.prog 72 #[.slice (some ⟨g, 0, none⟩) n n, str x] w fun e w' => e = .returned (.int .i64 (idxB ws x)) ∧ w' = w := by
  subst hn
  have h := Tryz.slices_Index_string g 0 ws.length ws.length (ws.map ba) (ba x) w (by simp) (by omega) (fun j hj => by
    have hj2 : j < ws.length := by simpa using hj
    rw [Nat.zero_add, hc j hj2]
    simp [hj2])
  rw [List.take_of_length_le (by simp)] at h
  exact h
theorem cut_any' (l : List UInt8) (w : World) (hl : l.length ≤ 2000000) (hM : ∃ m : Int, w.cell? ⟨1, 0, none⟩ = some (.int .i64 m)) :
    Calls Tryz.prog 71 #[str l, str [32]] w fun e w' => e = .returned (.tuple #[str (Lib.cut l [32]).1, str (Lib.cut l [32]).2.1, .bool (Lib.cut l [32]).2.2]) ∧ Below w.heap.size w w' := by
  obtain ⟨k, hk⟩ := hM
  have hsz : (ByteArray.mk l.toArray).size = l.length := by show l.toArray.size = l.length; simp
  refine Calls.mono (Tryz.strings_Cut ⟨l.toArray⟩ ⟨#[32]⟩ k w (by rw [hsz]; omega) hk) ?_
  rintro e w' ⟨rfl, n, rfl⟩
  exact ⟨by simp, ⟨rfl, rfl, rfl, Nat.le_refl _, fun _ _ => rfl⟩⟩
end Go.Proofs.YthdlkpgialmlfaaGreatDoor
