/- Texts: an event, as the document writes it. -/
import Derived.Test.YtoceohacplmgnaaDoorWe
import Derived.Test.YtoceohacplmgnaaDoorTk
import Derived.Test.YtoceohacplmgnaaDoorTy
namespace Go.Proofs.YtoceohacplmgnaaDoor
open Go.RowKit

theorem numsB_two (x y : Int) : numsB [x, y] = decB x ++ [32] ++ decB y := by simp [numsB, numsP]
theorem ints_two {w : World} {r : Nat} {x y : Int} (hr : r < w.heap.size) (h0 : w.cell? ⟨r, 0, none⟩ = some (.int .i64 x)) (h1 : w.cell? ⟨r, 1, none⟩ = some (.int .i64 y)) : IntsAt w (some ⟨r, 0, none⟩) [x, y] := by
  refine .inr ⟨r, 0, rfl, hr, fun i hi => ?_⟩
  match i, hi with
  | 0, _ => exact h0
  | 1, _ => exact h1
theorem word_pick : ∀ j, j < 11 → wordB j = pickB wordsE (j : Int) := by decide
theorem cell_alloc_old {V : World} {o : Obj} {B j : Nat} (h : B < V.heap.size) : (V.alloc o).cell? ⟨B, j, none⟩ = V.cell? ⟨B, j, none⟩ := (show Below V.heap.size V (V.alloc o) by go_grown).cell (p := ⟨B, j, none⟩) h
/-- The event's box, in a world that goes on from w. -/
def Bx (w : World) (j : Nat) (x y : Int) (V : World) : Prop :=
  Below w.heap.size w V ∧ V.cell? ⟨w.heap.size, 0, none⟩ = some (.int .i64 (j : Int)) ∧ V.cell? ⟨w.heap.size, 1, none⟩ = some (.int .i64 x) ∧ V.cell? ⟨w.heap.size, 2, none⟩ = some (.int .i64 y) ∧ w.heap.size < V.heap.size
theorem Bx.keep {w V V' : World} {j : Nat} {x y : Int} (h : Bx w j x y V) (hb : Below V.heap.size V V') : Bx w j x y V' := by
  obtain ⟨h1, h2, h3, h4, h5⟩ := h
  refine ⟨h1.trans (hb.mono h1.size), ?_, ?_, ?_, Nat.lt_of_lt_of_le h5 hb.size⟩
  · rw [hb.cell (p := ⟨w.heap.size, 0, none⟩) h5]; exact h2
  · rw [hb.cell (p := ⟨w.heap.size, 1, none⟩) h5]; exact h3
  · rw [hb.cell (p := ⟨w.heap.size, 2, none⟩) h5]; exact h4
theorem Bx.new {w V : World} {j : Nat} {x y : Int} (h : Bx w j x y V) (o : Obj) : Bx w j x y (V.alloc o).drew := h.keep (by go_grown)
theorem Bx.alloc {w V : World} {j : Nat} {x y : Int} (h : Bx w j x y V) (o : Obj) : Bx w j x y (V.alloc o) := h.keep (by go_grown)
theorem Bx.drew {w V : World} {j : Nat} {x y : Int} (h : Bx w j x y V) : Bx w j x y V.drew := h.keep (by go_grown)
theorem line_two' (wd : List UInt8) (x y : Int) : lineB wd [x, y] = wd ++ [32] ++ numsB [x, y] := by rw [line_two, numsB_two]; simp
theorem textE_yes {j : Nat} {x y : Int} (h1 : 1 ≤ j) (h2 : j ≤ 10) (hx : inId x = true) (hy : inId y = true) : textE (j : Int) x y = wordB j ++ [32] ++ numsB [x, y] := by
  have h3 : ∀ j, j < 10 → (pickB wordsE ((j + 1 : Nat) : Int)).isEmpty = false := by decide
  have h4 := h3 (j - 1) (by omega)
  rw [show j - 1 + 1 = j by omega] at h4
  rw [textE, h4, hx, hy, word_pick j (by omega), ← line_two']
  rfl
theorem textE_no {k x y : Int} (h : ¬ (1 ≤ k ∧ k ≤ 10 ∧ inId x = true ∧ inId y = true)) : textE k x y = [] := by
  rw [textE, if_pos]
  by_cases h1 : 1 ≤ k ∧ k ≤ 10
  · cases hx : inId x
    · simp
    · cases hy : inId y
      · simp
      · exact absurd ⟨h1.1, h1.2, hx, hy⟩ h
  · have : (pickB wordsE k).isEmpty = true := by
      simp only [pickB]
      split
      · rename_i h2
        have h3 : k = 0 := by simp [wordsE] at h2; omega
        subst h3
        rfl
      · rfl
    simp [this]
set_option maxRecDepth 100000 in
set_option maxHeartbeats 4000000 in
/-- TextEvent, the document's. -/
theorem sTextEvent_any (k x y : Int) (w : World) (hx : I64 x) (hy : I64 y) :
    Calls Tryd.prog 18 #[.agg #[.int .i64 k, .int .i64 x, .int .i64 y]] w fun e w' => e = .returned (str (textE k x y)) ∧ Below w.heap.size w w' := by
  by_cases hk : 1 ≤ k ∧ k ≤ 10 ∧ inId x = true ∧ inId y = true
  · obtain ⟨k1, k2, hx2, hy2⟩ := hk
    obtain ⟨j, rfl⟩ : ∃ j : Nat, k = (j : Int) := ⟨k.toNat, by omega⟩
    have hj : j < 11 := by omega
    have E := hid (textE_yes (by omega) (by omega) hx2 hy2 : textE (j : Int) x y = wordB j ++ [32] ++ numsB [x, y])
    simp only [inId, decide_eq_true_eq] at hx2 hy2
    have hwl := word_len j
    have hN := numsB_length [x, y] (by intro n hn; simp at hn; rcases hn with rfl | rfl <;> assumption)
    simp only [List.length_cons, List.length_nil] at hN
    have n1 : ¬ (j : Int) < 1 := by omega
    have n2 : ¬ (10 : Int) < (j : Int) := by omega
    have n3 : ¬ x < -1000000 := by omega
    have n4 : ¬ 1000000 < x := by omega
    have n5 : ¬ y < -1000000 := by omega
    have n6 : ¬ 1000000 < y := by omega
    have j0 : (0 : Int) ≤ (j : Int) := by omega
    have j1 : (j : Int) < 11 := by omega
    go_enter Tryd.func18, Tryd.ntmps18
    go_wp2_with fail
    clear n1 n2 n3 n4 n5 n6 hx2 hy2 k1 k2
    obtain ⟨tx, htx⟩ : ∃ tx, wordB j ++ [32] ++ numsB [x, y] = tx := ⟨_, rfl⟩
    rw [htx] at E
    have HTX := hid htx
    clear htx
    have hI : ∀ n ∈ [x, y], I64 n := by intro n hn; simp at hn; rcases hn with rfl | rfl <;> assumption
    refine wp_gen (fun W => Hid (Bx w j x y W)) (show Bx w j x y _ from ⟨by go_grown, by simp [go_sem], by simp [go_sem], by simp [go_sem], by simp⟩) ?_
    intro W BX
    refine wp_region_tw [[], [(1, none)], [(32, some 1)], [(31, some 0), (33, some 2)], [(34, some 3)], [(35, some 4)], [(1, none)], [(37, some 6)], [(1, none)], [(39, some 8)], [(38, some 7), (40, some 9)], [(41, some 10)], [(36, some 5), (42, some 11)], [(43, some 12)]]
      (fun i v w1 => match i with
        | 0 => ∃ B, v = .slice (some ⟨B, 0, none⟩) 11 11 ∧ B < w1.heap.size ∧ w1.cell? ⟨B, j, none⟩ = some (str (wordB j))
        | 1 => v = .pointer (some ⟨w.heap.size, 0, none⟩)
        | 2 => v = .int .i64 (j : Int)
        | 3 => ∃ B, v = .pointer (some ⟨B, j, none⟩) ∧ B < w1.heap.size ∧ w1.cell? ⟨B, j, none⟩ = some (str (wordB j))
        | 4 => v = str (wordB j)
        | 5 => v = str (wordB j ++ [32])
        | 6 => v = .pointer (some ⟨w.heap.size, 1, none⟩)
        | 7 => v = .int .i64 x
        | 8 => v = .pointer (some ⟨w.heap.size, 2, none⟩)
        | 9 => v = .int .i64 y
        | 10 => ∃ r, v = .slice (some ⟨r, 0, none⟩) 2 2 ∧ r < w1.heap.size ∧ w1.cell? ⟨r, 0, none⟩ = some (.int .i64 x) ∧ w1.cell? ⟨r, 1, none⟩ = some (.int .i64 y)
        | 11 => v = str (numsB [x, y])
        | 12 => v = str tx
        | 13 => v = str tx
        | _ => True)
      (Bx w j x y) (fun w1 w2 => Below w1.heap.size w1 w2) 44 rfl (by kernel_rfl)
      (fun i v w1 w2 _ hR hT => by
        match i, hT with
        | 0, hT => obtain ⟨B, h1, h2, h3⟩ := hT; exact ⟨B, h1, Nat.lt_of_lt_of_le h2 hR.size, by rw [below_cell hR h2]; exact h3⟩
        | 1, hT => exact hT
        | 2, hT => exact hT
        | 3, hT => obtain ⟨B, h1, h2, h3⟩ := hT; exact ⟨B, h1, Nat.lt_of_lt_of_le h2 hR.size, by rw [below_cell hR h2]; exact h3⟩
        | 4, hT => exact hT
        | 5, hT => exact hT
        | 6, hT => exact hT
        | 7, hT => exact hT
        | 8, hT => exact hT
        | 9, hT => exact hT
        | 10, hT => obtain ⟨r, h1, h2, h3, h4⟩ := hT; exact ⟨r, h1, Nat.lt_of_lt_of_le h2 hR.size, by rw [below_cell hR h2]; exact h3, by rw [below_cell hR h2]; exact h4⟩
        | 11, hT => exact hT
        | 12, hT => exact hT
        | 13, hT => exact hT
        | (n + 14), hT => exact hT)
      (fun _ => Below.refl _ _) BX.out.drew ⟨?_, ?_, ?_, ?_, ?_, ?_, ?_, ?_, ?_, ?_, ?_, ?_, ?_, ?_, trivial⟩ ?_
    · rintro A w' Q K hC hK -
      simp only [under]
      simp [go_sem]
      refine (words_any _).mono ?_
      rintro e w1 ⟨rfl, h1, h2, hb⟩
      exact hK _ _ ⟨_, rfl, h2, h1 j hj⟩ (hC.keep hb) hb
    · rintro A w' Q K hC hK ⟨e1, -⟩
      replace e1 : A.tmps[1]?.getD undef = .pointer (some ⟨w.heap.size, 0, none⟩) := e1
      simp only [under]
      simp [go_sem, e1]
      exact hK _ _ rfl hC (Below.refl _ _)
    · rintro A w' Q K hC hK ⟨e32, -⟩
      replace e32 : A.tmps[32]?.getD undef = .pointer (some ⟨w.heap.size, 0, none⟩) := e32
      simp only [under]
      have X := hC.2.1
      simp [go_sem, e32, X]
      exact hK _ _ rfl hC (Below.refl _ _)
    · rintro A w' Q K hC hK ⟨e31, e33, -⟩
      replace e31 : ∃ B, A.tmps[31]?.getD undef = .slice (some ⟨B, 0, none⟩) 11 11 ∧ B < w'.heap.size ∧ w'.cell? ⟨B, j, none⟩ = some (str (wordB j)) := e31
      replace e33 : A.tmps[33]?.getD undef = .int .i64 (j : Int) := e33
      simp only [under]
      obtain ⟨B, e31, h2, h3⟩ := e31
      simp [go_sem, e31, e33, j0, j1]
      exact hK _ _ ⟨B, rfl, h2, h3⟩ hC (Below.refl _ _)
    · rintro A w' Q K hC hK ⟨e34, -⟩
      replace e34 : ∃ B, A.tmps[34]?.getD undef = .pointer (some ⟨B, j, none⟩) ∧ B < w'.heap.size ∧ w'.cell? ⟨B, j, none⟩ = some (str (wordB j)) := e34
      simp only [under]
      obtain ⟨B, e34, h2, h3⟩ := e34
      simp [go_sem, e34, h3]
      exact hK _ _ rfl hC (Below.refl _ _)
    · rintro A w' Q K hC hK ⟨e35, -⟩
      replace e35 : A.tmps[35]?.getD undef = str (wordB j) := e35
      simp only [under]
      have hsz : ¬ 9223372036854775807 < (wordB j).length + 1 := by omega
      simp [go_sem, e35, hsz]
      exact hK _ _ (congrArg Value.string (str_app (wordB j) [32])) hC (Below.refl _ _)
    · rintro A w' Q K hC hK ⟨e1, -⟩
      replace e1 : A.tmps[1]?.getD undef = .pointer (some ⟨w.heap.size, 0, none⟩) := e1
      simp only [under]
      simp [go_sem, e1]
      exact hK _ _ rfl hC (Below.refl _ _)
    · rintro A w' Q K hC hK ⟨e37, -⟩
      replace e37 : A.tmps[37]?.getD undef = .pointer (some ⟨w.heap.size, 1, none⟩) := e37
      simp only [under]
      have X := hC.2.2.1
      simp [go_sem, e37, X]
      exact hK _ _ rfl hC (Below.refl _ _)
    · rintro A w' Q K hC hK ⟨e1, -⟩
      replace e1 : A.tmps[1]?.getD undef = .pointer (some ⟨w.heap.size, 0, none⟩) := e1
      simp only [under]
      simp [go_sem, e1]
      exact hK _ _ rfl hC (Below.refl _ _)
    · rintro A w' Q K hC hK ⟨e39, -⟩
      replace e39 : A.tmps[39]?.getD undef = .pointer (some ⟨w.heap.size, 2, none⟩) := e39
      simp only [under]
      have X := hC.2.2.2.1
      simp [go_sem, e39, X]
      exact hK _ _ rfl hC (Below.refl _ _)
    · rintro A w' Q K hC hK ⟨e38, e40, -⟩
      replace e38 : A.tmps[38]?.getD undef = .int .i64 x := e38
      replace e40 : A.tmps[40]?.getD undef = .int .i64 y := e40
      simp only [under]
      have hg : Below w'.heap.size w' (w'.alloc (.cells #[.int .i64 x, .int .i64 y] 3)) := by go_grown
      simp [go_sem, e38, e40]
      exact hK _ _ ⟨w'.heap.size, rfl, by simp, by simp [go_sem], by simp [go_sem]⟩ (hC.alloc _) hg
    · rintro A w' Q K hC hK ⟨e41, -⟩
      replace e41 : ∃ r, A.tmps[41]?.getD undef = .slice (some ⟨r, 0, none⟩) 2 2 ∧ r < w'.heap.size ∧ w'.cell? ⟨r, 0, none⟩ = some (.int .i64 x) ∧ w'.cell? ⟨r, 1, none⟩ = some (.int .i64 y) := e41
      simp only [under]
      obtain ⟨r, e41, h2, h3, h4⟩ := e41
      simp [go_sem, e41]
      refine (nums_any _ 2 2 [x, y] w' rfl (by omega) (ints_two h2 h3 h4) hI).mono ?_
      rintro e w1 ⟨rfl, hb⟩
      exact hK _ _ rfl (hC.keep hb) hb
    · rintro A w' Q K hC hK ⟨e36, e42, -⟩
      replace e36 : A.tmps[36]?.getD undef = str (wordB j ++ [32]) := e36
      replace e42 : A.tmps[42]?.getD undef = str (numsB [x, y]) := e42
      simp only [under]
      have hsz : ¬ 9223372036854775807 < (wordB j).length + 1 + (numsB [x, y]).length := by omega
      simp [go_sem, e36, e42, hsz]
      exact hK _ _ (congrArg Value.string ((str_app (wordB j ++ [32]) (numsB [x, y])).trans (by rw [HTX.out]))) hC (Below.refl _ _)
    · rintro A w' Q K hC hK ⟨e43, -⟩
      replace e43 : A.tmps[43]?.getD undef = str tx := e43
      simp only [under]
      simp [go_sem, e43]
      exact hK _ _ rfl hC (Below.refl _ _)
    · intro W10 hW10
      refine fun v0 h0 v1 h1 v2 h2 v3 h3 v4 h4 v5 h5 v6 h6 v7 h7 v8 h8 v9 h9 v10 h10 v11 h11 v12 h12 v13 h13 => ?_
      have h13' : v13 = str tx := h13
      clear h0 h1 h2 h3 h4 h5 h6 h7 h8 h9 h10 h11 h12 h13
      subst h13'
      simp only [upto, Act.put, List.setIfInBounds_toArray, List.set_cons_zero, List.set_cons_succ]
      go_wp2
      go_ret
      exact ⟨by rw [E.out]; rfl, hW10.1⟩
  · have E : Hid (textE k x y = []) := textE_no hk
    simp only [inId, decide_eq_true_eq] at hk
    by_cases k1 : k < 1
    · go_enter Tryd.func18, Tryd.ntmps18
      go_wp2
      go_ret
      exact ⟨by rw [E.out]; rfl, by go_grown⟩
    by_cases k2 : 10 < k
    · go_enter Tryd.func18, Tryd.ntmps18
      go_wp2
      go_ret
      exact ⟨by rw [E.out]; rfl, by go_grown⟩
    by_cases x1 : x < -1000000
    · go_enter Tryd.func18, Tryd.ntmps18
      go_wp2
      go_ret
      exact ⟨by rw [E.out]; rfl, by go_grown⟩
    by_cases x2 : 1000000 < x
    · go_enter Tryd.func18, Tryd.ntmps18
      go_wp2
      go_ret
      exact ⟨by rw [E.out]; rfl, by go_grown⟩
    by_cases y1 : y < -1000000
    · go_enter Tryd.func18, Tryd.ntmps18
      go_wp2
      go_ret
      exact ⟨by rw [E.out]; rfl, by go_grown⟩
    have y2 : 1000000 < y := by omega
    clear hk
    go_enter Tryd.func18, Tryd.ntmps18
    go_wp2
    go_ret
    exact ⟨by rw [E.out]; rfl, by go_grown⟩
end Go.Proofs.YtoceohacplmgnaaDoor
