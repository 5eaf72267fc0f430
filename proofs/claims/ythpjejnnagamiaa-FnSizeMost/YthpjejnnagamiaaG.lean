/- The walks of the exact laws whose answers are sizes. -/
import Derived.Test.YthpjejnnagamiaaE
import Derived.Deep.DeepCutAuto
namespace Go.Proofs.Ythpjejnnagamiaa
open Go.RowKit

theorem bel_realloc {B : Nat} {w : World} (h : B ≤ w.heap.size) (o o' : Obj) : Below B (w.alloc o) (w.alloc o') :=
  ⟨rfl, rfl, rfl, by simp, fun k hk => by rw [Below.heap_alloc _ _ _ (by omega), Below.heap_alloc _ _ _ (by omega)]⟩

/-- What every region of these laws keeps, behind whatever turns nothing below the two boxes. -/
theorem keepB {w W w1 : World} {a b c d : Int} (hb : Below (w.heap.size + 2) W w1)
    (h : Below w.heap.size w W ∧ w.heap.size + 2 ≤ W.heap.size ∧ W.cell? ⟨w.heap.size, 0, none⟩ = some (.int .i64 a) ∧ W.cell? ⟨w.heap.size, 1, none⟩ = some (.int .i64 b) ∧ W.cell? ⟨w.heap.size + 1, 0, none⟩ = some (.int .i64 c) ∧ W.cell? ⟨w.heap.size + 1, 1, none⟩ = some (.int .i64 d)) :
    Below w.heap.size w w1 ∧ w.heap.size + 2 ≤ w1.heap.size ∧ w1.cell? ⟨w.heap.size, 0, none⟩ = some (.int .i64 a) ∧ w1.cell? ⟨w.heap.size, 1, none⟩ = some (.int .i64 b) ∧ w1.cell? ⟨w.heap.size + 1, 0, none⟩ = some (.int .i64 c) ∧ w1.cell? ⟨w.heap.size + 1, 1, none⟩ = some (.int .i64 d) := by
  obtain ⟨h1, h2, h3, h4, h5, h6⟩ := h
  refine ⟨h1.trans (hb.mono (by omega)), Nat.le_trans h2 hb.size, ?_, ?_, ?_, ?_⟩
  · rw [hb.cell (p := ⟨w.heap.size, 0, none⟩) (by simp)]; exact h3
  · rw [hb.cell (p := ⟨w.heap.size, 1, none⟩) (by simp)]; exact h4
  · rw [hb.cell (p := ⟨w.heap.size + 1, 0, none⟩) (by simp)]; exact h5
  · rw [hb.cell (p := ⟨w.heap.size + 1, 1, none⟩) (by simp)]; exact h6

theorem blt {w0 w1 : World} {o : Obj} (hb : Below (w0.alloc o).heap.size (w0.alloc o) w1) : w0.heap.size < w1.heap.size := by
  have := hb.size; simp at this; omega

theorem bel_drewalloc {B : Nat} {w : World} (h : B ≤ w.heap.size) (o : Obj) : Below B w.drew (w.alloc o).drew :=
  ⟨rfl, rfl, rfl, by simp, fun k hk => Below.heap_alloc w o k (by omega)⟩

theorem startS (w : World) (a b c d : Int) : Below w.heap.size w (((w.alloc (.cells #[.int .i64 a, .int .i64 b] 35)).alloc (.cells #[.int .i64 c, .int .i64 d] 35)).drew) ∧ w.heap.size + 2 ≤ (((w.alloc (.cells #[.int .i64 a, .int .i64 b] 35)).alloc (.cells #[.int .i64 c, .int .i64 d] 35)).drew).heap.size ∧ (((w.alloc (.cells #[.int .i64 a, .int .i64 b] 35)).alloc (.cells #[.int .i64 c, .int .i64 d] 35)).drew).cell? ⟨w.heap.size, 0, none⟩ = some (.int .i64 a) ∧ (((w.alloc (.cells #[.int .i64 a, .int .i64 b] 35)).alloc (.cells #[.int .i64 c, .int .i64 d] 35)).drew).cell? ⟨w.heap.size, 1, none⟩ = some (.int .i64 b) ∧ (((w.alloc (.cells #[.int .i64 a, .int .i64 b] 35)).alloc (.cells #[.int .i64 c, .int .i64 d] 35)).drew).cell? ⟨w.heap.size + 1, 0, none⟩ = some (.int .i64 c) ∧ (((w.alloc (.cells #[.int .i64 a, .int .i64 b] 35)).alloc (.cells #[.int .i64 c, .int .i64 d] 35)).drew).cell? ⟨w.heap.size + 1, 1, none⟩ = some (.int .i64 d) := by
  refine ⟨by go_grown, ?_⟩
  simp [go_sem]


/-- The same behind the first answer: three boxes. -/
theorem keepC {w wc W w1 : World} {B : Nat} {a b c d p q : Int} (hw : w.heap.size + 2 ≤ wc.heap.size) (hB : B < wc.heap.size) (hb : Below wc.heap.size W w1)
    (h : Below w.heap.size w W ∧ wc.heap.size ≤ W.heap.size ∧ W.cell? ⟨w.heap.size, 0, none⟩ = some (.int .i64 a) ∧ W.cell? ⟨w.heap.size, 1, none⟩ = some (.int .i64 b) ∧ W.cell? ⟨w.heap.size + 1, 0, none⟩ = some (.int .i64 c) ∧ W.cell? ⟨w.heap.size + 1, 1, none⟩ = some (.int .i64 d) ∧ W.cell? ⟨B, 0, none⟩ = some (.int .i64 p) ∧ W.cell? ⟨B, 1, none⟩ = some (.int .i64 q)) :
    Below w.heap.size w w1 ∧ wc.heap.size ≤ w1.heap.size ∧ w1.cell? ⟨w.heap.size, 0, none⟩ = some (.int .i64 a) ∧ w1.cell? ⟨w.heap.size, 1, none⟩ = some (.int .i64 b) ∧ w1.cell? ⟨w.heap.size + 1, 0, none⟩ = some (.int .i64 c) ∧ w1.cell? ⟨w.heap.size + 1, 1, none⟩ = some (.int .i64 d) ∧ w1.cell? ⟨B, 0, none⟩ = some (.int .i64 p) ∧ w1.cell? ⟨B, 1, none⟩ = some (.int .i64 q) := by
  obtain ⟨h1, h2, h3, h4, h5, h6, h7, h8⟩ := h
  refine ⟨h1.trans (hb.mono (by omega)), Nat.le_trans h2 hb.size, ?_, ?_, ?_, ?_, ?_, ?_⟩
  · rw [hb.cell (p := ⟨w.heap.size, 0, none⟩) (by simp; omega)]; exact h3
  · rw [hb.cell (p := ⟨w.heap.size, 1, none⟩) (by simp; omega)]; exact h4
  · rw [hb.cell (p := ⟨w.heap.size + 1, 0, none⟩) (by simp; omega)]; exact h5
  · rw [hb.cell (p := ⟨w.heap.size + 1, 1, none⟩) (by simp; omega)]; exact h6
  · rw [hb.cell (p := ⟨B, 0, none⟩) (by simpa using hB)]; exact h7
  · rw [hb.cell (p := ⟨B, 1, none⟩) (by simpa using hB)]; exact h8

theorem startC {w wc : World} {B : Nat} {a b c d p q : Int} (h : Below w.heap.size w wc ∧ w.heap.size + 2 ≤ wc.heap.size ∧ wc.cell? ⟨w.heap.size, 0, none⟩ = some (.int .i64 a) ∧ wc.cell? ⟨w.heap.size, 1, none⟩ = some (.int .i64 b) ∧ wc.cell? ⟨w.heap.size + 1, 0, none⟩ = some (.int .i64 c) ∧ wc.cell? ⟨w.heap.size + 1, 1, none⟩ = some (.int .i64 d)) (h7 : wc.cell? ⟨B, 0, none⟩ = some (.int .i64 p)) (h8 : wc.cell? ⟨B, 1, none⟩ = some (.int .i64 q)) :
    Below w.heap.size w wc.drew ∧ wc.heap.size ≤ wc.drew.heap.size ∧ wc.drew.cell? ⟨w.heap.size, 0, none⟩ = some (.int .i64 a) ∧ wc.drew.cell? ⟨w.heap.size, 1, none⟩ = some (.int .i64 b) ∧ wc.drew.cell? ⟨w.heap.size + 1, 0, none⟩ = some (.int .i64 c) ∧ wc.drew.cell? ⟨w.heap.size + 1, 1, none⟩ = some (.int .i64 d) ∧ wc.drew.cell? ⟨B, 0, none⟩ = some (.int .i64 p) ∧ wc.drew.cell? ⟨B, 1, none⟩ = some (.int .i64 q) := by
  obtain ⟨h1, h2, h3, h4, h5, h6⟩ := h
  exact ⟨h1.drew, Nat.le_refl _, h3, h4, h5, h6, h7, h8⟩

set_option maxHeartbeats 2000000 in
theorem exMost (a b c d : Int) (w : World) :
    Calls Try.prog 10 #[.agg #[.int .i64 a, .int .i64 b], .agg #[.int .i64 c, .int .i64 d]] w fun e w' => e = .returned (.bool true) ∧ Below w.heap.size w w' := by
  go_enter Try.func10, Try.ntmps10
  go_wp2
  go_cut [5] (fun p wx => (∃ B, p = .pointer (some ⟨B, 0, none⟩) ∧ w.heap.size + 2 ≤ B ∧ B < wx.heap.size ∧ wx.cell? ⟨B, 0, none⟩ = some (.int .i64 (maxI a c)) ∧ wx.cell? ⟨B, 1, none⟩ = some (.int .i64 (maxI b d))) ∧ Below w.heap.size w wx ∧ w.heap.size + 2 ≤ wx.heap.size ∧ wx.cell? ⟨w.heap.size, 0, none⟩ = some (.int .i64 a) ∧ wx.cell? ⟨w.heap.size, 1, none⟩ = some (.int .i64 b) ∧ wx.cell? ⟨w.heap.size + 1, 0, none⟩ = some (.int .i64 c) ∧ wx.cell? ⟨w.heap.size + 1, 1, none⟩ = some (.int .i64 d))
  case first =>
    go_region_held3 (fun w' => Below w.heap.size w w' ∧ w.heap.size + 2 ≤ w'.heap.size ∧ w'.cell? ⟨w.heap.size, 0, none⟩ = some (.int .i64 a) ∧ w'.cell? ⟨w.heap.size, 1, none⟩ = some (.int .i64 b) ∧ w'.cell? ⟨w.heap.size + 1, 0, none⟩ = some (.int .i64 c) ∧ w'.cell? ⟨w.heap.size + 1, 1, none⟩ = some (.int .i64 d))
      (first | (refine keepA (by assumption) ?_; assumption) | (apply keepB; rotate_left; assumption; first | (with_reducible refine Below.alloc (Below.refl _ _) ?_ _; go_size; done) | (with_reducible refine Below.setCell (Below.setCell (Below.refl _ _) ?_ _) ?_ _ <;> (go_size; done)) | (with_reducible refine bel_realloc ?_ _ _; go_size; done) | (with_reducible refine bel_drewalloc ?_ _; go_size; done)) | (exact startS _ _ _ _ _))
      (first | (go_at_call 26; refine (toSize_any _ _ _).mono ?_; rintro e w1 ⟨rfl, hb⟩; obtain ⟨hc, hf⟩ := bcell hb; have hs := hb.size; (try simp at hs); (try have hl := blt hb); (have hq : w.heap.size + 2 ≤ w1.heap.size := (by omega)); (try have z2 : w.heap.size + 2 < w1.heap.size := (by omega))) | (go_at_call 23; refine (specMost_any _ _ _ _ _).mono ?_; rintro e w1 ⟨rfl, hb⟩; obtain ⟨hc, hf⟩ := bcell hb; have hs := hb.size; (try simp at hs); (try have hl := blt hb); (have hq : w.heap.size + 2 ≤ w1.heap.size := (by omega)); (try have z2 : w.heap.size + 2 < w1.heap.size := (by omega))))
    all_goals go_wp2_with fail
    all_goals go_meet
    all_goals refine ⟨⟨_, rfl, ?_, ?_, ?_, ?_⟩, by assumption⟩
    all_goals first | (go_size; done) | (simp [*, go_sem]; done)
  case rest =>
    obtain ⟨⟨B, rfl, hB1, hB2, hc0, hc1⟩, hS⟩ := hcut
    have hw2 := hS.2.1
    go_wp2
    go_region_held3 (fun w' => Below w.heap.size w w' ∧ wc.heap.size ≤ w'.heap.size ∧ w'.cell? ⟨w.heap.size, 0, none⟩ = some (.int .i64 a) ∧ w'.cell? ⟨w.heap.size, 1, none⟩ = some (.int .i64 b) ∧ w'.cell? ⟨w.heap.size + 1, 0, none⟩ = some (.int .i64 c) ∧ w'.cell? ⟨w.heap.size + 1, 1, none⟩ = some (.int .i64 d) ∧ w'.cell? ⟨B, 0, none⟩ = some (.int .i64 (maxI a c)) ∧ w'.cell? ⟨B, 1, none⟩ = some (.int .i64 (maxI b d)))
      (first | (exact startC hS hc0 hc1) | (refine keepC hw2 hB2 (Below.mono (by assumption) (by go_size)) ?_; assumption) | (apply keepC hw2 hB2; rotate_left; assumption; first | (with_reducible refine Below.alloc (Below.refl _ _) ?_ _; go_size; done) | (with_reducible refine Below.setCell (Below.setCell (Below.refl _ _) ?_ _) ?_ _ <;> (go_size; done)) | (with_reducible refine bel_realloc ?_ _ _; go_size; done) | (with_reducible refine bel_drewalloc ?_ _; go_size; done)))
      (first | (go_at_call 26; refine (toSize_any _ _ _).mono ?_; rintro e w1 ⟨rfl, hb⟩; obtain ⟨hc, hf⟩ := bcell hb; have hs := hb.size; (try simp at hs); (try have hl := blt hb); (have hq : wc.heap.size ≤ w1.heap.size := (by omega)); (try have z2 : wc.heap.size < w1.heap.size := (by omega))) | (go_at_call 16; refine (implMost_any _ _ _ _ _).mono ?_; rintro e w1 ⟨rfl, hb⟩; obtain ⟨hc, hf⟩ := bcell hb; have hs := hb.size; (try simp at hs); (try have hl := blt hb); (have hq : wc.heap.size ≤ w1.heap.size := (by omega)); (try have z2 : wc.heap.size < w1.heap.size := (by omega))))
    all_goals rename_i hh
    all_goals obtain ⟨hh1, hh2, hh3, hh4, hh5, hh6, hh7, hh8⟩ := hh
    all_goals go_wp2_with (go_at_call 28; refine (eqSize_any _ _ _ _ _).mono ?_; rintro e w9 ⟨rfl, hb9⟩)
    all_goals go_ret
    all_goals exact ⟨rfl, bel_trans hh1 hb9⟩

set_option maxHeartbeats 2000000 in
theorem exAdd (a b c d : Int) (w : World) :
    Calls Try.prog 7 #[.agg #[.int .i64 a, .int .i64 b], .agg #[.int .i64 c, .int .i64 d]] w fun e w' => e = .returned (.bool true) ∧ Below w.heap.size w w' := by
  go_enter Try.func7, Try.ntmps7
  go_wp2
  go_cut [5, 6] (fun p g wx => (g = .bool (addOk a b c d) ∧ (∃ B, p = .pointer (some ⟨B, 0, none⟩) ∧ w.heap.size + 2 ≤ B ∧ B < wx.heap.size ∧ wx.cell? ⟨B, 0, none⟩ = some (.int .i64 (addC a b c d)) ∧ wx.cell? ⟨B, 1, none⟩ = some (.int .i64 (addM a b c d)))) ∧ Below w.heap.size w wx ∧ w.heap.size + 2 ≤ wx.heap.size ∧ wx.cell? ⟨w.heap.size, 0, none⟩ = some (.int .i64 a) ∧ wx.cell? ⟨w.heap.size, 1, none⟩ = some (.int .i64 b) ∧ wx.cell? ⟨w.heap.size + 1, 0, none⟩ = some (.int .i64 c) ∧ wx.cell? ⟨w.heap.size + 1, 1, none⟩ = some (.int .i64 d))
  case first =>
    go_region_held3 (fun w' => Below w.heap.size w w' ∧ w.heap.size + 2 ≤ w'.heap.size ∧ w'.cell? ⟨w.heap.size, 0, none⟩ = some (.int .i64 a) ∧ w'.cell? ⟨w.heap.size, 1, none⟩ = some (.int .i64 b) ∧ w'.cell? ⟨w.heap.size + 1, 0, none⟩ = some (.int .i64 c) ∧ w'.cell? ⟨w.heap.size + 1, 1, none⟩ = some (.int .i64 d))
      (first | (refine keepA (by assumption) ?_; assumption) | (apply keepB; rotate_left; assumption; first | (with_reducible refine Below.alloc (Below.refl _ _) ?_ _; go_size; done) | (with_reducible refine Below.setCell (Below.setCell (Below.refl _ _) ?_ _) ?_ _ <;> (go_size; done)) | (with_reducible refine bel_realloc ?_ _ _; go_size; done) | (with_reducible refine bel_drewalloc ?_ _; go_size; done)) | (exact startS _ _ _ _ _))
      (first | (go_at_call 26; refine (toSize_any _ _ _).mono ?_; rintro e w1 ⟨rfl, hb⟩; obtain ⟨hc, hf⟩ := bcell hb; have hs := hb.size; (try simp at hs); (try have hl := blt hb); (have hq : w.heap.size + 2 ≤ w1.heap.size := (by omega)); (try have z2 : w.heap.size + 2 < w1.heap.size := (by omega))) | (go_at_call 14; refine (specAdd_any _ _ _ _ _).mono ?_; rintro e w1 ⟨rfl, hb⟩; obtain ⟨hc, hf⟩ := bcell hb; have hs := hb.size; (try simp at hs); (try have hl := blt hb); (have hq : w.heap.size + 2 ≤ w1.heap.size := (by omega)); (try have z2 : w.heap.size + 2 < w1.heap.size := (by omega))))
    all_goals go_wp2_with fail
    all_goals go_meet
    all_goals refine ⟨⟨rfl, _, rfl, ?_, ?_, ?_, ?_⟩, by assumption⟩
    all_goals first | (go_size; done) | (simp [*, go_sem]; done)
  case rest =>
    obtain ⟨⟨rfl, B, rfl, hB1, hB2, hc0, hc1⟩, hS⟩ := hcut
    have hw2 := hS.2.1
    go_wp2
    go_region_held3 (fun w' => Below w.heap.size w w' ∧ wc.heap.size ≤ w'.heap.size ∧ w'.cell? ⟨w.heap.size, 0, none⟩ = some (.int .i64 a) ∧ w'.cell? ⟨w.heap.size, 1, none⟩ = some (.int .i64 b) ∧ w'.cell? ⟨w.heap.size + 1, 0, none⟩ = some (.int .i64 c) ∧ w'.cell? ⟨w.heap.size + 1, 1, none⟩ = some (.int .i64 d) ∧ w'.cell? ⟨B, 0, none⟩ = some (.int .i64 (addC a b c d)) ∧ w'.cell? ⟨B, 1, none⟩ = some (.int .i64 (addM a b c d)))
      (first | (exact startC hS hc0 hc1) | (refine keepC hw2 hB2 (Below.mono (by assumption) (by go_size)) ?_; assumption) | (apply keepC hw2 hB2; rotate_left; assumption; first | (with_reducible refine Below.alloc (Below.refl _ _) ?_ _; go_size; done) | (with_reducible refine Below.setCell (Below.setCell (Below.refl _ _) ?_ _) ?_ _ <;> (go_size; done)) | (with_reducible refine bel_realloc ?_ _ _; go_size; done) | (with_reducible refine bel_drewalloc ?_ _; go_size; done)))
      (first | (go_at_call 26; refine (toSize_any _ _ _).mono ?_; rintro e w1 ⟨rfl, hb⟩; obtain ⟨hc, hf⟩ := bcell hb; have hs := hb.size; (try simp at hs); (try have hl := blt hb); (have hq : wc.heap.size ≤ w1.heap.size := (by omega)); (try have z2 : wc.heap.size < w1.heap.size := (by omega))) | (go_at_call 13; refine (implAdd_any _ _ _ _ _).mono ?_; rintro e w1 ⟨rfl, hb⟩; obtain ⟨hc, hf⟩ := bcell hb; have hs := hb.size; (try simp at hs); (try have hl := blt hb); (have hq : wc.heap.size ≤ w1.heap.size := (by omega)); (try have z2 : wc.heap.size < w1.heap.size := (by omega))))
    all_goals rename_i hh
    all_goals obtain ⟨hh1, hh2, hh3, hh4, hh5, hh6, hh7, hh8⟩ := hh
    all_goals go_wp2_with (go_at_call 28; refine (eqSize_any _ _ _ _ _).mono ?_; rintro e w9 ⟨rfl, hb9⟩)
    all_goals go_ret
    all_goals exact ⟨rfl, bel_trans hh1 hb9⟩

set_option maxHeartbeats 2000000 in
theorem exLess (a b c d : Int) (w : World) :
    Calls Try.prog 8 #[.agg #[.int .i64 a, .int .i64 b], .agg #[.int .i64 c, .int .i64 d]] w fun e w' => e = .returned (.bool true) ∧ Below w.heap.size w w' := by
  go_enter Try.func8, Try.ntmps8
  go_wp2
  go_cut [5, 6] (fun p g wx => (g = .bool (lessOk a b c d) ∧ (∃ B, p = .pointer (some ⟨B, 0, none⟩) ∧ w.heap.size + 2 ≤ B ∧ B < wx.heap.size ∧ wx.cell? ⟨B, 0, none⟩ = some (.int .i64 (lessC a b c d)) ∧ wx.cell? ⟨B, 1, none⟩ = some (.int .i64 (lessM a b c d)))) ∧ Below w.heap.size w wx ∧ w.heap.size + 2 ≤ wx.heap.size ∧ wx.cell? ⟨w.heap.size, 0, none⟩ = some (.int .i64 a) ∧ wx.cell? ⟨w.heap.size, 1, none⟩ = some (.int .i64 b) ∧ wx.cell? ⟨w.heap.size + 1, 0, none⟩ = some (.int .i64 c) ∧ wx.cell? ⟨w.heap.size + 1, 1, none⟩ = some (.int .i64 d))
  case first =>
    go_region_held3 (fun w' => Below w.heap.size w w' ∧ w.heap.size + 2 ≤ w'.heap.size ∧ w'.cell? ⟨w.heap.size, 0, none⟩ = some (.int .i64 a) ∧ w'.cell? ⟨w.heap.size, 1, none⟩ = some (.int .i64 b) ∧ w'.cell? ⟨w.heap.size + 1, 0, none⟩ = some (.int .i64 c) ∧ w'.cell? ⟨w.heap.size + 1, 1, none⟩ = some (.int .i64 d))
      (first | (refine keepA (by assumption) ?_; assumption) | (apply keepB; rotate_left; assumption; first | (with_reducible refine Below.alloc (Below.refl _ _) ?_ _; go_size; done) | (with_reducible refine Below.setCell (Below.setCell (Below.refl _ _) ?_ _) ?_ _ <;> (go_size; done)) | (with_reducible refine bel_realloc ?_ _ _; go_size; done) | (with_reducible refine bel_drewalloc ?_ _; go_size; done)) | (exact startS _ _ _ _ _))
      (first | (go_at_call 26; refine (toSize_any _ _ _).mono ?_; rintro e w1 ⟨rfl, hb⟩; obtain ⟨hc, hf⟩ := bcell hb; have hs := hb.size; (try simp at hs); (try have hl := blt hb); (have hq : w.heap.size + 2 ≤ w1.heap.size := (by omega)); (try have z2 : w.heap.size + 2 < w1.heap.size := (by omega))) | (go_at_call 25; refine (specLess_any _ _ _ _ _).mono ?_; rintro e w1 ⟨rfl, hb⟩; obtain ⟨hc, hf⟩ := bcell hb; have hs := hb.size; (try simp at hs); (try have hl := blt hb); (have hq : w.heap.size + 2 ≤ w1.heap.size := (by omega)); (try have z2 : w.heap.size + 2 < w1.heap.size := (by omega))))
    all_goals go_wp2_with fail
    all_goals go_meet
    all_goals refine ⟨⟨rfl, _, rfl, ?_, ?_, ?_, ?_⟩, by assumption⟩
    all_goals first | (go_size; done) | (simp [*, go_sem]; done)
  case rest =>
    obtain ⟨⟨rfl, B, rfl, hB1, hB2, hc0, hc1⟩, hS⟩ := hcut
    have hw2 := hS.2.1
    go_wp2
    go_region_held3 (fun w' => Below w.heap.size w w' ∧ wc.heap.size ≤ w'.heap.size ∧ w'.cell? ⟨w.heap.size, 0, none⟩ = some (.int .i64 a) ∧ w'.cell? ⟨w.heap.size, 1, none⟩ = some (.int .i64 b) ∧ w'.cell? ⟨w.heap.size + 1, 0, none⟩ = some (.int .i64 c) ∧ w'.cell? ⟨w.heap.size + 1, 1, none⟩ = some (.int .i64 d) ∧ w'.cell? ⟨B, 0, none⟩ = some (.int .i64 (lessC a b c d)) ∧ w'.cell? ⟨B, 1, none⟩ = some (.int .i64 (lessM a b c d)))
      (first | (exact startC hS hc0 hc1) | (refine keepC hw2 hB2 (Below.mono (by assumption) (by go_size)) ?_; assumption) | (apply keepC hw2 hB2; rotate_left; assumption; first | (with_reducible refine Below.alloc (Below.refl _ _) ?_ _; go_size; done) | (with_reducible refine Below.setCell (Below.setCell (Below.refl _ _) ?_ _) ?_ _ <;> (go_size; done)) | (with_reducible refine bel_realloc ?_ _ _; go_size; done) | (with_reducible refine bel_drewalloc ?_ _; go_size; done)))
      (first | (go_at_call 26; refine (toSize_any _ _ _).mono ?_; rintro e w1 ⟨rfl, hb⟩; obtain ⟨hc, hf⟩ := bcell hb; have hs := hb.size; (try simp at hs); (try have hl := blt hb); (have hq : wc.heap.size ≤ w1.heap.size := (by omega)); (try have z2 : wc.heap.size < w1.heap.size := (by omega))) | (go_at_call 15; refine (implLess_any _ _ _ _ _).mono ?_; rintro e w1 ⟨rfl, hb⟩; obtain ⟨hc, hf⟩ := bcell hb; have hs := hb.size; (try simp at hs); (try have hl := blt hb); (have hq : wc.heap.size ≤ w1.heap.size := (by omega)); (try have z2 : wc.heap.size < w1.heap.size := (by omega))))
    all_goals rename_i hh
    all_goals obtain ⟨hh1, hh2, hh3, hh4, hh5, hh6, hh7, hh8⟩ := hh
    all_goals go_wp2_with (go_at_call 28; refine (eqSize_any _ _ _ _ _).mono ?_; rintro e w9 ⟨rfl, hb9⟩)
    all_goals go_ret
    all_goals exact ⟨rfl, bel_trans hh1 hb9⟩
end Go.Proofs.Ythpjejnnagamiaa
