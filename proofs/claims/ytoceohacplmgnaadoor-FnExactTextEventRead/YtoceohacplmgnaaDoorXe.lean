/- Texts: an event, as the program reads it: the walk. -/
import Derived.Test.YtoceohacplmgnaaDoorXd
namespace Go.Proofs.YtoceohacplmgnaaDoor
open Go.RowKit

theorem cut_lens (t : List UInt8) : (Lib.cut t [32]).1.length ≤ t.length ∧ (Lib.cut t [32]).2.1.length ≤ t.length := by
  rw [Lib.cut]
  split
  · simp
    omega
  · simp
theorem pick_idx (x : List UInt8) : (∃ k : Nat, 1 ≤ k ∧ k ≤ 10 ∧ wordB k = x ∧ idxB wordsE x = (k : Int) ∧ (pickB wordsE (idxB wordsE x)).isEmpty = false) ∨ ((∀ k, 1 ≤ k → k ≤ 10 → wordB k ≠ x) ∧ (pickB wordsE (idxB wordsE x)).isEmpty = true) := by
  rcases idxB_cases wordsE x with ⟨h1, h2⟩ | ⟨j, hj, h1, h2⟩
  · refine .inr ⟨fun k k1 k2 e => h2 ?_, by rw [h1]; rfl⟩
    have : ∀ k, k < 11 → wordB k ∈ wordsE := by decide
    rw [← e]
    exact this k (by omega)
  · have hj2 : j < 11 := hj
    by_cases h0 : j = 0
    · subst h0
      refine .inr ⟨fun k k1 k2 e => ?_, by rw [h2]; rfl⟩
      have : ∀ k, k < 10 → wordB (k + 1) ≠ [] := by decide
      have h3 := this (k - 1) (by omega)
      rw [show k - 1 + 1 = k by omega] at h3
      apply h3
      rw [e, ← h1]
      rfl
    · refine .inl ⟨j, by omega, by omega, ?_, h2, ?_⟩
      · have : ∀ j (h : j < 11), wordB j = wordsE.getD j [] := by decide
        rw [this j hj2, ← h1]
        simp [hj]
      · rw [h2]
        have : ∀ j, j < 10 → (pickB wordsE ((j + 1 : Nat) : Int)).isEmpty = false := by decide
        have h3 := this (j - 1) (by omega)
        rw [show j - 1 + 1 = j by omega] at h3
        exact h3
theorem cells_words' (w : World) (ws : List (List UInt8)) (T : TypeId) : ∀ (j : Nat) (h : j < ws.length), (w.alloc (.cells (ws.map str).toArray T)).cell? ⟨w.heap.size, j, none⟩ = some (str ws[j]) := by
  intro j h
  simp [go_sem, h]
set_option maxRecDepth 100000 in
set_option maxHeartbeats 2000000 in
theorem readEvent_any (t : List UInt8) (te : TypeId) (pe : Value) (w : World) (G : Gl (.iface te pe) w) (ht : t.length ≤ 2000000) :
    Calls Tryd.prog 56 #[str t] w fun e w' => ((∃ (k : Nat) (a n : Int), 1 ≤ k ∧ k ≤ 10 ∧ evAt t k = some [a, n] ∧ e = .returned (.agg #[.int .i64 (k : Int), .int .i64 a, .int .i64 n])) ∨ ((∀ k, 1 ≤ k → k ≤ 10 → evAt t k = none) ∧ e = pan (.iface te pe))) ∧ Below w.heap.size w w' := by
  obtain ⟨l1, l2⟩ := cut_lens t
  go_enter Tryd.func56, Tryd.ntmps56
  go_wp2_with fail
  refine (cut_any' t _ ht (G.keep (by go_grown)).maxLen).mono ?_
  rintro e w1 ⟨rfl, hb1⟩
  obtain ⟨x, hx⟩ : ∃ x, (Lib.cut t [32]).1 = x := ⟨_, rfl⟩
  obtain ⟨y, hy⟩ : ∃ y, (Lib.cut t [32]).2.1 = y := ⟨_, rfl⟩
  obtain ⟨z, hz⟩ : ∃ z, (Lib.cut t [32]).2.2 = z := ⟨_, rfl⟩
  rw [hx, hy, hz]
  rw [hx] at l1
  rw [hy] at l2
  have HEV : Hid (∀ (k : Nat) (xs : List Int), 1 ≤ k → k ≤ 10 → (evAt t k = some xs ↔ x = wordB k ∧ readB y 2 = some xs)) := fun k xs k1 k2 => by rw [evAt_iff k1 k2, hx, hy]
  clear hx hy hz
  have X1 : Blk w1 w.heap.size #[.int .i64 0, .int .i64 0, .int .i64 0] 55 := (Blk.new w _ _).below hb1 (by simp)
  have B1 : Below w.heap.size w w1 := bel_tr (by go_grown) hb1
  have HX1 := hid X1
  have HB1 := hid B1
  have z1 := X1.lt
  clear hb1 X1 B1
  go_wp2_with fail
  refine (eventWords_any w1).mono ?_
  rintro e w2 ⟨rfl, hb2⟩
  have HX2 := hid (HX1.out.below hb2 z1)
  have HB2 := hid (bel_tr HB1.out hb2)
  have z2 := HX2.out.lt
  clear hb2 HX1 HB1
  go_wp2_with fail
  refine (index_any _ 11 wordsE x _ rfl (by decide) (cells_words' w2 wordsE 156)).mono ?_
  rintro e w3 ⟨rfl, hw3⟩
  have hb3 : Below w2.heap.size w2 w3 := by rw [hw3]; go_grown
  have HX3 := hid (HX2.out.below hb3 z2)
  have HB3 := hid (bel_tr HB2.out hb3)
  have z3 := HX3.out.lt
  have hpk := pick_idx x
  obtain ⟨k, hk⟩ : ∃ k, idxB wordsE x = k := ⟨_, rfl⟩
  rw [hk] at hpk ⊢
  clear hw3 hb3 HX2 HB2 hk
  have GA : Gl (.iface te pe) w3 := G.keep HB3.out
  go_wp2_with fail
  refine (eventWord_any w3.heap.size k _ (by simp) (by simp [go_sem])).mono ?_
  rintro e w4 ⟨rfl, hb4⟩
  have X4 : Blk w4 w3.heap.size #[.int .i64 k, .int .i64 0, .int .i64 0] 55 := (Blk.new w3 _ _).below hb4 (by simp)
  have hB34 : Below w3.heap.size w3 w4 := bel_tr (by go_grown) hb4
  have HX4 := hid (HX3.out.below hB34 z3)
  have HB4 := hid (bel_tr HB3.out hB34)
  have G4 := GA.keep hB34
  have g4 := G4.no
  have HE4 := hid X4
  have z4 := X4.lt
  have z4' := HX4.out.lt
  have hs4 := hB34.size
  clear hb4 X4 hB34 HX3 HB3 GA
  rcases hpk with ⟨j, j1, j2, j3, rfl, j5⟩ | ⟨j1, j5⟩
  · go_wp2_with fail
    refine (must_yes w4).mono ?_
    rintro e w5 ⟨rfl, rfl⟩
    go_wp2_with fail
    refine (readNumbers_any y te pe w5 G4 (eventFieldsAt w3.heap.size w5) HE4.out (by have := G4.big; have := HB4.out.size; have := G.big; omega) (by simp) (by simp) (by simp) (by omega)).mono ?_
    rintro e w6 ⟨hg6, hres⟩
    rcases hres with ⟨ns, hns, rfl, hE6⟩ | ⟨hno, rfl⟩
    · have hl := ((readB_iff (by decide)).1 hns).1
      obtain ⟨a, n, rfl⟩ := two_of hl
      have E6 : Blk w6 w3.heap.size #[.int .i64 (j : Int), .int .i64 a, .int .i64 n] 55 := hE6
      have X6 := HX4.out.grown hg6 (by simp; omega)
      have hev : Hid (evAt t j = some [a, n]) := (HEV.out j [a, n] j1 j2).2 ⟨j3.symm, hns⟩
      have HB6 : Hid (Below w.heap.size w w6) := HB4.out.trans (show Below w.heap.size w5 w6 from ⟨hg6.os, hg6.tape, hg6.output, hg6.size, fun k hk => hg6.block k (by have := HB4.out.size; omega) (by simp; omega)⟩)
      have HX6 := hid X6
      have e6 := E6.cell
      have x6 := X6.cell
      have f6 := X6.frozen
      have zx6 := X6.lt
      clear hE6 hg6 hns hl HE4 HX4
      go_wp2
      refine bodyPost_ret (v := .agg #[.int .i64 (j : Int), .int .i64 a, .int .i64 n]) (by simp [results, Tryd.results56, go_sem, *]) rfl ⟨.inl ⟨j, a, n, j1, j2, hev.out, rfl⟩, ?_⟩
      exact ((HB6.out.setCell (p := ⟨w.heap.size, 0, none⟩) (Nat.le_refl _) _).setCell (p := ⟨w.heap.size, 1, none⟩) (Nat.le_refl _) _).setCell (p := ⟨w.heap.size, 2, none⟩) (Nat.le_refl _) _
    · have HB6 : Hid (Below w.heap.size w w6) := HB4.out.trans (show Below w.heap.size w5 w6 from ⟨hg6.os, hg6.tape, hg6.output, hg6.size, fun k hk => hg6.block k (by have := HB4.out.size; omega) (by simp; omega)⟩)
      clear hg6
      go_wp2
      refine ⟨rfl, .inr ⟨fun k k1 k2 => ?_, rfl⟩, HB6.out⟩
      cases he : evAt t k with
      | none => rfl
      | some xs =>
        exfalso
        have h2 := (HEV.out k xs k1 k2).1 he
        have h3 := ((readB_iff (by decide)).1 h2.2).1
        have h4 : readB y 2 = none := hno
        rw [h4] at h2
        cases h2.2
  · go_wp2_with fail
    refine (must_no te pe w4 g4).mono ?_
    rintro e w5 ⟨rfl, rfl⟩
    go_wp2
    refine ⟨rfl, .inr ⟨fun k k1 k2 => ?_, rfl⟩, HB4.out⟩
    cases he : evAt t k with
    | none => rfl
    | some xs => exact absurd ((HEV.out k xs k1 k2).1 he).1.symm (j1 k k1 k2)
end Go.Proofs.YtoceohacplmgnaaDoor
