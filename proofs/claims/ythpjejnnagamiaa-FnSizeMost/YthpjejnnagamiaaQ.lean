/- The walk of the law FnSizeMost. -/
import Derived.Test.YthpjejnnagamiaaO
namespace Go.Proofs.Ythpjejnnagamiaa
open Go.RowKit

/-- What a region keeps behind a call: three boxes that were there when it began. -/
theorem keepR {wn W w1 : World} {b1 b2 b3 : Nat} {x1 y1 x2 y2 x3 y3 : Int} (h1 : b1 < wn.heap.size) (h2 : b2 < wn.heap.size) (h3 : b3 < wn.heap.size) (hb : Below W.heap.size W w1)
    (h : Below wn.heap.size wn W ∧ W.cell? ⟨b1, 0, none⟩ = some (.int .i64 x1) ∧ W.cell? ⟨b1, 1, none⟩ = some (.int .i64 y1) ∧ W.cell? ⟨b2, 0, none⟩ = some (.int .i64 x2) ∧ W.cell? ⟨b2, 1, none⟩ = some (.int .i64 y2) ∧ W.cell? ⟨b3, 0, none⟩ = some (.int .i64 x3) ∧ W.cell? ⟨b3, 1, none⟩ = some (.int .i64 y3)) : Below wn.heap.size wn w1 ∧ w1.cell? ⟨b1, 0, none⟩ = some (.int .i64 x1) ∧ w1.cell? ⟨b1, 1, none⟩ = some (.int .i64 y1) ∧ w1.cell? ⟨b2, 0, none⟩ = some (.int .i64 x2) ∧ w1.cell? ⟨b2, 1, none⟩ = some (.int .i64 y2) ∧ w1.cell? ⟨b3, 0, none⟩ = some (.int .i64 x3) ∧ w1.cell? ⟨b3, 1, none⟩ = some (.int .i64 y3) := by
  obtain ⟨h0, a1, a2, a3, a4, a5, a6⟩ := h
  have hs := h0.size
  refine ⟨bel_trans h0 hb, ?_, ?_, ?_, ?_, ?_, ?_⟩
  · rw [(bcell hb).1 _ _ (by omega)]; exact a1
  · rw [(bcell hb).1 _ _ (by omega)]; exact a2
  · rw [(bcell hb).1 _ _ (by omega)]; exact a3
  · rw [(bcell hb).1 _ _ (by omega)]; exact a4
  · rw [(bcell hb).1 _ _ (by omega)]; exact a5
  · rw [(bcell hb).1 _ _ (by omega)]; exact a6

theorem maxI_comm (a b : Int) : maxI b a = maxI a b := by unfold maxI; split <;> split <;> omega
theorem maxI_self (a : Int) : maxI a a = a := by unfold maxI; split <;> omega
theorem maxI_again (a b : Int) : maxI (maxI a b) a = maxI a b := by unfold maxI; split <;> split <;> omega

theorem slotI_anti {a g i : Int} (h0 : 0 < g) (h1 : g ≤ a) (h2 : 0 ≤ i) : slotI a i ≤ slotI g i := by
  unfold slotI
  rw [if_neg (by omega), if_neg (by omega)]
  have e := Int.emod_add_mul_ediv i a
  have e1 := Int.emod_nonneg i (b := a) (by omega)
  have p : 0 ≤ i / a := Int.ediv_nonneg h2 (by omega)
  refine (Int.le_ediv_iff_mul_le h0).2 ?_
  have : i / a * g ≤ i / a * a := Int.mul_le_mul_of_nonneg_left h1 p
  have e3 : a * (i / a) = i / a * a := Int.mul_comm _ _
  omega

/-- What is less has no fewer slots. -/
theorem slots_less {a b g h i j : Int} (h1 : okB a b = true) (h2 : okB g h = true) (h3 : notB g h = false) : slotsI (maxI a g) (maxI b h) i j ≤ slotsI g h i j := by
  obtain ⟨p1, p2, p3, p4⟩ := ok_iff.1 h1
  obtain ⟨q1, q2, q3, q4⟩ := ok_iff.1 h2
  have m1 := maxI_l a g
  have m2 := maxI_l b h
  have ho : okB (maxI a g) (maxI b h) = true := ok_iff.2 (by omega)
  cases h5 : okB i j
  · rw [slots_right h5, slots_right h5]; exact Int.le_refl _
  · have hn : notB (maxI a g) (maxI b h) = false := by
      have : ¬ (g = 0 ∧ h = 0) := by simpa [notB] using h3
      simp only [notB, decide_eq_false_iff_not]; omega
    obtain ⟨r1, r2, r3, r4⟩ := ok_iff.1 h5
    have e1 : slotsI (maxI a g) (maxI b h) i j = minI (slotI (maxI a g) i) (slotI (maxI b h) j) := by simp [slotsI, ho, h5, hn]
    have e2 : slotsI g h i j = minI (slotI g i) (slotI h j) := by simp [slotsI, h2, h5, h3]
    rw [e1, e2]
    have k1 : slotI (maxI a g) i ≤ slotI g i := by
      by_cases hg : g = 0
      · have := (slotI_mul (a := maxI a g) (c := i) (by omega) r1 r2).2.1
        have e : slotI g i = 10000 := by simp [slotI, hg]
        omega
      · exact slotI_anti (by omega) (by omega) r1
    have k2 : slotI (maxI b h) j ≤ slotI h j := by
      by_cases hg : h = 0
      · have := (slotI_mul (a := maxI b h) (c := j) (by omega) r3 r4).2.1
        have e : slotI h j = 10000 := by simp [slotI, hg]
        omega
      · exact slotI_anti (by omega) (by omega) r3
    unfold minI
    split <;> split <;> omega

set_option maxHeartbeats 8000000 in
theorem most_walk (xa : Option Addr) (len cap : Nat) (f : Nat → Int) (xb : Option Addr) (len2 cap2 : Nat) (f2 : Nat → Int) (w : World) (hby : Bytes w xa len cap f) (hby2 : Bytes w xb len2 cap2 f2) :
    Calls Try.prog 4 #[.slice xa len cap, .slice xb len2 cap2] w fun e w' => e = .returned (.bool true) ∧ Below w.heap.size w w' := by
  have hcap := hby.2.1
  have hlc := hby.1
  have hcap2 := hby2.2.1
  have hlc2 := hby2.1
  unfold maxLen at hcap hcap2
  by_cases hlen : len ≤ 1048576 ∧ len2 ≤ 1048576
  · obtain ⟨hlen, hlen2⟩ := hlen
    go_enter Try.func4, Try.ntmps4
    go_wp2_with fail
    refine (draw21_any xa len cap f _ hby).mono ?_
    rintro e w1 ⟨a, b, c, d, rfl, hb1⟩
    have hB1 : Below w.heap.size w w1 := bel_trans (Below.refl _ _) hb1
    have hl1 := hB1.size
    clear hb1
    have hby3 : Bytes ((w1.alloc (.cells #[.int .i64 a, .int .i64 b] 24)).alloc (.cells #[.int .i64 c, .int .i64 d] 24)) xb len2 cap2 f2 := hby2.keep ((hB1.alloc (by omega) _).alloc (by simp; omega) _)
    clear hby hby2
    go_wp2_with fail
    refine (draw22_any xb len2 cap2 f2 _ hby3).mono ?_
    rintro e w2 ⟨g, h, i, j, rfl, hb2⟩
    obtain ⟨f2x0, f2x0a, f2x0b⟩ := bel_box hb2 (b := w1.heap.size) (x := .int .i64 (a)) (y := .int .i64 (b)) (by first | omega | (simp; done) | (simp; omega)) (by first | assumption | (simp [go_sem, *]; done)) (by first | assumption | (simp [go_sem, *]; done))
    obtain ⟨f2x1, f2x1a, f2x1b⟩ := bel_box hb2 (b := w1.heap.size + 1) (x := .int .i64 (c)) (y := .int .i64 (d)) (by first | omega | (simp; done) | (simp; omega)) (by first | assumption | (simp [go_sem, *]; done)) (by first | assumption | (simp [go_sem, *]; done))
    have hB2 : Below w.heap.size w w2 := bel_trans ((hB1.alloc (by first | omega | (simp; done) | (simp; omega)) _).alloc (by first | omega | (simp; done) | (simp; omega)) _) hb2
    have hl2 := hB2.size
    clear hl1 hB1
    clear hb2
    clear hby3
    cases h1 : okB a b
    · skip
      have cM : ∀ w, Calls Try.prog 16 #[.agg #[.int .i64 (a), .int .i64 (b)], .agg #[.int .i64 (c), .int .i64 (d)]] w fun e w' => e = .returned (.agg #[.int .i64 (maxI a c), .int .i64 (maxI b d)]) ∧ Below w.heap.size w w' := implMost_any a b c d
      have cMs : ∀ w, Calls Try.prog 23 #[.agg #[.int .i64 (a), .int .i64 (b)], .agg #[.int .i64 (c), .int .i64 (d)]] w fun e w' => e = .returned (.agg #[.int .i64 (maxI a c), .int .i64 (maxI b d)]) ∧ Below w.heap.size w w' := specMost_any a b c d
      have cM2 : ∀ w, Calls Try.prog 16 #[.agg #[.int .i64 (c), .int .i64 (d)], .agg #[.int .i64 (a), .int .i64 (b)]] w fun e w' => e = .returned (.agg #[.int .i64 (maxI a c), .int .i64 (maxI b d)]) ∧ Below w.heap.size w w' := fun w => by have := implMost_any c d a b w; rwa [maxI_comm a c, maxI_comm b d] at this
      have cM3 : ∀ w, Calls Try.prog 16 #[.agg #[.int .i64 (a), .int .i64 (b)], .agg #[.int .i64 (a), .int .i64 (b)]] w fun e w' => e = .returned (.agg #[.int .i64 (a), .int .i64 (b)]) ∧ Below w.heap.size w w' := fun w => by have := implMost_any a b a b w; rwa [maxI_self a, maxI_self b] at this
      have cM4 : ∀ w, Calls Try.prog 16 #[.agg #[.int .i64 (maxI a c), .int .i64 (maxI b d)], .agg #[.int .i64 (a), .int .i64 (b)]] w fun e w' => e = .returned (.agg #[.int .i64 (maxI a c), .int .i64 (maxI b d)]) ∧ Below w.heap.size w w' := fun w => by have := implMost_any (maxI a c) (maxI b d) a b w; rwa [maxI_again a c, maxI_again b d] at this
      have cF1 : ∀ w, Calls Try.prog 17 #[.agg #[.int .i64 (a), .int .i64 (b)], .agg #[.int .i64 (c), .int .i64 (d)]] w fun e w' => e = .returned (.bool (fitB a b c d)) ∧ Below w.heap.size w w' := implFits_any a b c d
      have cF2 : ∀ w, Calls Try.prog 17 #[.agg #[.int .i64 (c), .int .i64 (d)], .agg #[.int .i64 (g), .int .i64 (h)]] w fun e w' => e = .returned (.bool (fitB c d g h)) ∧ Below w.heap.size w w' := implFits_any c d g h
      have cF3 : ∀ w, Calls Try.prog 17 #[.agg #[.int .i64 (a), .int .i64 (b)], .agg #[.int .i64 (g), .int .i64 (h)]] w fun e w' => e = .returned (.bool (fitB a b g h)) ∧ Below w.heap.size w w' := implFits_any a b g h
      have cN : ∀ w, Calls Try.prog 18 #[.agg #[.int .i64 (g), .int .i64 (h)], .agg #[.int .i64 (i), .int .i64 (j)]] w fun e w' => e = .returned (.int .i64 (slotsI g h i j)) ∧ Below w.heap.size w w' := implSlots_any g h i j
      have cNs : ∀ w, Calls Try.prog 19 #[.agg #[.int .i64 (g), .int .i64 (h)], .agg #[.int .i64 (i), .int .i64 (j)]] w fun e w' => e = .returned (.int .i64 (slotsI g h i j)) ∧ Below w.heap.size w w' := specSlots_any g h i j
      have cQ : ∀ w, Calls Try.prog 16 #[.agg #[.int .i64 (a), .int .i64 (b)], .agg #[.int .i64 (g), .int .i64 (h)]] w fun e w' => e = .returned (.agg #[.int .i64 (maxI a g), .int .i64 (maxI b h)]) ∧ Below w.heap.size w w' := implMost_any a b g h
      have cK : ∀ w, Calls Try.prog 18 #[.agg #[.int .i64 (maxI a g), .int .i64 (maxI b h)], .agg #[.int .i64 (i), .int .i64 (j)]] w fun e w' => e = .returned (.int .i64 (slotsI (maxI a g) (maxI b h) i j)) ∧ Below w.heap.size w w' := implSlots_any (maxI a g) (maxI b h) i j
      have cO1 : ∀ w, Calls Try.prog 20 #[.agg #[.int .i64 (a), .int .i64 (b)]] w fun e w' => e = .returned (.bool false) ∧ Below w.heap.size w w' := fun w => by have := specOk_any a b w; rwa [h1] at this
      have hF : (fitB a b c d = false) ∨ (fitB a b c d = true ∧ fitB c d g h = false) ∨ (fitB a b c d = true ∧ fitB c d g h = true ∧ fitB a b g h = true) := by
        cases x1 : fitB a b c d
        · exact .inl rfl
        · cases x2 : fitB c d g h
          · exact .inr (.inl ⟨rfl, rfl⟩)
          · exact .inr (.inr ⟨rfl, rfl, fit_iff.2 (by have := fit_iff.1 x1; have := fit_iff.1 x2; omega)⟩)
      have HcM := hidden cM; clear cM
      have HcMs := hidden cMs; clear cMs
      have HcM2 := hidden cM2; clear cM2
      have HcM3 := hidden cM3; clear cM3
      have HcM4 := hidden cM4; clear cM4
      have HcF1 := hidden cF1; clear cF1
      have HcF2 := hidden cF2; clear cF2
      have HcF3 := hidden cF3; clear cF3
      have HcN := hidden cN; clear cN
      have HcNs := hidden cNs; clear cNs
      have HcQ := hidden cQ; clear cQ
      have HcK := hidden cK; clear cK
      have HcO1 := hidden cO1; clear cO1
      clear h1
      go_wp2_with fail
      refine (HcM.out _).mono ?_
      rintro e w3 ⟨rfl, hb3⟩
      obtain ⟨f3x0, f3x0a, f3x0b⟩ := bel_box hb3 (b := w1.heap.size) (x := .int .i64 (a)) (y := .int .i64 (b)) (by first | omega | (simp; done) | (simp; omega)) (by first | assumption | (simp [go_sem, *]; done)) (by first | assumption | (simp [go_sem, *]; done))
      obtain ⟨f3x1, f3x1a, f3x1b⟩ := bel_box hb3 (b := w1.heap.size + 1) (x := .int .i64 (c)) (y := .int .i64 (d)) (by first | omega | (simp; done) | (simp; omega)) (by first | assumption | (simp [go_sem, *]; done)) (by first | assumption | (simp [go_sem, *]; done))
      obtain ⟨f3x2, f3x2a, f3x2b⟩ := bel_box hb3 (b := w2.heap.size) (x := .int .i64 (g)) (y := .int .i64 (h)) (by first | omega | (simp; done) | (simp; omega)) (by first | assumption | (simp [go_sem, *]; done)) (by first | assumption | (simp [go_sem, *]; done))
      obtain ⟨f3x3, f3x3a, f3x3b⟩ := bel_box hb3 (b := w2.heap.size + 1) (x := .int .i64 (i)) (y := .int .i64 (j)) (by first | omega | (simp; done) | (simp; omega)) (by first | assumption | (simp [go_sem, *]; done)) (by first | assumption | (simp [go_sem, *]; done))
      have hB3 : Below w.heap.size w w3 := bel_trans ((hB2.alloc (by first | omega | (simp; done) | (simp; omega)) _).alloc (by first | omega | (simp; done) | (simp; omega)) _) hb3
      have hl3 := hB3.size
      clear hl2 hB2 f2x1b f2x1a f2x1 f2x0b f2x0a f2x0
      clear hb3
      go_wp2_with fail
      obtain ⟨w4, hw4⟩ : ∃ x, x = (w3.alloc (.cells #[.int .i64 (maxI a c), .int .i64 (maxI b d)] 24)) := ⟨_, rfl⟩
      have hb4 : Below ((w3.alloc (.cells #[.int .i64 (maxI a c), .int .i64 (maxI b d)] 24))).heap.size ((w3.alloc (.cells #[.int .i64 (maxI a c), .int .i64 (maxI b d)] 24))) w4 := by rw [hw4]; exact Below.refl _ _
      obtain ⟨f4x0, f4x0a, f4x0b⟩ := bel_box hb4 (b := w1.heap.size) (x := .int .i64 (a)) (y := .int .i64 (b)) (by first | omega | (simp; done) | (simp; omega)) (by first | assumption | (simp [go_sem, *]; done)) (by first | assumption | (simp [go_sem, *]; done))
      obtain ⟨f4x1, f4x1a, f4x1b⟩ := bel_box hb4 (b := w1.heap.size + 1) (x := .int .i64 (c)) (y := .int .i64 (d)) (by first | omega | (simp; done) | (simp; omega)) (by first | assumption | (simp [go_sem, *]; done)) (by first | assumption | (simp [go_sem, *]; done))
      obtain ⟨f4x2, f4x2a, f4x2b⟩ := bel_box hb4 (b := w2.heap.size) (x := .int .i64 (g)) (y := .int .i64 (h)) (by first | omega | (simp; done) | (simp; omega)) (by first | assumption | (simp [go_sem, *]; done)) (by first | assumption | (simp [go_sem, *]; done))
      obtain ⟨f4x3, f4x3a, f4x3b⟩ := bel_box hb4 (b := w2.heap.size + 1) (x := .int .i64 (i)) (y := .int .i64 (j)) (by first | omega | (simp; done) | (simp; omega)) (by first | assumption | (simp [go_sem, *]; done)) (by first | assumption | (simp [go_sem, *]; done))
      obtain ⟨f4x4, f4x4a, f4x4b⟩ := bel_box hb4 (b := w3.heap.size) (x := .int .i64 (maxI a c)) (y := .int .i64 (maxI b d)) (by first | omega | (simp; done) | (simp; omega)) (by first | assumption | (simp [go_sem, *]; done)) (by first | assumption | (simp [go_sem, *]; done))
      have hB4 : Below w.heap.size w w4 := bel_trans (hB3.alloc (by first | omega | (simp; done) | (simp; omega)) _) hb4
      have hl4 := hB4.size
      clear hl3 hB3 f3x3b f3x3a f3x3 f3x2b f3x2a f3x2 f3x1b f3x1a f3x1 f3x0b f3x0a f3x0
      clear hb4
      rw [← hw4]
      clear hw4
      go_region_held3 (fun w' => Below w4.heap.size w4 w' ∧ w'.cell? ⟨w3.heap.size, 0, none⟩ = some (.int .i64 (maxI a c)) ∧ w'.cell? ⟨w3.heap.size, 1, none⟩ = some (.int .i64 (maxI b d)) ∧ w'.cell? ⟨w1.heap.size, 0, none⟩ = some (.int .i64 (a)) ∧ w'.cell? ⟨w1.heap.size, 1, none⟩ = some (.int .i64 (b)) ∧ w'.cell? ⟨w1.heap.size + 1, 0, none⟩ = some (.int .i64 (c)) ∧ w'.cell? ⟨w1.heap.size + 1, 1, none⟩ = some (.int .i64 (d)))
        (first | (exact ⟨Below.drew (Below.refl _ _), f4x4a, f4x4b, f4x0a, f4x0b, f4x1a, f4x1b⟩) | (refine keepR f4x4 f4x0 f4x1 (by assumption) ?_; assumption))
        (first | (go_at_call 23; refine (HcMs.out _).mono ?_; rintro e wr ⟨rfl, hbr⟩) | (go_at_call_of 16 (Value.int .i64 d); go_at_call_of 16 (Value.int .i64 b); refine (HcM2.out _).mono ?_; rintro e wr ⟨rfl, hbr⟩) | (go_at_call_of 16 (Value.int .i64 (maxI a c)); refine (HcM4.out _).mono ?_; rintro e wr ⟨rfl, hbr⟩) | (go_at_call 16; refine (HcM3.out _).mono ?_; rintro e wr ⟨rfl, hbr⟩))
      rename_i hh
      have hb5 := hh.1
      clear hh
      obtain ⟨f5x0, f5x0a, f5x0b⟩ := bel_box hb5 (b := w1.heap.size) (x := .int .i64 (a)) (y := .int .i64 (b)) (by first | omega | (simp; done) | (simp; omega)) (by first | assumption | (simp [go_sem, *]; done)) (by first | assumption | (simp [go_sem, *]; done))
      obtain ⟨f5x1, f5x1a, f5x1b⟩ := bel_box hb5 (b := w1.heap.size + 1) (x := .int .i64 (c)) (y := .int .i64 (d)) (by first | omega | (simp; done) | (simp; omega)) (by first | assumption | (simp [go_sem, *]; done)) (by first | assumption | (simp [go_sem, *]; done))
      obtain ⟨f5x2, f5x2a, f5x2b⟩ := bel_box hb5 (b := w2.heap.size) (x := .int .i64 (g)) (y := .int .i64 (h)) (by first | omega | (simp; done) | (simp; omega)) (by first | assumption | (simp [go_sem, *]; done)) (by first | assumption | (simp [go_sem, *]; done))
      obtain ⟨f5x3, f5x3a, f5x3b⟩ := bel_box hb5 (b := w2.heap.size + 1) (x := .int .i64 (i)) (y := .int .i64 (j)) (by first | omega | (simp; done) | (simp; omega)) (by first | assumption | (simp [go_sem, *]; done)) (by first | assumption | (simp [go_sem, *]; done))
      obtain ⟨f5x4, f5x4a, f5x4b⟩ := bel_box hb5 (b := w3.heap.size) (x := .int .i64 (maxI a c)) (y := .int .i64 (maxI b d)) (by first | omega | (simp; done) | (simp; omega)) (by first | assumption | (simp [go_sem, *]; done)) (by first | assumption | (simp [go_sem, *]; done))
      have hB5 : Below w.heap.size w wr := bel_trans hB4 hb5
      have hl5 := hB5.size
      clear hl4 hB4 f4x4b f4x4a f4x4 f4x3b f4x3a f4x3 f4x2b f4x2a f4x2 f4x1b f4x1a f4x1 f4x0b f4x0a f4x0
      clear hb5
      rcases hF with hF1 | ⟨hF1, hF2⟩ | ⟨hF1, hF2, hF3⟩
      · skip
        go_wp2_with fail
        refine (HcF1.out _).mono ?_
        rintro e w6 ⟨rfl, hb6⟩
        obtain ⟨f6x0, f6x0a, f6x0b⟩ := bel_box hb6 (b := w1.heap.size) (x := .int .i64 (a)) (y := .int .i64 (b)) (by first | omega | (simp; done) | (simp; omega)) (by first | assumption | (simp [go_sem, *]; done)) (by first | assumption | (simp [go_sem, *]; done))
        obtain ⟨f6x1, f6x1a, f6x1b⟩ := bel_box hb6 (b := w1.heap.size + 1) (x := .int .i64 (c)) (y := .int .i64 (d)) (by first | omega | (simp; done) | (simp; omega)) (by first | assumption | (simp [go_sem, *]; done)) (by first | assumption | (simp [go_sem, *]; done))
        obtain ⟨f6x2, f6x2a, f6x2b⟩ := bel_box hb6 (b := w2.heap.size) (x := .int .i64 (g)) (y := .int .i64 (h)) (by first | omega | (simp; done) | (simp; omega)) (by first | assumption | (simp [go_sem, *]; done)) (by first | assumption | (simp [go_sem, *]; done))
        obtain ⟨f6x3, f6x3a, f6x3b⟩ := bel_box hb6 (b := w2.heap.size + 1) (x := .int .i64 (i)) (y := .int .i64 (j)) (by first | omega | (simp; done) | (simp; omega)) (by first | assumption | (simp [go_sem, *]; done)) (by first | assumption | (simp [go_sem, *]; done))
        obtain ⟨f6x4, f6x4a, f6x4b⟩ := bel_box hb6 (b := w3.heap.size) (x := .int .i64 (maxI a c)) (y := .int .i64 (maxI b d)) (by first | omega | (simp; done) | (simp; omega)) (by first | assumption | (simp [go_sem, *]; done)) (by first | assumption | (simp [go_sem, *]; done))
        have hB6 : Below w.heap.size w w6 := bel_trans hB5 hb6
        have hl6 := hB6.size
        clear hl5 hB5 f5x4b f5x4a f5x4 f5x3b f5x3a f5x3 f5x2b f5x2a f5x2 f5x1b f5x1a f5x1 f5x0b f5x0a f5x0
        clear hb6
        go_wp2_with fail
        refine (HcN.out _).mono ?_
        rintro e w7 ⟨rfl, hb7⟩
        obtain ⟨f7x0, f7x0a, f7x0b⟩ := bel_box hb7 (b := w1.heap.size) (x := .int .i64 (a)) (y := .int .i64 (b)) (by first | omega | (simp; done) | (simp; omega)) (by first | assumption | (simp [go_sem, *]; done)) (by first | assumption | (simp [go_sem, *]; done))
        obtain ⟨f7x1, f7x1a, f7x1b⟩ := bel_box hb7 (b := w1.heap.size + 1) (x := .int .i64 (c)) (y := .int .i64 (d)) (by first | omega | (simp; done) | (simp; omega)) (by first | assumption | (simp [go_sem, *]; done)) (by first | assumption | (simp [go_sem, *]; done))
        obtain ⟨f7x2, f7x2a, f7x2b⟩ := bel_box hb7 (b := w2.heap.size) (x := .int .i64 (g)) (y := .int .i64 (h)) (by first | omega | (simp; done) | (simp; omega)) (by first | assumption | (simp [go_sem, *]; done)) (by first | assumption | (simp [go_sem, *]; done))
        obtain ⟨f7x3, f7x3a, f7x3b⟩ := bel_box hb7 (b := w2.heap.size + 1) (x := .int .i64 (i)) (y := .int .i64 (j)) (by first | omega | (simp; done) | (simp; omega)) (by first | assumption | (simp [go_sem, *]; done)) (by first | assumption | (simp [go_sem, *]; done))
        obtain ⟨f7x4, f7x4a, f7x4b⟩ := bel_box hb7 (b := w3.heap.size) (x := .int .i64 (maxI a c)) (y := .int .i64 (maxI b d)) (by first | omega | (simp; done) | (simp; omega)) (by first | assumption | (simp [go_sem, *]; done)) (by first | assumption | (simp [go_sem, *]; done))
        have hB7 : Below w.heap.size w w7 := bel_trans hB6 hb7
        have hl7 := hB7.size
        clear hl6 hB6 f6x4b f6x4a f6x4 f6x3b f6x3a f6x3 f6x2b f6x2a f6x2 f6x1b f6x1a f6x1 f6x0b f6x0a f6x0
        clear hb7
        go_wp2_with fail
        go_region_held3 (fun w' => Below w7.heap.size w7 w' ∧ w'.cell? ⟨w1.heap.size, 0, none⟩ = some (.int .i64 (a)) ∧ w'.cell? ⟨w1.heap.size, 1, none⟩ = some (.int .i64 (b)) ∧ w'.cell? ⟨w2.heap.size, 0, none⟩ = some (.int .i64 (g)) ∧ w'.cell? ⟨w2.heap.size, 1, none⟩ = some (.int .i64 (h)) ∧ w'.cell? ⟨w2.heap.size + 1, 0, none⟩ = some (.int .i64 (i)) ∧ w'.cell? ⟨w2.heap.size + 1, 1, none⟩ = some (.int .i64 (j)))
          (first | (exact ⟨Below.drew (Below.refl _ _), f7x0a, f7x0b, f7x2a, f7x2b, f7x3a, f7x3b⟩) | (refine keepR f7x0 f7x2 f7x3 (by assumption) ?_; assumption))
          (first | (go_at_call 16; refine (HcQ.out _).mono ?_; rintro e wr ⟨rfl, hbr⟩) | (go_at_call 18; refine (HcK.out _).mono ?_; rintro e wr ⟨rfl, hbr⟩))
        rename_i hh
        have hb8 := hh.1
        clear hh
        obtain ⟨f8x0, f8x0a, f8x0b⟩ := bel_box hb8 (b := w1.heap.size) (x := .int .i64 (a)) (y := .int .i64 (b)) (by first | omega | (simp; done) | (simp; omega)) (by first | assumption | (simp [go_sem, *]; done)) (by first | assumption | (simp [go_sem, *]; done))
        obtain ⟨f8x1, f8x1a, f8x1b⟩ := bel_box hb8 (b := w1.heap.size + 1) (x := .int .i64 (c)) (y := .int .i64 (d)) (by first | omega | (simp; done) | (simp; omega)) (by first | assumption | (simp [go_sem, *]; done)) (by first | assumption | (simp [go_sem, *]; done))
        obtain ⟨f8x2, f8x2a, f8x2b⟩ := bel_box hb8 (b := w2.heap.size) (x := .int .i64 (g)) (y := .int .i64 (h)) (by first | omega | (simp; done) | (simp; omega)) (by first | assumption | (simp [go_sem, *]; done)) (by first | assumption | (simp [go_sem, *]; done))
        obtain ⟨f8x3, f8x3a, f8x3b⟩ := bel_box hb8 (b := w2.heap.size + 1) (x := .int .i64 (i)) (y := .int .i64 (j)) (by first | omega | (simp; done) | (simp; omega)) (by first | assumption | (simp [go_sem, *]; done)) (by first | assumption | (simp [go_sem, *]; done))
        obtain ⟨f8x4, f8x4a, f8x4b⟩ := bel_box hb8 (b := w3.heap.size) (x := .int .i64 (maxI a c)) (y := .int .i64 (maxI b d)) (by first | omega | (simp; done) | (simp; omega)) (by first | assumption | (simp [go_sem, *]; done)) (by first | assumption | (simp [go_sem, *]; done))
        have hB8 : Below w.heap.size w wr := bel_trans hB7 hb8
        have hl8 := hB8.size
        clear hl7 hB7 f7x4b f7x4a f7x4 f7x3b f7x3a f7x3 f7x2b f7x2a f7x2 f7x1b f7x1a f7x1 f7x0b f7x0a f7x0
        clear hb8
        go_wp2_with fail
        refine (HcNs.out _).mono ?_
        rintro e w9 ⟨rfl, hb9⟩
        obtain ⟨f9x0, f9x0a, f9x0b⟩ := bel_box hb9 (b := w1.heap.size) (x := .int .i64 (a)) (y := .int .i64 (b)) (by first | omega | (simp; done) | (simp; omega)) (by first | assumption | (simp [go_sem, *]; done)) (by first | assumption | (simp [go_sem, *]; done))
        obtain ⟨f9x1, f9x1a, f9x1b⟩ := bel_box hb9 (b := w1.heap.size + 1) (x := .int .i64 (c)) (y := .int .i64 (d)) (by first | omega | (simp; done) | (simp; omega)) (by first | assumption | (simp [go_sem, *]; done)) (by first | assumption | (simp [go_sem, *]; done))
        obtain ⟨f9x2, f9x2a, f9x2b⟩ := bel_box hb9 (b := w2.heap.size) (x := .int .i64 (g)) (y := .int .i64 (h)) (by first | omega | (simp; done) | (simp; omega)) (by first | assumption | (simp [go_sem, *]; done)) (by first | assumption | (simp [go_sem, *]; done))
        obtain ⟨f9x3, f9x3a, f9x3b⟩ := bel_box hb9 (b := w2.heap.size + 1) (x := .int .i64 (i)) (y := .int .i64 (j)) (by first | omega | (simp; done) | (simp; omega)) (by first | assumption | (simp [go_sem, *]; done)) (by first | assumption | (simp [go_sem, *]; done))
        obtain ⟨f9x4, f9x4a, f9x4b⟩ := bel_box hb9 (b := w3.heap.size) (x := .int .i64 (maxI a c)) (y := .int .i64 (maxI b d)) (by first | omega | (simp; done) | (simp; omega)) (by first | assumption | (simp [go_sem, *]; done)) (by first | assumption | (simp [go_sem, *]; done))
        have hB9 : Below w.heap.size w w9 := bel_trans hB8 hb9
        have hl9 := hB9.size
        clear hl8 hB8 f8x4b f8x4a f8x4 f8x3b f8x3a f8x3 f8x2b f8x2a f8x2 f8x1b f8x1a f8x1 f8x0b f8x0a f8x0
        clear hb9
        go_wp2_with fail
        refine (HcO1.out _).mono ?_
        rintro e w10 ⟨rfl, hb10⟩
        obtain ⟨f10x0, f10x0a, f10x0b⟩ := bel_box hb10 (b := w1.heap.size) (x := .int .i64 (a)) (y := .int .i64 (b)) (by first | omega | (simp; done) | (simp; omega)) (by first | assumption | (simp [go_sem, *]; done)) (by first | assumption | (simp [go_sem, *]; done))
        obtain ⟨f10x1, f10x1a, f10x1b⟩ := bel_box hb10 (b := w1.heap.size + 1) (x := .int .i64 (c)) (y := .int .i64 (d)) (by first | omega | (simp; done) | (simp; omega)) (by first | assumption | (simp [go_sem, *]; done)) (by first | assumption | (simp [go_sem, *]; done))
        obtain ⟨f10x2, f10x2a, f10x2b⟩ := bel_box hb10 (b := w2.heap.size) (x := .int .i64 (g)) (y := .int .i64 (h)) (by first | omega | (simp; done) | (simp; omega)) (by first | assumption | (simp [go_sem, *]; done)) (by first | assumption | (simp [go_sem, *]; done))
        obtain ⟨f10x3, f10x3a, f10x3b⟩ := bel_box hb10 (b := w2.heap.size + 1) (x := .int .i64 (i)) (y := .int .i64 (j)) (by first | omega | (simp; done) | (simp; omega)) (by first | assumption | (simp [go_sem, *]; done)) (by first | assumption | (simp [go_sem, *]; done))
        obtain ⟨f10x4, f10x4a, f10x4b⟩ := bel_box hb10 (b := w3.heap.size) (x := .int .i64 (maxI a c)) (y := .int .i64 (maxI b d)) (by first | omega | (simp; done) | (simp; omega)) (by first | assumption | (simp [go_sem, *]; done)) (by first | assumption | (simp [go_sem, *]; done))
        have hB10 : Below w.heap.size w w10 := bel_trans hB9 hb10
        have hl10 := hB10.size
        clear hl9 hB9 f9x4b f9x4a f9x4 f9x3b f9x3a f9x3 f9x2b f9x2a f9x2 f9x1b f9x1a f9x1 f9x0b f9x0a f9x0
        clear hb10
        go_wp2_with fail
        go_ret
        exact ⟨rfl, hB10⟩
      · skip
        go_wp2_with fail
        refine (HcF1.out _).mono ?_
        rintro e w6 ⟨rfl, hb6⟩
        obtain ⟨f6x0, f6x0a, f6x0b⟩ := bel_box hb6 (b := w1.heap.size) (x := .int .i64 (a)) (y := .int .i64 (b)) (by first | omega | (simp; done) | (simp; omega)) (by first | assumption | (simp [go_sem, *]; done)) (by first | assumption | (simp [go_sem, *]; done))
        obtain ⟨f6x1, f6x1a, f6x1b⟩ := bel_box hb6 (b := w1.heap.size + 1) (x := .int .i64 (c)) (y := .int .i64 (d)) (by first | omega | (simp; done) | (simp; omega)) (by first | assumption | (simp [go_sem, *]; done)) (by first | assumption | (simp [go_sem, *]; done))
        obtain ⟨f6x2, f6x2a, f6x2b⟩ := bel_box hb6 (b := w2.heap.size) (x := .int .i64 (g)) (y := .int .i64 (h)) (by first | omega | (simp; done) | (simp; omega)) (by first | assumption | (simp [go_sem, *]; done)) (by first | assumption | (simp [go_sem, *]; done))
        obtain ⟨f6x3, f6x3a, f6x3b⟩ := bel_box hb6 (b := w2.heap.size + 1) (x := .int .i64 (i)) (y := .int .i64 (j)) (by first | omega | (simp; done) | (simp; omega)) (by first | assumption | (simp [go_sem, *]; done)) (by first | assumption | (simp [go_sem, *]; done))
        obtain ⟨f6x4, f6x4a, f6x4b⟩ := bel_box hb6 (b := w3.heap.size) (x := .int .i64 (maxI a c)) (y := .int .i64 (maxI b d)) (by first | omega | (simp; done) | (simp; omega)) (by first | assumption | (simp [go_sem, *]; done)) (by first | assumption | (simp [go_sem, *]; done))
        have hB6 : Below w.heap.size w w6 := bel_trans hB5 hb6
        have hl6 := hB6.size
        clear hl5 hB5 f5x4b f5x4a f5x4 f5x3b f5x3a f5x3 f5x2b f5x2a f5x2 f5x1b f5x1a f5x1 f5x0b f5x0a f5x0
        clear hb6
        go_wp2_with fail
        refine (HcF2.out _).mono ?_
        rintro e w7 ⟨rfl, hb7⟩
        obtain ⟨f7x0, f7x0a, f7x0b⟩ := bel_box hb7 (b := w1.heap.size) (x := .int .i64 (a)) (y := .int .i64 (b)) (by first | omega | (simp; done) | (simp; omega)) (by first | assumption | (simp [go_sem, *]; done)) (by first | assumption | (simp [go_sem, *]; done))
        obtain ⟨f7x1, f7x1a, f7x1b⟩ := bel_box hb7 (b := w1.heap.size + 1) (x := .int .i64 (c)) (y := .int .i64 (d)) (by first | omega | (simp; done) | (simp; omega)) (by first | assumption | (simp [go_sem, *]; done)) (by first | assumption | (simp [go_sem, *]; done))
        obtain ⟨f7x2, f7x2a, f7x2b⟩ := bel_box hb7 (b := w2.heap.size) (x := .int .i64 (g)) (y := .int .i64 (h)) (by first | omega | (simp; done) | (simp; omega)) (by first | assumption | (simp [go_sem, *]; done)) (by first | assumption | (simp [go_sem, *]; done))
        obtain ⟨f7x3, f7x3a, f7x3b⟩ := bel_box hb7 (b := w2.heap.size + 1) (x := .int .i64 (i)) (y := .int .i64 (j)) (by first | omega | (simp; done) | (simp; omega)) (by first | assumption | (simp [go_sem, *]; done)) (by first | assumption | (simp [go_sem, *]; done))
        obtain ⟨f7x4, f7x4a, f7x4b⟩ := bel_box hb7 (b := w3.heap.size) (x := .int .i64 (maxI a c)) (y := .int .i64 (maxI b d)) (by first | omega | (simp; done) | (simp; omega)) (by first | assumption | (simp [go_sem, *]; done)) (by first | assumption | (simp [go_sem, *]; done))
        have hB7 : Below w.heap.size w w7 := bel_trans hB6 hb7
        have hl7 := hB7.size
        clear hl6 hB6 f6x4b f6x4a f6x4 f6x3b f6x3a f6x3 f6x2b f6x2a f6x2 f6x1b f6x1a f6x1 f6x0b f6x0a f6x0
        clear hb7
        go_wp2_with fail
        refine (HcN.out _).mono ?_
        rintro e w8 ⟨rfl, hb8⟩
        obtain ⟨f8x0, f8x0a, f8x0b⟩ := bel_box hb8 (b := w1.heap.size) (x := .int .i64 (a)) (y := .int .i64 (b)) (by first | omega | (simp; done) | (simp; omega)) (by first | assumption | (simp [go_sem, *]; done)) (by first | assumption | (simp [go_sem, *]; done))
        obtain ⟨f8x1, f8x1a, f8x1b⟩ := bel_box hb8 (b := w1.heap.size + 1) (x := .int .i64 (c)) (y := .int .i64 (d)) (by first | omega | (simp; done) | (simp; omega)) (by first | assumption | (simp [go_sem, *]; done)) (by first | assumption | (simp [go_sem, *]; done))
        obtain ⟨f8x2, f8x2a, f8x2b⟩ := bel_box hb8 (b := w2.heap.size) (x := .int .i64 (g)) (y := .int .i64 (h)) (by first | omega | (simp; done) | (simp; omega)) (by first | assumption | (simp [go_sem, *]; done)) (by first | assumption | (simp [go_sem, *]; done))
        obtain ⟨f8x3, f8x3a, f8x3b⟩ := bel_box hb8 (b := w2.heap.size + 1) (x := .int .i64 (i)) (y := .int .i64 (j)) (by first | omega | (simp; done) | (simp; omega)) (by first | assumption | (simp [go_sem, *]; done)) (by first | assumption | (simp [go_sem, *]; done))
        obtain ⟨f8x4, f8x4a, f8x4b⟩ := bel_box hb8 (b := w3.heap.size) (x := .int .i64 (maxI a c)) (y := .int .i64 (maxI b d)) (by first | omega | (simp; done) | (simp; omega)) (by first | assumption | (simp [go_sem, *]; done)) (by first | assumption | (simp [go_sem, *]; done))
        have hB8 : Below w.heap.size w w8 := bel_trans hB7 hb8
        have hl8 := hB8.size
        clear hl7 hB7 f7x4b f7x4a f7x4 f7x3b f7x3a f7x3 f7x2b f7x2a f7x2 f7x1b f7x1a f7x1 f7x0b f7x0a f7x0
        clear hb8
        go_wp2_with fail
        go_region_held3 (fun w' => Below w8.heap.size w8 w' ∧ w'.cell? ⟨w1.heap.size, 0, none⟩ = some (.int .i64 (a)) ∧ w'.cell? ⟨w1.heap.size, 1, none⟩ = some (.int .i64 (b)) ∧ w'.cell? ⟨w2.heap.size, 0, none⟩ = some (.int .i64 (g)) ∧ w'.cell? ⟨w2.heap.size, 1, none⟩ = some (.int .i64 (h)) ∧ w'.cell? ⟨w2.heap.size + 1, 0, none⟩ = some (.int .i64 (i)) ∧ w'.cell? ⟨w2.heap.size + 1, 1, none⟩ = some (.int .i64 (j)))
          (first | (exact ⟨Below.drew (Below.refl _ _), f8x0a, f8x0b, f8x2a, f8x2b, f8x3a, f8x3b⟩) | (refine keepR f8x0 f8x2 f8x3 (by assumption) ?_; assumption))
          (first | (go_at_call 16; refine (HcQ.out _).mono ?_; rintro e wr ⟨rfl, hbr⟩) | (go_at_call 18; refine (HcK.out _).mono ?_; rintro e wr ⟨rfl, hbr⟩))
        rename_i hh
        have hb9 := hh.1
        clear hh
        obtain ⟨f9x0, f9x0a, f9x0b⟩ := bel_box hb9 (b := w1.heap.size) (x := .int .i64 (a)) (y := .int .i64 (b)) (by first | omega | (simp; done) | (simp; omega)) (by first | assumption | (simp [go_sem, *]; done)) (by first | assumption | (simp [go_sem, *]; done))
        obtain ⟨f9x1, f9x1a, f9x1b⟩ := bel_box hb9 (b := w1.heap.size + 1) (x := .int .i64 (c)) (y := .int .i64 (d)) (by first | omega | (simp; done) | (simp; omega)) (by first | assumption | (simp [go_sem, *]; done)) (by first | assumption | (simp [go_sem, *]; done))
        obtain ⟨f9x2, f9x2a, f9x2b⟩ := bel_box hb9 (b := w2.heap.size) (x := .int .i64 (g)) (y := .int .i64 (h)) (by first | omega | (simp; done) | (simp; omega)) (by first | assumption | (simp [go_sem, *]; done)) (by first | assumption | (simp [go_sem, *]; done))
        obtain ⟨f9x3, f9x3a, f9x3b⟩ := bel_box hb9 (b := w2.heap.size + 1) (x := .int .i64 (i)) (y := .int .i64 (j)) (by first | omega | (simp; done) | (simp; omega)) (by first | assumption | (simp [go_sem, *]; done)) (by first | assumption | (simp [go_sem, *]; done))
        obtain ⟨f9x4, f9x4a, f9x4b⟩ := bel_box hb9 (b := w3.heap.size) (x := .int .i64 (maxI a c)) (y := .int .i64 (maxI b d)) (by first | omega | (simp; done) | (simp; omega)) (by first | assumption | (simp [go_sem, *]; done)) (by first | assumption | (simp [go_sem, *]; done))
        have hB9 : Below w.heap.size w wr := bel_trans hB8 hb9
        have hl9 := hB9.size
        clear hl8 hB8 f8x4b f8x4a f8x4 f8x3b f8x3a f8x3 f8x2b f8x2a f8x2 f8x1b f8x1a f8x1 f8x0b f8x0a f8x0
        clear hb9
        go_wp2_with fail
        refine (HcNs.out _).mono ?_
        rintro e w10 ⟨rfl, hb10⟩
        obtain ⟨f10x0, f10x0a, f10x0b⟩ := bel_box hb10 (b := w1.heap.size) (x := .int .i64 (a)) (y := .int .i64 (b)) (by first | omega | (simp; done) | (simp; omega)) (by first | assumption | (simp [go_sem, *]; done)) (by first | assumption | (simp [go_sem, *]; done))
        obtain ⟨f10x1, f10x1a, f10x1b⟩ := bel_box hb10 (b := w1.heap.size + 1) (x := .int .i64 (c)) (y := .int .i64 (d)) (by first | omega | (simp; done) | (simp; omega)) (by first | assumption | (simp [go_sem, *]; done)) (by first | assumption | (simp [go_sem, *]; done))
        obtain ⟨f10x2, f10x2a, f10x2b⟩ := bel_box hb10 (b := w2.heap.size) (x := .int .i64 (g)) (y := .int .i64 (h)) (by first | omega | (simp; done) | (simp; omega)) (by first | assumption | (simp [go_sem, *]; done)) (by first | assumption | (simp [go_sem, *]; done))
        obtain ⟨f10x3, f10x3a, f10x3b⟩ := bel_box hb10 (b := w2.heap.size + 1) (x := .int .i64 (i)) (y := .int .i64 (j)) (by first | omega | (simp; done) | (simp; omega)) (by first | assumption | (simp [go_sem, *]; done)) (by first | assumption | (simp [go_sem, *]; done))
        obtain ⟨f10x4, f10x4a, f10x4b⟩ := bel_box hb10 (b := w3.heap.size) (x := .int .i64 (maxI a c)) (y := .int .i64 (maxI b d)) (by first | omega | (simp; done) | (simp; omega)) (by first | assumption | (simp [go_sem, *]; done)) (by first | assumption | (simp [go_sem, *]; done))
        have hB10 : Below w.heap.size w w10 := bel_trans hB9 hb10
        have hl10 := hB10.size
        clear hl9 hB9 f9x4b f9x4a f9x4 f9x3b f9x3a f9x3 f9x2b f9x2a f9x2 f9x1b f9x1a f9x1 f9x0b f9x0a f9x0
        clear hb10
        go_wp2_with fail
        refine (HcO1.out _).mono ?_
        rintro e w11 ⟨rfl, hb11⟩
        obtain ⟨f11x0, f11x0a, f11x0b⟩ := bel_box hb11 (b := w1.heap.size) (x := .int .i64 (a)) (y := .int .i64 (b)) (by first | omega | (simp; done) | (simp; omega)) (by first | assumption | (simp [go_sem, *]; done)) (by first | assumption | (simp [go_sem, *]; done))
        obtain ⟨f11x1, f11x1a, f11x1b⟩ := bel_box hb11 (b := w1.heap.size + 1) (x := .int .i64 (c)) (y := .int .i64 (d)) (by first | omega | (simp; done) | (simp; omega)) (by first | assumption | (simp [go_sem, *]; done)) (by first | assumption | (simp [go_sem, *]; done))
        obtain ⟨f11x2, f11x2a, f11x2b⟩ := bel_box hb11 (b := w2.heap.size) (x := .int .i64 (g)) (y := .int .i64 (h)) (by first | omega | (simp; done) | (simp; omega)) (by first | assumption | (simp [go_sem, *]; done)) (by first | assumption | (simp [go_sem, *]; done))
        obtain ⟨f11x3, f11x3a, f11x3b⟩ := bel_box hb11 (b := w2.heap.size + 1) (x := .int .i64 (i)) (y := .int .i64 (j)) (by first | omega | (simp; done) | (simp; omega)) (by first | assumption | (simp [go_sem, *]; done)) (by first | assumption | (simp [go_sem, *]; done))
        obtain ⟨f11x4, f11x4a, f11x4b⟩ := bel_box hb11 (b := w3.heap.size) (x := .int .i64 (maxI a c)) (y := .int .i64 (maxI b d)) (by first | omega | (simp; done) | (simp; omega)) (by first | assumption | (simp [go_sem, *]; done)) (by first | assumption | (simp [go_sem, *]; done))
        have hB11 : Below w.heap.size w w11 := bel_trans hB10 hb11
        have hl11 := hB11.size
        clear hl10 hB10 f10x4b f10x4a f10x4 f10x3b f10x3a f10x3 f10x2b f10x2a f10x2 f10x1b f10x1a f10x1 f10x0b f10x0a f10x0
        clear hb11
        go_wp2_with fail
        go_ret
        exact ⟨rfl, hB11⟩
      · skip
        go_wp2_with fail
        refine (HcF1.out _).mono ?_
        rintro e w6 ⟨rfl, hb6⟩
        obtain ⟨f6x0, f6x0a, f6x0b⟩ := bel_box hb6 (b := w1.heap.size) (x := .int .i64 (a)) (y := .int .i64 (b)) (by first | omega | (simp; done) | (simp; omega)) (by first | assumption | (simp [go_sem, *]; done)) (by first | assumption | (simp [go_sem, *]; done))
        obtain ⟨f6x1, f6x1a, f6x1b⟩ := bel_box hb6 (b := w1.heap.size + 1) (x := .int .i64 (c)) (y := .int .i64 (d)) (by first | omega | (simp; done) | (simp; omega)) (by first | assumption | (simp [go_sem, *]; done)) (by first | assumption | (simp [go_sem, *]; done))
        obtain ⟨f6x2, f6x2a, f6x2b⟩ := bel_box hb6 (b := w2.heap.size) (x := .int .i64 (g)) (y := .int .i64 (h)) (by first | omega | (simp; done) | (simp; omega)) (by first | assumption | (simp [go_sem, *]; done)) (by first | assumption | (simp [go_sem, *]; done))
        obtain ⟨f6x3, f6x3a, f6x3b⟩ := bel_box hb6 (b := w2.heap.size + 1) (x := .int .i64 (i)) (y := .int .i64 (j)) (by first | omega | (simp; done) | (simp; omega)) (by first | assumption | (simp [go_sem, *]; done)) (by first | assumption | (simp [go_sem, *]; done))
        obtain ⟨f6x4, f6x4a, f6x4b⟩ := bel_box hb6 (b := w3.heap.size) (x := .int .i64 (maxI a c)) (y := .int .i64 (maxI b d)) (by first | omega | (simp; done) | (simp; omega)) (by first | assumption | (simp [go_sem, *]; done)) (by first | assumption | (simp [go_sem, *]; done))
        have hB6 : Below w.heap.size w w6 := bel_trans hB5 hb6
        have hl6 := hB6.size
        clear hl5 hB5 f5x4b f5x4a f5x4 f5x3b f5x3a f5x3 f5x2b f5x2a f5x2 f5x1b f5x1a f5x1 f5x0b f5x0a f5x0
        clear hb6
        go_wp2_with fail
        refine (HcF2.out _).mono ?_
        rintro e w7 ⟨rfl, hb7⟩
        obtain ⟨f7x0, f7x0a, f7x0b⟩ := bel_box hb7 (b := w1.heap.size) (x := .int .i64 (a)) (y := .int .i64 (b)) (by first | omega | (simp; done) | (simp; omega)) (by first | assumption | (simp [go_sem, *]; done)) (by first | assumption | (simp [go_sem, *]; done))
        obtain ⟨f7x1, f7x1a, f7x1b⟩ := bel_box hb7 (b := w1.heap.size + 1) (x := .int .i64 (c)) (y := .int .i64 (d)) (by first | omega | (simp; done) | (simp; omega)) (by first | assumption | (simp [go_sem, *]; done)) (by first | assumption | (simp [go_sem, *]; done))
        obtain ⟨f7x2, f7x2a, f7x2b⟩ := bel_box hb7 (b := w2.heap.size) (x := .int .i64 (g)) (y := .int .i64 (h)) (by first | omega | (simp; done) | (simp; omega)) (by first | assumption | (simp [go_sem, *]; done)) (by first | assumption | (simp [go_sem, *]; done))
        obtain ⟨f7x3, f7x3a, f7x3b⟩ := bel_box hb7 (b := w2.heap.size + 1) (x := .int .i64 (i)) (y := .int .i64 (j)) (by first | omega | (simp; done) | (simp; omega)) (by first | assumption | (simp [go_sem, *]; done)) (by first | assumption | (simp [go_sem, *]; done))
        obtain ⟨f7x4, f7x4a, f7x4b⟩ := bel_box hb7 (b := w3.heap.size) (x := .int .i64 (maxI a c)) (y := .int .i64 (maxI b d)) (by first | omega | (simp; done) | (simp; omega)) (by first | assumption | (simp [go_sem, *]; done)) (by first | assumption | (simp [go_sem, *]; done))
        have hB7 : Below w.heap.size w w7 := bel_trans hB6 hb7
        have hl7 := hB7.size
        clear hl6 hB6 f6x4b f6x4a f6x4 f6x3b f6x3a f6x3 f6x2b f6x2a f6x2 f6x1b f6x1a f6x1 f6x0b f6x0a f6x0
        clear hb7
        go_wp2_with fail
        refine (HcF3.out _).mono ?_
        rintro e w8 ⟨rfl, hb8⟩
        obtain ⟨f8x0, f8x0a, f8x0b⟩ := bel_box hb8 (b := w1.heap.size) (x := .int .i64 (a)) (y := .int .i64 (b)) (by first | omega | (simp; done) | (simp; omega)) (by first | assumption | (simp [go_sem, *]; done)) (by first | assumption | (simp [go_sem, *]; done))
        obtain ⟨f8x1, f8x1a, f8x1b⟩ := bel_box hb8 (b := w1.heap.size + 1) (x := .int .i64 (c)) (y := .int .i64 (d)) (by first | omega | (simp; done) | (simp; omega)) (by first | assumption | (simp [go_sem, *]; done)) (by first | assumption | (simp [go_sem, *]; done))
        obtain ⟨f8x2, f8x2a, f8x2b⟩ := bel_box hb8 (b := w2.heap.size) (x := .int .i64 (g)) (y := .int .i64 (h)) (by first | omega | (simp; done) | (simp; omega)) (by first | assumption | (simp [go_sem, *]; done)) (by first | assumption | (simp [go_sem, *]; done))
        obtain ⟨f8x3, f8x3a, f8x3b⟩ := bel_box hb8 (b := w2.heap.size + 1) (x := .int .i64 (i)) (y := .int .i64 (j)) (by first | omega | (simp; done) | (simp; omega)) (by first | assumption | (simp [go_sem, *]; done)) (by first | assumption | (simp [go_sem, *]; done))
        obtain ⟨f8x4, f8x4a, f8x4b⟩ := bel_box hb8 (b := w3.heap.size) (x := .int .i64 (maxI a c)) (y := .int .i64 (maxI b d)) (by first | omega | (simp; done) | (simp; omega)) (by first | assumption | (simp [go_sem, *]; done)) (by first | assumption | (simp [go_sem, *]; done))
        have hB8 : Below w.heap.size w w8 := bel_trans hB7 hb8
        have hl8 := hB8.size
        clear hl7 hB7 f7x4b f7x4a f7x4 f7x3b f7x3a f7x3 f7x2b f7x2a f7x2 f7x1b f7x1a f7x1 f7x0b f7x0a f7x0
        clear hb8
        go_wp2_with fail
        refine (HcN.out _).mono ?_
        rintro e w9 ⟨rfl, hb9⟩
        obtain ⟨f9x0, f9x0a, f9x0b⟩ := bel_box hb9 (b := w1.heap.size) (x := .int .i64 (a)) (y := .int .i64 (b)) (by first | omega | (simp; done) | (simp; omega)) (by first | assumption | (simp [go_sem, *]; done)) (by first | assumption | (simp [go_sem, *]; done))
        obtain ⟨f9x1, f9x1a, f9x1b⟩ := bel_box hb9 (b := w1.heap.size + 1) (x := .int .i64 (c)) (y := .int .i64 (d)) (by first | omega | (simp; done) | (simp; omega)) (by first | assumption | (simp [go_sem, *]; done)) (by first | assumption | (simp [go_sem, *]; done))
        obtain ⟨f9x2, f9x2a, f9x2b⟩ := bel_box hb9 (b := w2.heap.size) (x := .int .i64 (g)) (y := .int .i64 (h)) (by first | omega | (simp; done) | (simp; omega)) (by first | assumption | (simp [go_sem, *]; done)) (by first | assumption | (simp [go_sem, *]; done))
        obtain ⟨f9x3, f9x3a, f9x3b⟩ := bel_box hb9 (b := w2.heap.size + 1) (x := .int .i64 (i)) (y := .int .i64 (j)) (by first | omega | (simp; done) | (simp; omega)) (by first | assumption | (simp [go_sem, *]; done)) (by first | assumption | (simp [go_sem, *]; done))
        obtain ⟨f9x4, f9x4a, f9x4b⟩ := bel_box hb9 (b := w3.heap.size) (x := .int .i64 (maxI a c)) (y := .int .i64 (maxI b d)) (by first | omega | (simp; done) | (simp; omega)) (by first | assumption | (simp [go_sem, *]; done)) (by first | assumption | (simp [go_sem, *]; done))
        have hB9 : Below w.heap.size w w9 := bel_trans hB8 hb9
        have hl9 := hB9.size
        clear hl8 hB8 f8x4b f8x4a f8x4 f8x3b f8x3a f8x3 f8x2b f8x2a f8x2 f8x1b f8x1a f8x1 f8x0b f8x0a f8x0
        clear hb9
        go_wp2_with fail
        go_region_held3 (fun w' => Below w9.heap.size w9 w' ∧ w'.cell? ⟨w1.heap.size, 0, none⟩ = some (.int .i64 (a)) ∧ w'.cell? ⟨w1.heap.size, 1, none⟩ = some (.int .i64 (b)) ∧ w'.cell? ⟨w2.heap.size, 0, none⟩ = some (.int .i64 (g)) ∧ w'.cell? ⟨w2.heap.size, 1, none⟩ = some (.int .i64 (h)) ∧ w'.cell? ⟨w2.heap.size + 1, 0, none⟩ = some (.int .i64 (i)) ∧ w'.cell? ⟨w2.heap.size + 1, 1, none⟩ = some (.int .i64 (j)))
          (first | (exact ⟨Below.drew (Below.refl _ _), f9x0a, f9x0b, f9x2a, f9x2b, f9x3a, f9x3b⟩) | (refine keepR f9x0 f9x2 f9x3 (by assumption) ?_; assumption))
          (first | (go_at_call 16; refine (HcQ.out _).mono ?_; rintro e wr ⟨rfl, hbr⟩) | (go_at_call 18; refine (HcK.out _).mono ?_; rintro e wr ⟨rfl, hbr⟩))
        rename_i hh
        have hb10 := hh.1
        clear hh
        obtain ⟨f10x0, f10x0a, f10x0b⟩ := bel_box hb10 (b := w1.heap.size) (x := .int .i64 (a)) (y := .int .i64 (b)) (by first | omega | (simp; done) | (simp; omega)) (by first | assumption | (simp [go_sem, *]; done)) (by first | assumption | (simp [go_sem, *]; done))
        obtain ⟨f10x1, f10x1a, f10x1b⟩ := bel_box hb10 (b := w1.heap.size + 1) (x := .int .i64 (c)) (y := .int .i64 (d)) (by first | omega | (simp; done) | (simp; omega)) (by first | assumption | (simp [go_sem, *]; done)) (by first | assumption | (simp [go_sem, *]; done))
        obtain ⟨f10x2, f10x2a, f10x2b⟩ := bel_box hb10 (b := w2.heap.size) (x := .int .i64 (g)) (y := .int .i64 (h)) (by first | omega | (simp; done) | (simp; omega)) (by first | assumption | (simp [go_sem, *]; done)) (by first | assumption | (simp [go_sem, *]; done))
        obtain ⟨f10x3, f10x3a, f10x3b⟩ := bel_box hb10 (b := w2.heap.size + 1) (x := .int .i64 (i)) (y := .int .i64 (j)) (by first | omega | (simp; done) | (simp; omega)) (by first | assumption | (simp [go_sem, *]; done)) (by first | assumption | (simp [go_sem, *]; done))
        obtain ⟨f10x4, f10x4a, f10x4b⟩ := bel_box hb10 (b := w3.heap.size) (x := .int .i64 (maxI a c)) (y := .int .i64 (maxI b d)) (by first | omega | (simp; done) | (simp; omega)) (by first | assumption | (simp [go_sem, *]; done)) (by first | assumption | (simp [go_sem, *]; done))
        have hB10 : Below w.heap.size w wr := bel_trans hB9 hb10
        have hl10 := hB10.size
        clear hl9 hB9 f9x4b f9x4a f9x4 f9x3b f9x3a f9x3 f9x2b f9x2a f9x2 f9x1b f9x1a f9x1 f9x0b f9x0a f9x0
        clear hb10
        go_wp2_with fail
        refine (HcNs.out _).mono ?_
        rintro e w11 ⟨rfl, hb11⟩
        obtain ⟨f11x0, f11x0a, f11x0b⟩ := bel_box hb11 (b := w1.heap.size) (x := .int .i64 (a)) (y := .int .i64 (b)) (by first | omega | (simp; done) | (simp; omega)) (by first | assumption | (simp [go_sem, *]; done)) (by first | assumption | (simp [go_sem, *]; done))
        obtain ⟨f11x1, f11x1a, f11x1b⟩ := bel_box hb11 (b := w1.heap.size + 1) (x := .int .i64 (c)) (y := .int .i64 (d)) (by first | omega | (simp; done) | (simp; omega)) (by first | assumption | (simp [go_sem, *]; done)) (by first | assumption | (simp [go_sem, *]; done))
        obtain ⟨f11x2, f11x2a, f11x2b⟩ := bel_box hb11 (b := w2.heap.size) (x := .int .i64 (g)) (y := .int .i64 (h)) (by first | omega | (simp; done) | (simp; omega)) (by first | assumption | (simp [go_sem, *]; done)) (by first | assumption | (simp [go_sem, *]; done))
        obtain ⟨f11x3, f11x3a, f11x3b⟩ := bel_box hb11 (b := w2.heap.size + 1) (x := .int .i64 (i)) (y := .int .i64 (j)) (by first | omega | (simp; done) | (simp; omega)) (by first | assumption | (simp [go_sem, *]; done)) (by first | assumption | (simp [go_sem, *]; done))
        obtain ⟨f11x4, f11x4a, f11x4b⟩ := bel_box hb11 (b := w3.heap.size) (x := .int .i64 (maxI a c)) (y := .int .i64 (maxI b d)) (by first | omega | (simp; done) | (simp; omega)) (by first | assumption | (simp [go_sem, *]; done)) (by first | assumption | (simp [go_sem, *]; done))
        have hB11 : Below w.heap.size w w11 := bel_trans hB10 hb11
        have hl11 := hB11.size
        clear hl10 hB10 f10x4b f10x4a f10x4 f10x3b f10x3a f10x3 f10x2b f10x2a f10x2 f10x1b f10x1a f10x1 f10x0b f10x0a f10x0
        clear hb11
        go_wp2_with fail
        refine (HcO1.out _).mono ?_
        rintro e w12 ⟨rfl, hb12⟩
        obtain ⟨f12x0, f12x0a, f12x0b⟩ := bel_box hb12 (b := w1.heap.size) (x := .int .i64 (a)) (y := .int .i64 (b)) (by first | omega | (simp; done) | (simp; omega)) (by first | assumption | (simp [go_sem, *]; done)) (by first | assumption | (simp [go_sem, *]; done))
        obtain ⟨f12x1, f12x1a, f12x1b⟩ := bel_box hb12 (b := w1.heap.size + 1) (x := .int .i64 (c)) (y := .int .i64 (d)) (by first | omega | (simp; done) | (simp; omega)) (by first | assumption | (simp [go_sem, *]; done)) (by first | assumption | (simp [go_sem, *]; done))
        obtain ⟨f12x2, f12x2a, f12x2b⟩ := bel_box hb12 (b := w2.heap.size) (x := .int .i64 (g)) (y := .int .i64 (h)) (by first | omega | (simp; done) | (simp; omega)) (by first | assumption | (simp [go_sem, *]; done)) (by first | assumption | (simp [go_sem, *]; done))
        obtain ⟨f12x3, f12x3a, f12x3b⟩ := bel_box hb12 (b := w2.heap.size + 1) (x := .int .i64 (i)) (y := .int .i64 (j)) (by first | omega | (simp; done) | (simp; omega)) (by first | assumption | (simp [go_sem, *]; done)) (by first | assumption | (simp [go_sem, *]; done))
        obtain ⟨f12x4, f12x4a, f12x4b⟩ := bel_box hb12 (b := w3.heap.size) (x := .int .i64 (maxI a c)) (y := .int .i64 (maxI b d)) (by first | omega | (simp; done) | (simp; omega)) (by first | assumption | (simp [go_sem, *]; done)) (by first | assumption | (simp [go_sem, *]; done))
        have hB12 : Below w.heap.size w w12 := bel_trans hB11 hb12
        have hl12 := hB12.size
        clear hl11 hB11 f11x4b f11x4a f11x4 f11x3b f11x3a f11x3 f11x2b f11x2a f11x2 f11x1b f11x1a f11x1 f11x0b f11x0a f11x0
        clear hb12
        go_wp2_with fail
        go_ret
        exact ⟨rfl, hB12⟩
    · cases h2 : okB g h
      · skip
        have cM : ∀ w, Calls Try.prog 16 #[.agg #[.int .i64 (a), .int .i64 (b)], .agg #[.int .i64 (c), .int .i64 (d)]] w fun e w' => e = .returned (.agg #[.int .i64 (maxI a c), .int .i64 (maxI b d)]) ∧ Below w.heap.size w w' := implMost_any a b c d
        have cMs : ∀ w, Calls Try.prog 23 #[.agg #[.int .i64 (a), .int .i64 (b)], .agg #[.int .i64 (c), .int .i64 (d)]] w fun e w' => e = .returned (.agg #[.int .i64 (maxI a c), .int .i64 (maxI b d)]) ∧ Below w.heap.size w w' := specMost_any a b c d
        have cM2 : ∀ w, Calls Try.prog 16 #[.agg #[.int .i64 (c), .int .i64 (d)], .agg #[.int .i64 (a), .int .i64 (b)]] w fun e w' => e = .returned (.agg #[.int .i64 (maxI a c), .int .i64 (maxI b d)]) ∧ Below w.heap.size w w' := fun w => by have := implMost_any c d a b w; rwa [maxI_comm a c, maxI_comm b d] at this
        have cM3 : ∀ w, Calls Try.prog 16 #[.agg #[.int .i64 (a), .int .i64 (b)], .agg #[.int .i64 (a), .int .i64 (b)]] w fun e w' => e = .returned (.agg #[.int .i64 (a), .int .i64 (b)]) ∧ Below w.heap.size w w' := fun w => by have := implMost_any a b a b w; rwa [maxI_self a, maxI_self b] at this
        have cM4 : ∀ w, Calls Try.prog 16 #[.agg #[.int .i64 (maxI a c), .int .i64 (maxI b d)], .agg #[.int .i64 (a), .int .i64 (b)]] w fun e w' => e = .returned (.agg #[.int .i64 (maxI a c), .int .i64 (maxI b d)]) ∧ Below w.heap.size w w' := fun w => by have := implMost_any (maxI a c) (maxI b d) a b w; rwa [maxI_again a c, maxI_again b d] at this
        have cF1 : ∀ w, Calls Try.prog 17 #[.agg #[.int .i64 (a), .int .i64 (b)], .agg #[.int .i64 (c), .int .i64 (d)]] w fun e w' => e = .returned (.bool (fitB a b c d)) ∧ Below w.heap.size w w' := implFits_any a b c d
        have cF2 : ∀ w, Calls Try.prog 17 #[.agg #[.int .i64 (c), .int .i64 (d)], .agg #[.int .i64 (g), .int .i64 (h)]] w fun e w' => e = .returned (.bool (fitB c d g h)) ∧ Below w.heap.size w w' := implFits_any c d g h
        have cF3 : ∀ w, Calls Try.prog 17 #[.agg #[.int .i64 (a), .int .i64 (b)], .agg #[.int .i64 (g), .int .i64 (h)]] w fun e w' => e = .returned (.bool (fitB a b g h)) ∧ Below w.heap.size w w' := implFits_any a b g h
        have cN : ∀ w, Calls Try.prog 18 #[.agg #[.int .i64 (g), .int .i64 (h)], .agg #[.int .i64 (i), .int .i64 (j)]] w fun e w' => e = .returned (.int .i64 (slotsI g h i j)) ∧ Below w.heap.size w w' := implSlots_any g h i j
        have cNs : ∀ w, Calls Try.prog 19 #[.agg #[.int .i64 (g), .int .i64 (h)], .agg #[.int .i64 (i), .int .i64 (j)]] w fun e w' => e = .returned (.int .i64 (slotsI g h i j)) ∧ Below w.heap.size w w' := specSlots_any g h i j
        have cQ : ∀ w, Calls Try.prog 16 #[.agg #[.int .i64 (a), .int .i64 (b)], .agg #[.int .i64 (g), .int .i64 (h)]] w fun e w' => e = .returned (.agg #[.int .i64 (maxI a g), .int .i64 (maxI b h)]) ∧ Below w.heap.size w w' := implMost_any a b g h
        have cK : ∀ w, Calls Try.prog 18 #[.agg #[.int .i64 (maxI a g), .int .i64 (maxI b h)], .agg #[.int .i64 (i), .int .i64 (j)]] w fun e w' => e = .returned (.int .i64 (slotsI (maxI a g) (maxI b h) i j)) ∧ Below w.heap.size w w' := implSlots_any (maxI a g) (maxI b h) i j
        have cO1 : ∀ w, Calls Try.prog 20 #[.agg #[.int .i64 (a), .int .i64 (b)]] w fun e w' => e = .returned (.bool true) ∧ Below w.heap.size w w' := fun w => by have := specOk_any a b w; rwa [h1] at this
        have cO2 : ∀ w, Calls Try.prog 20 #[.agg #[.int .i64 (g), .int .i64 (h)]] w fun e w' => e = .returned (.bool false) ∧ Below w.heap.size w w' := fun w => by have := specOk_any g h w; rwa [h2] at this
        have hF : (fitB a b c d = false) ∨ (fitB a b c d = true ∧ fitB c d g h = false) ∨ (fitB a b c d = true ∧ fitB c d g h = true ∧ fitB a b g h = true) := by
          cases x1 : fitB a b c d
          · exact .inl rfl
          · cases x2 : fitB c d g h
            · exact .inr (.inl ⟨rfl, rfl⟩)
            · exact .inr (.inr ⟨rfl, rfl, fit_iff.2 (by have := fit_iff.1 x1; have := fit_iff.1 x2; omega)⟩)
        have HcM := hidden cM; clear cM
        have HcMs := hidden cMs; clear cMs
        have HcM2 := hidden cM2; clear cM2
        have HcM3 := hidden cM3; clear cM3
        have HcM4 := hidden cM4; clear cM4
        have HcF1 := hidden cF1; clear cF1
        have HcF2 := hidden cF2; clear cF2
        have HcF3 := hidden cF3; clear cF3
        have HcN := hidden cN; clear cN
        have HcNs := hidden cNs; clear cNs
        have HcQ := hidden cQ; clear cQ
        have HcK := hidden cK; clear cK
        have HcO1 := hidden cO1; clear cO1
        have HcO2 := hidden cO2; clear cO2
        clear h1 h2
        go_wp2_with fail
        refine (HcM.out _).mono ?_
        rintro e w3 ⟨rfl, hb3⟩
        obtain ⟨f3x0, f3x0a, f3x0b⟩ := bel_box hb3 (b := w1.heap.size) (x := .int .i64 (a)) (y := .int .i64 (b)) (by first | omega | (simp; done) | (simp; omega)) (by first | assumption | (simp [go_sem, *]; done)) (by first | assumption | (simp [go_sem, *]; done))
        obtain ⟨f3x1, f3x1a, f3x1b⟩ := bel_box hb3 (b := w1.heap.size + 1) (x := .int .i64 (c)) (y := .int .i64 (d)) (by first | omega | (simp; done) | (simp; omega)) (by first | assumption | (simp [go_sem, *]; done)) (by first | assumption | (simp [go_sem, *]; done))
        obtain ⟨f3x2, f3x2a, f3x2b⟩ := bel_box hb3 (b := w2.heap.size) (x := .int .i64 (g)) (y := .int .i64 (h)) (by first | omega | (simp; done) | (simp; omega)) (by first | assumption | (simp [go_sem, *]; done)) (by first | assumption | (simp [go_sem, *]; done))
        obtain ⟨f3x3, f3x3a, f3x3b⟩ := bel_box hb3 (b := w2.heap.size + 1) (x := .int .i64 (i)) (y := .int .i64 (j)) (by first | omega | (simp; done) | (simp; omega)) (by first | assumption | (simp [go_sem, *]; done)) (by first | assumption | (simp [go_sem, *]; done))
        have hB3 : Below w.heap.size w w3 := bel_trans ((hB2.alloc (by first | omega | (simp; done) | (simp; omega)) _).alloc (by first | omega | (simp; done) | (simp; omega)) _) hb3
        have hl3 := hB3.size
        clear hl2 hB2 f2x1b f2x1a f2x1 f2x0b f2x0a f2x0
        clear hb3
        go_wp2_with fail
        obtain ⟨w4, hw4⟩ : ∃ x, x = (w3.alloc (.cells #[.int .i64 (maxI a c), .int .i64 (maxI b d)] 24)) := ⟨_, rfl⟩
        have hb4 : Below ((w3.alloc (.cells #[.int .i64 (maxI a c), .int .i64 (maxI b d)] 24))).heap.size ((w3.alloc (.cells #[.int .i64 (maxI a c), .int .i64 (maxI b d)] 24))) w4 := by rw [hw4]; exact Below.refl _ _
        obtain ⟨f4x0, f4x0a, f4x0b⟩ := bel_box hb4 (b := w1.heap.size) (x := .int .i64 (a)) (y := .int .i64 (b)) (by first | omega | (simp; done) | (simp; omega)) (by first | assumption | (simp [go_sem, *]; done)) (by first | assumption | (simp [go_sem, *]; done))
        obtain ⟨f4x1, f4x1a, f4x1b⟩ := bel_box hb4 (b := w1.heap.size + 1) (x := .int .i64 (c)) (y := .int .i64 (d)) (by first | omega | (simp; done) | (simp; omega)) (by first | assumption | (simp [go_sem, *]; done)) (by first | assumption | (simp [go_sem, *]; done))
        obtain ⟨f4x2, f4x2a, f4x2b⟩ := bel_box hb4 (b := w2.heap.size) (x := .int .i64 (g)) (y := .int .i64 (h)) (by first | omega | (simp; done) | (simp; omega)) (by first | assumption | (simp [go_sem, *]; done)) (by first | assumption | (simp [go_sem, *]; done))
        obtain ⟨f4x3, f4x3a, f4x3b⟩ := bel_box hb4 (b := w2.heap.size + 1) (x := .int .i64 (i)) (y := .int .i64 (j)) (by first | omega | (simp; done) | (simp; omega)) (by first | assumption | (simp [go_sem, *]; done)) (by first | assumption | (simp [go_sem, *]; done))
        obtain ⟨f4x4, f4x4a, f4x4b⟩ := bel_box hb4 (b := w3.heap.size) (x := .int .i64 (maxI a c)) (y := .int .i64 (maxI b d)) (by first | omega | (simp; done) | (simp; omega)) (by first | assumption | (simp [go_sem, *]; done)) (by first | assumption | (simp [go_sem, *]; done))
        have hB4 : Below w.heap.size w w4 := bel_trans (hB3.alloc (by first | omega | (simp; done) | (simp; omega)) _) hb4
        have hl4 := hB4.size
        clear hl3 hB3 f3x3b f3x3a f3x3 f3x2b f3x2a f3x2 f3x1b f3x1a f3x1 f3x0b f3x0a f3x0
        clear hb4
        rw [← hw4]
        clear hw4
        go_region_held3 (fun w' => Below w4.heap.size w4 w' ∧ w'.cell? ⟨w3.heap.size, 0, none⟩ = some (.int .i64 (maxI a c)) ∧ w'.cell? ⟨w3.heap.size, 1, none⟩ = some (.int .i64 (maxI b d)) ∧ w'.cell? ⟨w1.heap.size, 0, none⟩ = some (.int .i64 (a)) ∧ w'.cell? ⟨w1.heap.size, 1, none⟩ = some (.int .i64 (b)) ∧ w'.cell? ⟨w1.heap.size + 1, 0, none⟩ = some (.int .i64 (c)) ∧ w'.cell? ⟨w1.heap.size + 1, 1, none⟩ = some (.int .i64 (d)))
          (first | (exact ⟨Below.drew (Below.refl _ _), f4x4a, f4x4b, f4x0a, f4x0b, f4x1a, f4x1b⟩) | (refine keepR f4x4 f4x0 f4x1 (by assumption) ?_; assumption))
          (first | (go_at_call 23; refine (HcMs.out _).mono ?_; rintro e wr ⟨rfl, hbr⟩) | (go_at_call_of 16 (Value.int .i64 d); go_at_call_of 16 (Value.int .i64 b); refine (HcM2.out _).mono ?_; rintro e wr ⟨rfl, hbr⟩) | (go_at_call_of 16 (Value.int .i64 (maxI a c)); refine (HcM4.out _).mono ?_; rintro e wr ⟨rfl, hbr⟩) | (go_at_call 16; refine (HcM3.out _).mono ?_; rintro e wr ⟨rfl, hbr⟩))
        rename_i hh
        have hb5 := hh.1
        clear hh
        obtain ⟨f5x0, f5x0a, f5x0b⟩ := bel_box hb5 (b := w1.heap.size) (x := .int .i64 (a)) (y := .int .i64 (b)) (by first | omega | (simp; done) | (simp; omega)) (by first | assumption | (simp [go_sem, *]; done)) (by first | assumption | (simp [go_sem, *]; done))
        obtain ⟨f5x1, f5x1a, f5x1b⟩ := bel_box hb5 (b := w1.heap.size + 1) (x := .int .i64 (c)) (y := .int .i64 (d)) (by first | omega | (simp; done) | (simp; omega)) (by first | assumption | (simp [go_sem, *]; done)) (by first | assumption | (simp [go_sem, *]; done))
        obtain ⟨f5x2, f5x2a, f5x2b⟩ := bel_box hb5 (b := w2.heap.size) (x := .int .i64 (g)) (y := .int .i64 (h)) (by first | omega | (simp; done) | (simp; omega)) (by first | assumption | (simp [go_sem, *]; done)) (by first | assumption | (simp [go_sem, *]; done))
        obtain ⟨f5x3, f5x3a, f5x3b⟩ := bel_box hb5 (b := w2.heap.size + 1) (x := .int .i64 (i)) (y := .int .i64 (j)) (by first | omega | (simp; done) | (simp; omega)) (by first | assumption | (simp [go_sem, *]; done)) (by first | assumption | (simp [go_sem, *]; done))
        obtain ⟨f5x4, f5x4a, f5x4b⟩ := bel_box hb5 (b := w3.heap.size) (x := .int .i64 (maxI a c)) (y := .int .i64 (maxI b d)) (by first | omega | (simp; done) | (simp; omega)) (by first | assumption | (simp [go_sem, *]; done)) (by first | assumption | (simp [go_sem, *]; done))
        have hB5 : Below w.heap.size w wr := bel_trans hB4 hb5
        have hl5 := hB5.size
        clear hl4 hB4 f4x4b f4x4a f4x4 f4x3b f4x3a f4x3 f4x2b f4x2a f4x2 f4x1b f4x1a f4x1 f4x0b f4x0a f4x0
        clear hb5
        rcases hF with hF1 | ⟨hF1, hF2⟩ | ⟨hF1, hF2, hF3⟩
        · skip
          go_wp2_with fail
          refine (HcF1.out _).mono ?_
          rintro e w6 ⟨rfl, hb6⟩
          obtain ⟨f6x0, f6x0a, f6x0b⟩ := bel_box hb6 (b := w1.heap.size) (x := .int .i64 (a)) (y := .int .i64 (b)) (by first | omega | (simp; done) | (simp; omega)) (by first | assumption | (simp [go_sem, *]; done)) (by first | assumption | (simp [go_sem, *]; done))
          obtain ⟨f6x1, f6x1a, f6x1b⟩ := bel_box hb6 (b := w1.heap.size + 1) (x := .int .i64 (c)) (y := .int .i64 (d)) (by first | omega | (simp; done) | (simp; omega)) (by first | assumption | (simp [go_sem, *]; done)) (by first | assumption | (simp [go_sem, *]; done))
          obtain ⟨f6x2, f6x2a, f6x2b⟩ := bel_box hb6 (b := w2.heap.size) (x := .int .i64 (g)) (y := .int .i64 (h)) (by first | omega | (simp; done) | (simp; omega)) (by first | assumption | (simp [go_sem, *]; done)) (by first | assumption | (simp [go_sem, *]; done))
          obtain ⟨f6x3, f6x3a, f6x3b⟩ := bel_box hb6 (b := w2.heap.size + 1) (x := .int .i64 (i)) (y := .int .i64 (j)) (by first | omega | (simp; done) | (simp; omega)) (by first | assumption | (simp [go_sem, *]; done)) (by first | assumption | (simp [go_sem, *]; done))
          obtain ⟨f6x4, f6x4a, f6x4b⟩ := bel_box hb6 (b := w3.heap.size) (x := .int .i64 (maxI a c)) (y := .int .i64 (maxI b d)) (by first | omega | (simp; done) | (simp; omega)) (by first | assumption | (simp [go_sem, *]; done)) (by first | assumption | (simp [go_sem, *]; done))
          have hB6 : Below w.heap.size w w6 := bel_trans hB5 hb6
          have hl6 := hB6.size
          clear hl5 hB5 f5x4b f5x4a f5x4 f5x3b f5x3a f5x3 f5x2b f5x2a f5x2 f5x1b f5x1a f5x1 f5x0b f5x0a f5x0
          clear hb6
          go_wp2_with fail
          refine (HcN.out _).mono ?_
          rintro e w7 ⟨rfl, hb7⟩
          obtain ⟨f7x0, f7x0a, f7x0b⟩ := bel_box hb7 (b := w1.heap.size) (x := .int .i64 (a)) (y := .int .i64 (b)) (by first | omega | (simp; done) | (simp; omega)) (by first | assumption | (simp [go_sem, *]; done)) (by first | assumption | (simp [go_sem, *]; done))
          obtain ⟨f7x1, f7x1a, f7x1b⟩ := bel_box hb7 (b := w1.heap.size + 1) (x := .int .i64 (c)) (y := .int .i64 (d)) (by first | omega | (simp; done) | (simp; omega)) (by first | assumption | (simp [go_sem, *]; done)) (by first | assumption | (simp [go_sem, *]; done))
          obtain ⟨f7x2, f7x2a, f7x2b⟩ := bel_box hb7 (b := w2.heap.size) (x := .int .i64 (g)) (y := .int .i64 (h)) (by first | omega | (simp; done) | (simp; omega)) (by first | assumption | (simp [go_sem, *]; done)) (by first | assumption | (simp [go_sem, *]; done))
          obtain ⟨f7x3, f7x3a, f7x3b⟩ := bel_box hb7 (b := w2.heap.size + 1) (x := .int .i64 (i)) (y := .int .i64 (j)) (by first | omega | (simp; done) | (simp; omega)) (by first | assumption | (simp [go_sem, *]; done)) (by first | assumption | (simp [go_sem, *]; done))
          obtain ⟨f7x4, f7x4a, f7x4b⟩ := bel_box hb7 (b := w3.heap.size) (x := .int .i64 (maxI a c)) (y := .int .i64 (maxI b d)) (by first | omega | (simp; done) | (simp; omega)) (by first | assumption | (simp [go_sem, *]; done)) (by first | assumption | (simp [go_sem, *]; done))
          have hB7 : Below w.heap.size w w7 := bel_trans hB6 hb7
          have hl7 := hB7.size
          clear hl6 hB6 f6x4b f6x4a f6x4 f6x3b f6x3a f6x3 f6x2b f6x2a f6x2 f6x1b f6x1a f6x1 f6x0b f6x0a f6x0
          clear hb7
          go_wp2_with fail
          go_region_held3 (fun w' => Below w7.heap.size w7 w' ∧ w'.cell? ⟨w1.heap.size, 0, none⟩ = some (.int .i64 (a)) ∧ w'.cell? ⟨w1.heap.size, 1, none⟩ = some (.int .i64 (b)) ∧ w'.cell? ⟨w2.heap.size, 0, none⟩ = some (.int .i64 (g)) ∧ w'.cell? ⟨w2.heap.size, 1, none⟩ = some (.int .i64 (h)) ∧ w'.cell? ⟨w2.heap.size + 1, 0, none⟩ = some (.int .i64 (i)) ∧ w'.cell? ⟨w2.heap.size + 1, 1, none⟩ = some (.int .i64 (j)))
            (first | (exact ⟨Below.drew (Below.refl _ _), f7x0a, f7x0b, f7x2a, f7x2b, f7x3a, f7x3b⟩) | (refine keepR f7x0 f7x2 f7x3 (by assumption) ?_; assumption))
            (first | (go_at_call 16; refine (HcQ.out _).mono ?_; rintro e wr ⟨rfl, hbr⟩) | (go_at_call 18; refine (HcK.out _).mono ?_; rintro e wr ⟨rfl, hbr⟩))
          rename_i hh
          have hb8 := hh.1
          clear hh
          obtain ⟨f8x0, f8x0a, f8x0b⟩ := bel_box hb8 (b := w1.heap.size) (x := .int .i64 (a)) (y := .int .i64 (b)) (by first | omega | (simp; done) | (simp; omega)) (by first | assumption | (simp [go_sem, *]; done)) (by first | assumption | (simp [go_sem, *]; done))
          obtain ⟨f8x1, f8x1a, f8x1b⟩ := bel_box hb8 (b := w1.heap.size + 1) (x := .int .i64 (c)) (y := .int .i64 (d)) (by first | omega | (simp; done) | (simp; omega)) (by first | assumption | (simp [go_sem, *]; done)) (by first | assumption | (simp [go_sem, *]; done))
          obtain ⟨f8x2, f8x2a, f8x2b⟩ := bel_box hb8 (b := w2.heap.size) (x := .int .i64 (g)) (y := .int .i64 (h)) (by first | omega | (simp; done) | (simp; omega)) (by first | assumption | (simp [go_sem, *]; done)) (by first | assumption | (simp [go_sem, *]; done))
          obtain ⟨f8x3, f8x3a, f8x3b⟩ := bel_box hb8 (b := w2.heap.size + 1) (x := .int .i64 (i)) (y := .int .i64 (j)) (by first | omega | (simp; done) | (simp; omega)) (by first | assumption | (simp [go_sem, *]; done)) (by first | assumption | (simp [go_sem, *]; done))
          obtain ⟨f8x4, f8x4a, f8x4b⟩ := bel_box hb8 (b := w3.heap.size) (x := .int .i64 (maxI a c)) (y := .int .i64 (maxI b d)) (by first | omega | (simp; done) | (simp; omega)) (by first | assumption | (simp [go_sem, *]; done)) (by first | assumption | (simp [go_sem, *]; done))
          have hB8 : Below w.heap.size w wr := bel_trans hB7 hb8
          have hl8 := hB8.size
          clear hl7 hB7 f7x4b f7x4a f7x4 f7x3b f7x3a f7x3 f7x2b f7x2a f7x2 f7x1b f7x1a f7x1 f7x0b f7x0a f7x0
          clear hb8
          go_wp2_with fail
          refine (HcNs.out _).mono ?_
          rintro e w9 ⟨rfl, hb9⟩
          obtain ⟨f9x0, f9x0a, f9x0b⟩ := bel_box hb9 (b := w1.heap.size) (x := .int .i64 (a)) (y := .int .i64 (b)) (by first | omega | (simp; done) | (simp; omega)) (by first | assumption | (simp [go_sem, *]; done)) (by first | assumption | (simp [go_sem, *]; done))
          obtain ⟨f9x1, f9x1a, f9x1b⟩ := bel_box hb9 (b := w1.heap.size + 1) (x := .int .i64 (c)) (y := .int .i64 (d)) (by first | omega | (simp; done) | (simp; omega)) (by first | assumption | (simp [go_sem, *]; done)) (by first | assumption | (simp [go_sem, *]; done))
          obtain ⟨f9x2, f9x2a, f9x2b⟩ := bel_box hb9 (b := w2.heap.size) (x := .int .i64 (g)) (y := .int .i64 (h)) (by first | omega | (simp; done) | (simp; omega)) (by first | assumption | (simp [go_sem, *]; done)) (by first | assumption | (simp [go_sem, *]; done))
          obtain ⟨f9x3, f9x3a, f9x3b⟩ := bel_box hb9 (b := w2.heap.size + 1) (x := .int .i64 (i)) (y := .int .i64 (j)) (by first | omega | (simp; done) | (simp; omega)) (by first | assumption | (simp [go_sem, *]; done)) (by first | assumption | (simp [go_sem, *]; done))
          obtain ⟨f9x4, f9x4a, f9x4b⟩ := bel_box hb9 (b := w3.heap.size) (x := .int .i64 (maxI a c)) (y := .int .i64 (maxI b d)) (by first | omega | (simp; done) | (simp; omega)) (by first | assumption | (simp [go_sem, *]; done)) (by first | assumption | (simp [go_sem, *]; done))
          have hB9 : Below w.heap.size w w9 := bel_trans hB8 hb9
          have hl9 := hB9.size
          clear hl8 hB8 f8x4b f8x4a f8x4 f8x3b f8x3a f8x3 f8x2b f8x2a f8x2 f8x1b f8x1a f8x1 f8x0b f8x0a f8x0
          clear hb9
          go_wp2_with fail
          refine (HcO1.out _).mono ?_
          rintro e w10 ⟨rfl, hb10⟩
          obtain ⟨f10x0, f10x0a, f10x0b⟩ := bel_box hb10 (b := w1.heap.size) (x := .int .i64 (a)) (y := .int .i64 (b)) (by first | omega | (simp; done) | (simp; omega)) (by first | assumption | (simp [go_sem, *]; done)) (by first | assumption | (simp [go_sem, *]; done))
          obtain ⟨f10x1, f10x1a, f10x1b⟩ := bel_box hb10 (b := w1.heap.size + 1) (x := .int .i64 (c)) (y := .int .i64 (d)) (by first | omega | (simp; done) | (simp; omega)) (by first | assumption | (simp [go_sem, *]; done)) (by first | assumption | (simp [go_sem, *]; done))
          obtain ⟨f10x2, f10x2a, f10x2b⟩ := bel_box hb10 (b := w2.heap.size) (x := .int .i64 (g)) (y := .int .i64 (h)) (by first | omega | (simp; done) | (simp; omega)) (by first | assumption | (simp [go_sem, *]; done)) (by first | assumption | (simp [go_sem, *]; done))
          obtain ⟨f10x3, f10x3a, f10x3b⟩ := bel_box hb10 (b := w2.heap.size + 1) (x := .int .i64 (i)) (y := .int .i64 (j)) (by first | omega | (simp; done) | (simp; omega)) (by first | assumption | (simp [go_sem, *]; done)) (by first | assumption | (simp [go_sem, *]; done))
          obtain ⟨f10x4, f10x4a, f10x4b⟩ := bel_box hb10 (b := w3.heap.size) (x := .int .i64 (maxI a c)) (y := .int .i64 (maxI b d)) (by first | omega | (simp; done) | (simp; omega)) (by first | assumption | (simp [go_sem, *]; done)) (by first | assumption | (simp [go_sem, *]; done))
          have hB10 : Below w.heap.size w w10 := bel_trans hB9 hb10
          have hl10 := hB10.size
          clear hl9 hB9 f9x4b f9x4a f9x4 f9x3b f9x3a f9x3 f9x2b f9x2a f9x2 f9x1b f9x1a f9x1 f9x0b f9x0a f9x0
          clear hb10
          go_wp2_with fail
          refine (HcO2.out _).mono ?_
          rintro e w11 ⟨rfl, hb11⟩
          obtain ⟨f11x0, f11x0a, f11x0b⟩ := bel_box hb11 (b := w1.heap.size) (x := .int .i64 (a)) (y := .int .i64 (b)) (by first | omega | (simp; done) | (simp; omega)) (by first | assumption | (simp [go_sem, *]; done)) (by first | assumption | (simp [go_sem, *]; done))
          obtain ⟨f11x1, f11x1a, f11x1b⟩ := bel_box hb11 (b := w1.heap.size + 1) (x := .int .i64 (c)) (y := .int .i64 (d)) (by first | omega | (simp; done) | (simp; omega)) (by first | assumption | (simp [go_sem, *]; done)) (by first | assumption | (simp [go_sem, *]; done))
          obtain ⟨f11x2, f11x2a, f11x2b⟩ := bel_box hb11 (b := w2.heap.size) (x := .int .i64 (g)) (y := .int .i64 (h)) (by first | omega | (simp; done) | (simp; omega)) (by first | assumption | (simp [go_sem, *]; done)) (by first | assumption | (simp [go_sem, *]; done))
          obtain ⟨f11x3, f11x3a, f11x3b⟩ := bel_box hb11 (b := w2.heap.size + 1) (x := .int .i64 (i)) (y := .int .i64 (j)) (by first | omega | (simp; done) | (simp; omega)) (by first | assumption | (simp [go_sem, *]; done)) (by first | assumption | (simp [go_sem, *]; done))
          obtain ⟨f11x4, f11x4a, f11x4b⟩ := bel_box hb11 (b := w3.heap.size) (x := .int .i64 (maxI a c)) (y := .int .i64 (maxI b d)) (by first | omega | (simp; done) | (simp; omega)) (by first | assumption | (simp [go_sem, *]; done)) (by first | assumption | (simp [go_sem, *]; done))
          have hB11 : Below w.heap.size w w11 := bel_trans hB10 hb11
          have hl11 := hB11.size
          clear hl10 hB10 f10x4b f10x4a f10x4 f10x3b f10x3a f10x3 f10x2b f10x2a f10x2 f10x1b f10x1a f10x1 f10x0b f10x0a f10x0
          clear hb11
          go_wp2_with fail
          go_ret
          exact ⟨rfl, hB11⟩
        · skip
          go_wp2_with fail
          refine (HcF1.out _).mono ?_
          rintro e w6 ⟨rfl, hb6⟩
          obtain ⟨f6x0, f6x0a, f6x0b⟩ := bel_box hb6 (b := w1.heap.size) (x := .int .i64 (a)) (y := .int .i64 (b)) (by first | omega | (simp; done) | (simp; omega)) (by first | assumption | (simp [go_sem, *]; done)) (by first | assumption | (simp [go_sem, *]; done))
          obtain ⟨f6x1, f6x1a, f6x1b⟩ := bel_box hb6 (b := w1.heap.size + 1) (x := .int .i64 (c)) (y := .int .i64 (d)) (by first | omega | (simp; done) | (simp; omega)) (by first | assumption | (simp [go_sem, *]; done)) (by first | assumption | (simp [go_sem, *]; done))
          obtain ⟨f6x2, f6x2a, f6x2b⟩ := bel_box hb6 (b := w2.heap.size) (x := .int .i64 (g)) (y := .int .i64 (h)) (by first | omega | (simp; done) | (simp; omega)) (by first | assumption | (simp [go_sem, *]; done)) (by first | assumption | (simp [go_sem, *]; done))
          obtain ⟨f6x3, f6x3a, f6x3b⟩ := bel_box hb6 (b := w2.heap.size + 1) (x := .int .i64 (i)) (y := .int .i64 (j)) (by first | omega | (simp; done) | (simp; omega)) (by first | assumption | (simp [go_sem, *]; done)) (by first | assumption | (simp [go_sem, *]; done))
          obtain ⟨f6x4, f6x4a, f6x4b⟩ := bel_box hb6 (b := w3.heap.size) (x := .int .i64 (maxI a c)) (y := .int .i64 (maxI b d)) (by first | omega | (simp; done) | (simp; omega)) (by first | assumption | (simp [go_sem, *]; done)) (by first | assumption | (simp [go_sem, *]; done))
          have hB6 : Below w.heap.size w w6 := bel_trans hB5 hb6
          have hl6 := hB6.size
          clear hl5 hB5 f5x4b f5x4a f5x4 f5x3b f5x3a f5x3 f5x2b f5x2a f5x2 f5x1b f5x1a f5x1 f5x0b f5x0a f5x0
          clear hb6
          go_wp2_with fail
          refine (HcF2.out _).mono ?_
          rintro e w7 ⟨rfl, hb7⟩
          obtain ⟨f7x0, f7x0a, f7x0b⟩ := bel_box hb7 (b := w1.heap.size) (x := .int .i64 (a)) (y := .int .i64 (b)) (by first | omega | (simp; done) | (simp; omega)) (by first | assumption | (simp [go_sem, *]; done)) (by first | assumption | (simp [go_sem, *]; done))
          obtain ⟨f7x1, f7x1a, f7x1b⟩ := bel_box hb7 (b := w1.heap.size + 1) (x := .int .i64 (c)) (y := .int .i64 (d)) (by first | omega | (simp; done) | (simp; omega)) (by first | assumption | (simp [go_sem, *]; done)) (by first | assumption | (simp [go_sem, *]; done))
          obtain ⟨f7x2, f7x2a, f7x2b⟩ := bel_box hb7 (b := w2.heap.size) (x := .int .i64 (g)) (y := .int .i64 (h)) (by first | omega | (simp; done) | (simp; omega)) (by first | assumption | (simp [go_sem, *]; done)) (by first | assumption | (simp [go_sem, *]; done))
          obtain ⟨f7x3, f7x3a, f7x3b⟩ := bel_box hb7 (b := w2.heap.size + 1) (x := .int .i64 (i)) (y := .int .i64 (j)) (by first | omega | (simp; done) | (simp; omega)) (by first | assumption | (simp [go_sem, *]; done)) (by first | assumption | (simp [go_sem, *]; done))
          obtain ⟨f7x4, f7x4a, f7x4b⟩ := bel_box hb7 (b := w3.heap.size) (x := .int .i64 (maxI a c)) (y := .int .i64 (maxI b d)) (by first | omega | (simp; done) | (simp; omega)) (by first | assumption | (simp [go_sem, *]; done)) (by first | assumption | (simp [go_sem, *]; done))
          have hB7 : Below w.heap.size w w7 := bel_trans hB6 hb7
          have hl7 := hB7.size
          clear hl6 hB6 f6x4b f6x4a f6x4 f6x3b f6x3a f6x3 f6x2b f6x2a f6x2 f6x1b f6x1a f6x1 f6x0b f6x0a f6x0
          clear hb7
          go_wp2_with fail
          refine (HcN.out _).mono ?_
          rintro e w8 ⟨rfl, hb8⟩
          obtain ⟨f8x0, f8x0a, f8x0b⟩ := bel_box hb8 (b := w1.heap.size) (x := .int .i64 (a)) (y := .int .i64 (b)) (by first | omega | (simp; done) | (simp; omega)) (by first | assumption | (simp [go_sem, *]; done)) (by first | assumption | (simp [go_sem, *]; done))
          obtain ⟨f8x1, f8x1a, f8x1b⟩ := bel_box hb8 (b := w1.heap.size + 1) (x := .int .i64 (c)) (y := .int .i64 (d)) (by first | omega | (simp; done) | (simp; omega)) (by first | assumption | (simp [go_sem, *]; done)) (by first | assumption | (simp [go_sem, *]; done))
          obtain ⟨f8x2, f8x2a, f8x2b⟩ := bel_box hb8 (b := w2.heap.size) (x := .int .i64 (g)) (y := .int .i64 (h)) (by first | omega | (simp; done) | (simp; omega)) (by first | assumption | (simp [go_sem, *]; done)) (by first | assumption | (simp [go_sem, *]; done))
          obtain ⟨f8x3, f8x3a, f8x3b⟩ := bel_box hb8 (b := w2.heap.size + 1) (x := .int .i64 (i)) (y := .int .i64 (j)) (by first | omega | (simp; done) | (simp; omega)) (by first | assumption | (simp [go_sem, *]; done)) (by first | assumption | (simp [go_sem, *]; done))
          obtain ⟨f8x4, f8x4a, f8x4b⟩ := bel_box hb8 (b := w3.heap.size) (x := .int .i64 (maxI a c)) (y := .int .i64 (maxI b d)) (by first | omega | (simp; done) | (simp; omega)) (by first | assumption | (simp [go_sem, *]; done)) (by first | assumption | (simp [go_sem, *]; done))
          have hB8 : Below w.heap.size w w8 := bel_trans hB7 hb8
          have hl8 := hB8.size
          clear hl7 hB7 f7x4b f7x4a f7x4 f7x3b f7x3a f7x3 f7x2b f7x2a f7x2 f7x1b f7x1a f7x1 f7x0b f7x0a f7x0
          clear hb8
          go_wp2_with fail
          go_region_held3 (fun w' => Below w8.heap.size w8 w' ∧ w'.cell? ⟨w1.heap.size, 0, none⟩ = some (.int .i64 (a)) ∧ w'.cell? ⟨w1.heap.size, 1, none⟩ = some (.int .i64 (b)) ∧ w'.cell? ⟨w2.heap.size, 0, none⟩ = some (.int .i64 (g)) ∧ w'.cell? ⟨w2.heap.size, 1, none⟩ = some (.int .i64 (h)) ∧ w'.cell? ⟨w2.heap.size + 1, 0, none⟩ = some (.int .i64 (i)) ∧ w'.cell? ⟨w2.heap.size + 1, 1, none⟩ = some (.int .i64 (j)))
            (first | (exact ⟨Below.drew (Below.refl _ _), f8x0a, f8x0b, f8x2a, f8x2b, f8x3a, f8x3b⟩) | (refine keepR f8x0 f8x2 f8x3 (by assumption) ?_; assumption))
            (first | (go_at_call 16; refine (HcQ.out _).mono ?_; rintro e wr ⟨rfl, hbr⟩) | (go_at_call 18; refine (HcK.out _).mono ?_; rintro e wr ⟨rfl, hbr⟩))
          rename_i hh
          have hb9 := hh.1
          clear hh
          obtain ⟨f9x0, f9x0a, f9x0b⟩ := bel_box hb9 (b := w1.heap.size) (x := .int .i64 (a)) (y := .int .i64 (b)) (by first | omega | (simp; done) | (simp; omega)) (by first | assumption | (simp [go_sem, *]; done)) (by first | assumption | (simp [go_sem, *]; done))
          obtain ⟨f9x1, f9x1a, f9x1b⟩ := bel_box hb9 (b := w1.heap.size + 1) (x := .int .i64 (c)) (y := .int .i64 (d)) (by first | omega | (simp; done) | (simp; omega)) (by first | assumption | (simp [go_sem, *]; done)) (by first | assumption | (simp [go_sem, *]; done))
          obtain ⟨f9x2, f9x2a, f9x2b⟩ := bel_box hb9 (b := w2.heap.size) (x := .int .i64 (g)) (y := .int .i64 (h)) (by first | omega | (simp; done) | (simp; omega)) (by first | assumption | (simp [go_sem, *]; done)) (by first | assumption | (simp [go_sem, *]; done))
          obtain ⟨f9x3, f9x3a, f9x3b⟩ := bel_box hb9 (b := w2.heap.size + 1) (x := .int .i64 (i)) (y := .int .i64 (j)) (by first | omega | (simp; done) | (simp; omega)) (by first | assumption | (simp [go_sem, *]; done)) (by first | assumption | (simp [go_sem, *]; done))
          obtain ⟨f9x4, f9x4a, f9x4b⟩ := bel_box hb9 (b := w3.heap.size) (x := .int .i64 (maxI a c)) (y := .int .i64 (maxI b d)) (by first | omega | (simp; done) | (simp; omega)) (by first | assumption | (simp [go_sem, *]; done)) (by first | assumption | (simp [go_sem, *]; done))
          have hB9 : Below w.heap.size w wr := bel_trans hB8 hb9
          have hl9 := hB9.size
          clear hl8 hB8 f8x4b f8x4a f8x4 f8x3b f8x3a f8x3 f8x2b f8x2a f8x2 f8x1b f8x1a f8x1 f8x0b f8x0a f8x0
          clear hb9
          go_wp2_with fail
          refine (HcNs.out _).mono ?_
          rintro e w10 ⟨rfl, hb10⟩
          obtain ⟨f10x0, f10x0a, f10x0b⟩ := bel_box hb10 (b := w1.heap.size) (x := .int .i64 (a)) (y := .int .i64 (b)) (by first | omega | (simp; done) | (simp; omega)) (by first | assumption | (simp [go_sem, *]; done)) (by first | assumption | (simp [go_sem, *]; done))
          obtain ⟨f10x1, f10x1a, f10x1b⟩ := bel_box hb10 (b := w1.heap.size + 1) (x := .int .i64 (c)) (y := .int .i64 (d)) (by first | omega | (simp; done) | (simp; omega)) (by first | assumption | (simp [go_sem, *]; done)) (by first | assumption | (simp [go_sem, *]; done))
          obtain ⟨f10x2, f10x2a, f10x2b⟩ := bel_box hb10 (b := w2.heap.size) (x := .int .i64 (g)) (y := .int .i64 (h)) (by first | omega | (simp; done) | (simp; omega)) (by first | assumption | (simp [go_sem, *]; done)) (by first | assumption | (simp [go_sem, *]; done))
          obtain ⟨f10x3, f10x3a, f10x3b⟩ := bel_box hb10 (b := w2.heap.size + 1) (x := .int .i64 (i)) (y := .int .i64 (j)) (by first | omega | (simp; done) | (simp; omega)) (by first | assumption | (simp [go_sem, *]; done)) (by first | assumption | (simp [go_sem, *]; done))
          obtain ⟨f10x4, f10x4a, f10x4b⟩ := bel_box hb10 (b := w3.heap.size) (x := .int .i64 (maxI a c)) (y := .int .i64 (maxI b d)) (by first | omega | (simp; done) | (simp; omega)) (by first | assumption | (simp [go_sem, *]; done)) (by first | assumption | (simp [go_sem, *]; done))
          have hB10 : Below w.heap.size w w10 := bel_trans hB9 hb10
          have hl10 := hB10.size
          clear hl9 hB9 f9x4b f9x4a f9x4 f9x3b f9x3a f9x3 f9x2b f9x2a f9x2 f9x1b f9x1a f9x1 f9x0b f9x0a f9x0
          clear hb10
          go_wp2_with fail
          refine (HcO1.out _).mono ?_
          rintro e w11 ⟨rfl, hb11⟩
          obtain ⟨f11x0, f11x0a, f11x0b⟩ := bel_box hb11 (b := w1.heap.size) (x := .int .i64 (a)) (y := .int .i64 (b)) (by first | omega | (simp; done) | (simp; omega)) (by first | assumption | (simp [go_sem, *]; done)) (by first | assumption | (simp [go_sem, *]; done))
          obtain ⟨f11x1, f11x1a, f11x1b⟩ := bel_box hb11 (b := w1.heap.size + 1) (x := .int .i64 (c)) (y := .int .i64 (d)) (by first | omega | (simp; done) | (simp; omega)) (by first | assumption | (simp [go_sem, *]; done)) (by first | assumption | (simp [go_sem, *]; done))
          obtain ⟨f11x2, f11x2a, f11x2b⟩ := bel_box hb11 (b := w2.heap.size) (x := .int .i64 (g)) (y := .int .i64 (h)) (by first | omega | (simp; done) | (simp; omega)) (by first | assumption | (simp [go_sem, *]; done)) (by first | assumption | (simp [go_sem, *]; done))
          obtain ⟨f11x3, f11x3a, f11x3b⟩ := bel_box hb11 (b := w2.heap.size + 1) (x := .int .i64 (i)) (y := .int .i64 (j)) (by first | omega | (simp; done) | (simp; omega)) (by first | assumption | (simp [go_sem, *]; done)) (by first | assumption | (simp [go_sem, *]; done))
          obtain ⟨f11x4, f11x4a, f11x4b⟩ := bel_box hb11 (b := w3.heap.size) (x := .int .i64 (maxI a c)) (y := .int .i64 (maxI b d)) (by first | omega | (simp; done) | (simp; omega)) (by first | assumption | (simp [go_sem, *]; done)) (by first | assumption | (simp [go_sem, *]; done))
          have hB11 : Below w.heap.size w w11 := bel_trans hB10 hb11
          have hl11 := hB11.size
          clear hl10 hB10 f10x4b f10x4a f10x4 f10x3b f10x3a f10x3 f10x2b f10x2a f10x2 f10x1b f10x1a f10x1 f10x0b f10x0a f10x0
          clear hb11
          go_wp2_with fail
          refine (HcO2.out _).mono ?_
          rintro e w12 ⟨rfl, hb12⟩
          obtain ⟨f12x0, f12x0a, f12x0b⟩ := bel_box hb12 (b := w1.heap.size) (x := .int .i64 (a)) (y := .int .i64 (b)) (by first | omega | (simp; done) | (simp; omega)) (by first | assumption | (simp [go_sem, *]; done)) (by first | assumption | (simp [go_sem, *]; done))
          obtain ⟨f12x1, f12x1a, f12x1b⟩ := bel_box hb12 (b := w1.heap.size + 1) (x := .int .i64 (c)) (y := .int .i64 (d)) (by first | omega | (simp; done) | (simp; omega)) (by first | assumption | (simp [go_sem, *]; done)) (by first | assumption | (simp [go_sem, *]; done))
          obtain ⟨f12x2, f12x2a, f12x2b⟩ := bel_box hb12 (b := w2.heap.size) (x := .int .i64 (g)) (y := .int .i64 (h)) (by first | omega | (simp; done) | (simp; omega)) (by first | assumption | (simp [go_sem, *]; done)) (by first | assumption | (simp [go_sem, *]; done))
          obtain ⟨f12x3, f12x3a, f12x3b⟩ := bel_box hb12 (b := w2.heap.size + 1) (x := .int .i64 (i)) (y := .int .i64 (j)) (by first | omega | (simp; done) | (simp; omega)) (by first | assumption | (simp [go_sem, *]; done)) (by first | assumption | (simp [go_sem, *]; done))
          obtain ⟨f12x4, f12x4a, f12x4b⟩ := bel_box hb12 (b := w3.heap.size) (x := .int .i64 (maxI a c)) (y := .int .i64 (maxI b d)) (by first | omega | (simp; done) | (simp; omega)) (by first | assumption | (simp [go_sem, *]; done)) (by first | assumption | (simp [go_sem, *]; done))
          have hB12 : Below w.heap.size w w12 := bel_trans hB11 hb12
          have hl12 := hB12.size
          clear hl11 hB11 f11x4b f11x4a f11x4 f11x3b f11x3a f11x3 f11x2b f11x2a f11x2 f11x1b f11x1a f11x1 f11x0b f11x0a f11x0
          clear hb12
          go_wp2_with fail
          go_ret
          exact ⟨rfl, hB12⟩
        · skip
          go_wp2_with fail
          refine (HcF1.out _).mono ?_
          rintro e w6 ⟨rfl, hb6⟩
          obtain ⟨f6x0, f6x0a, f6x0b⟩ := bel_box hb6 (b := w1.heap.size) (x := .int .i64 (a)) (y := .int .i64 (b)) (by first | omega | (simp; done) | (simp; omega)) (by first | assumption | (simp [go_sem, *]; done)) (by first | assumption | (simp [go_sem, *]; done))
          obtain ⟨f6x1, f6x1a, f6x1b⟩ := bel_box hb6 (b := w1.heap.size + 1) (x := .int .i64 (c)) (y := .int .i64 (d)) (by first | omega | (simp; done) | (simp; omega)) (by first | assumption | (simp [go_sem, *]; done)) (by first | assumption | (simp [go_sem, *]; done))
          obtain ⟨f6x2, f6x2a, f6x2b⟩ := bel_box hb6 (b := w2.heap.size) (x := .int .i64 (g)) (y := .int .i64 (h)) (by first | omega | (simp; done) | (simp; omega)) (by first | assumption | (simp [go_sem, *]; done)) (by first | assumption | (simp [go_sem, *]; done))
          obtain ⟨f6x3, f6x3a, f6x3b⟩ := bel_box hb6 (b := w2.heap.size + 1) (x := .int .i64 (i)) (y := .int .i64 (j)) (by first | omega | (simp; done) | (simp; omega)) (by first | assumption | (simp [go_sem, *]; done)) (by first | assumption | (simp [go_sem, *]; done))
          obtain ⟨f6x4, f6x4a, f6x4b⟩ := bel_box hb6 (b := w3.heap.size) (x := .int .i64 (maxI a c)) (y := .int .i64 (maxI b d)) (by first | omega | (simp; done) | (simp; omega)) (by first | assumption | (simp [go_sem, *]; done)) (by first | assumption | (simp [go_sem, *]; done))
          have hB6 : Below w.heap.size w w6 := bel_trans hB5 hb6
          have hl6 := hB6.size
          clear hl5 hB5 f5x4b f5x4a f5x4 f5x3b f5x3a f5x3 f5x2b f5x2a f5x2 f5x1b f5x1a f5x1 f5x0b f5x0a f5x0
          clear hb6
          go_wp2_with fail
          refine (HcF2.out _).mono ?_
          rintro e w7 ⟨rfl, hb7⟩
          obtain ⟨f7x0, f7x0a, f7x0b⟩ := bel_box hb7 (b := w1.heap.size) (x := .int .i64 (a)) (y := .int .i64 (b)) (by first | omega | (simp; done) | (simp; omega)) (by first | assumption | (simp [go_sem, *]; done)) (by first | assumption | (simp [go_sem, *]; done))
          obtain ⟨f7x1, f7x1a, f7x1b⟩ := bel_box hb7 (b := w1.heap.size + 1) (x := .int .i64 (c)) (y := .int .i64 (d)) (by first | omega | (simp; done) | (simp; omega)) (by first | assumption | (simp [go_sem, *]; done)) (by first | assumption | (simp [go_sem, *]; done))
          obtain ⟨f7x2, f7x2a, f7x2b⟩ := bel_box hb7 (b := w2.heap.size) (x := .int .i64 (g)) (y := .int .i64 (h)) (by first | omega | (simp; done) | (simp; omega)) (by first | assumption | (simp [go_sem, *]; done)) (by first | assumption | (simp [go_sem, *]; done))
          obtain ⟨f7x3, f7x3a, f7x3b⟩ := bel_box hb7 (b := w2.heap.size + 1) (x := .int .i64 (i)) (y := .int .i64 (j)) (by first | omega | (simp; done) | (simp; omega)) (by first | assumption | (simp [go_sem, *]; done)) (by first | assumption | (simp [go_sem, *]; done))
          obtain ⟨f7x4, f7x4a, f7x4b⟩ := bel_box hb7 (b := w3.heap.size) (x := .int .i64 (maxI a c)) (y := .int .i64 (maxI b d)) (by first | omega | (simp; done) | (simp; omega)) (by first | assumption | (simp [go_sem, *]; done)) (by first | assumption | (simp [go_sem, *]; done))
          have hB7 : Below w.heap.size w w7 := bel_trans hB6 hb7
          have hl7 := hB7.size
          clear hl6 hB6 f6x4b f6x4a f6x4 f6x3b f6x3a f6x3 f6x2b f6x2a f6x2 f6x1b f6x1a f6x1 f6x0b f6x0a f6x0
          clear hb7
          go_wp2_with fail
          refine (HcF3.out _).mono ?_
          rintro e w8 ⟨rfl, hb8⟩
          obtain ⟨f8x0, f8x0a, f8x0b⟩ := bel_box hb8 (b := w1.heap.size) (x := .int .i64 (a)) (y := .int .i64 (b)) (by first | omega | (simp; done) | (simp; omega)) (by first | assumption | (simp [go_sem, *]; done)) (by first | assumption | (simp [go_sem, *]; done))
          obtain ⟨f8x1, f8x1a, f8x1b⟩ := bel_box hb8 (b := w1.heap.size + 1) (x := .int .i64 (c)) (y := .int .i64 (d)) (by first | omega | (simp; done) | (simp; omega)) (by first | assumption | (simp [go_sem, *]; done)) (by first | assumption | (simp [go_sem, *]; done))
          obtain ⟨f8x2, f8x2a, f8x2b⟩ := bel_box hb8 (b := w2.heap.size) (x := .int .i64 (g)) (y := .int .i64 (h)) (by first | omega | (simp; done) | (simp; omega)) (by first | assumption | (simp [go_sem, *]; done)) (by first | assumption | (simp [go_sem, *]; done))
          obtain ⟨f8x3, f8x3a, f8x3b⟩ := bel_box hb8 (b := w2.heap.size + 1) (x := .int .i64 (i)) (y := .int .i64 (j)) (by first | omega | (simp; done) | (simp; omega)) (by first | assumption | (simp [go_sem, *]; done)) (by first | assumption | (simp [go_sem, *]; done))
          obtain ⟨f8x4, f8x4a, f8x4b⟩ := bel_box hb8 (b := w3.heap.size) (x := .int .i64 (maxI a c)) (y := .int .i64 (maxI b d)) (by first | omega | (simp; done) | (simp; omega)) (by first | assumption | (simp [go_sem, *]; done)) (by first | assumption | (simp [go_sem, *]; done))
          have hB8 : Below w.heap.size w w8 := bel_trans hB7 hb8
          have hl8 := hB8.size
          clear hl7 hB7 f7x4b f7x4a f7x4 f7x3b f7x3a f7x3 f7x2b f7x2a f7x2 f7x1b f7x1a f7x1 f7x0b f7x0a f7x0
          clear hb8
          go_wp2_with fail
          refine (HcN.out _).mono ?_
          rintro e w9 ⟨rfl, hb9⟩
          obtain ⟨f9x0, f9x0a, f9x0b⟩ := bel_box hb9 (b := w1.heap.size) (x := .int .i64 (a)) (y := .int .i64 (b)) (by first | omega | (simp; done) | (simp; omega)) (by first | assumption | (simp [go_sem, *]; done)) (by first | assumption | (simp [go_sem, *]; done))
          obtain ⟨f9x1, f9x1a, f9x1b⟩ := bel_box hb9 (b := w1.heap.size + 1) (x := .int .i64 (c)) (y := .int .i64 (d)) (by first | omega | (simp; done) | (simp; omega)) (by first | assumption | (simp [go_sem, *]; done)) (by first | assumption | (simp [go_sem, *]; done))
          obtain ⟨f9x2, f9x2a, f9x2b⟩ := bel_box hb9 (b := w2.heap.size) (x := .int .i64 (g)) (y := .int .i64 (h)) (by first | omega | (simp; done) | (simp; omega)) (by first | assumption | (simp [go_sem, *]; done)) (by first | assumption | (simp [go_sem, *]; done))
          obtain ⟨f9x3, f9x3a, f9x3b⟩ := bel_box hb9 (b := w2.heap.size + 1) (x := .int .i64 (i)) (y := .int .i64 (j)) (by first | omega | (simp; done) | (simp; omega)) (by first | assumption | (simp [go_sem, *]; done)) (by first | assumption | (simp [go_sem, *]; done))
          obtain ⟨f9x4, f9x4a, f9x4b⟩ := bel_box hb9 (b := w3.heap.size) (x := .int .i64 (maxI a c)) (y := .int .i64 (maxI b d)) (by first | omega | (simp; done) | (simp; omega)) (by first | assumption | (simp [go_sem, *]; done)) (by first | assumption | (simp [go_sem, *]; done))
          have hB9 : Below w.heap.size w w9 := bel_trans hB8 hb9
          have hl9 := hB9.size
          clear hl8 hB8 f8x4b f8x4a f8x4 f8x3b f8x3a f8x3 f8x2b f8x2a f8x2 f8x1b f8x1a f8x1 f8x0b f8x0a f8x0
          clear hb9
          go_wp2_with fail
          go_region_held3 (fun w' => Below w9.heap.size w9 w' ∧ w'.cell? ⟨w1.heap.size, 0, none⟩ = some (.int .i64 (a)) ∧ w'.cell? ⟨w1.heap.size, 1, none⟩ = some (.int .i64 (b)) ∧ w'.cell? ⟨w2.heap.size, 0, none⟩ = some (.int .i64 (g)) ∧ w'.cell? ⟨w2.heap.size, 1, none⟩ = some (.int .i64 (h)) ∧ w'.cell? ⟨w2.heap.size + 1, 0, none⟩ = some (.int .i64 (i)) ∧ w'.cell? ⟨w2.heap.size + 1, 1, none⟩ = some (.int .i64 (j)))
            (first | (exact ⟨Below.drew (Below.refl _ _), f9x0a, f9x0b, f9x2a, f9x2b, f9x3a, f9x3b⟩) | (refine keepR f9x0 f9x2 f9x3 (by assumption) ?_; assumption))
            (first | (go_at_call 16; refine (HcQ.out _).mono ?_; rintro e wr ⟨rfl, hbr⟩) | (go_at_call 18; refine (HcK.out _).mono ?_; rintro e wr ⟨rfl, hbr⟩))
          rename_i hh
          have hb10 := hh.1
          clear hh
          obtain ⟨f10x0, f10x0a, f10x0b⟩ := bel_box hb10 (b := w1.heap.size) (x := .int .i64 (a)) (y := .int .i64 (b)) (by first | omega | (simp; done) | (simp; omega)) (by first | assumption | (simp [go_sem, *]; done)) (by first | assumption | (simp [go_sem, *]; done))
          obtain ⟨f10x1, f10x1a, f10x1b⟩ := bel_box hb10 (b := w1.heap.size + 1) (x := .int .i64 (c)) (y := .int .i64 (d)) (by first | omega | (simp; done) | (simp; omega)) (by first | assumption | (simp [go_sem, *]; done)) (by first | assumption | (simp [go_sem, *]; done))
          obtain ⟨f10x2, f10x2a, f10x2b⟩ := bel_box hb10 (b := w2.heap.size) (x := .int .i64 (g)) (y := .int .i64 (h)) (by first | omega | (simp; done) | (simp; omega)) (by first | assumption | (simp [go_sem, *]; done)) (by first | assumption | (simp [go_sem, *]; done))
          obtain ⟨f10x3, f10x3a, f10x3b⟩ := bel_box hb10 (b := w2.heap.size + 1) (x := .int .i64 (i)) (y := .int .i64 (j)) (by first | omega | (simp; done) | (simp; omega)) (by first | assumption | (simp [go_sem, *]; done)) (by first | assumption | (simp [go_sem, *]; done))
          obtain ⟨f10x4, f10x4a, f10x4b⟩ := bel_box hb10 (b := w3.heap.size) (x := .int .i64 (maxI a c)) (y := .int .i64 (maxI b d)) (by first | omega | (simp; done) | (simp; omega)) (by first | assumption | (simp [go_sem, *]; done)) (by first | assumption | (simp [go_sem, *]; done))
          have hB10 : Below w.heap.size w wr := bel_trans hB9 hb10
          have hl10 := hB10.size
          clear hl9 hB9 f9x4b f9x4a f9x4 f9x3b f9x3a f9x3 f9x2b f9x2a f9x2 f9x1b f9x1a f9x1 f9x0b f9x0a f9x0
          clear hb10
          go_wp2_with fail
          refine (HcNs.out _).mono ?_
          rintro e w11 ⟨rfl, hb11⟩
          obtain ⟨f11x0, f11x0a, f11x0b⟩ := bel_box hb11 (b := w1.heap.size) (x := .int .i64 (a)) (y := .int .i64 (b)) (by first | omega | (simp; done) | (simp; omega)) (by first | assumption | (simp [go_sem, *]; done)) (by first | assumption | (simp [go_sem, *]; done))
          obtain ⟨f11x1, f11x1a, f11x1b⟩ := bel_box hb11 (b := w1.heap.size + 1) (x := .int .i64 (c)) (y := .int .i64 (d)) (by first | omega | (simp; done) | (simp; omega)) (by first | assumption | (simp [go_sem, *]; done)) (by first | assumption | (simp [go_sem, *]; done))
          obtain ⟨f11x2, f11x2a, f11x2b⟩ := bel_box hb11 (b := w2.heap.size) (x := .int .i64 (g)) (y := .int .i64 (h)) (by first | omega | (simp; done) | (simp; omega)) (by first | assumption | (simp [go_sem, *]; done)) (by first | assumption | (simp [go_sem, *]; done))
          obtain ⟨f11x3, f11x3a, f11x3b⟩ := bel_box hb11 (b := w2.heap.size + 1) (x := .int .i64 (i)) (y := .int .i64 (j)) (by first | omega | (simp; done) | (simp; omega)) (by first | assumption | (simp [go_sem, *]; done)) (by first | assumption | (simp [go_sem, *]; done))
          obtain ⟨f11x4, f11x4a, f11x4b⟩ := bel_box hb11 (b := w3.heap.size) (x := .int .i64 (maxI a c)) (y := .int .i64 (maxI b d)) (by first | omega | (simp; done) | (simp; omega)) (by first | assumption | (simp [go_sem, *]; done)) (by first | assumption | (simp [go_sem, *]; done))
          have hB11 : Below w.heap.size w w11 := bel_trans hB10 hb11
          have hl11 := hB11.size
          clear hl10 hB10 f10x4b f10x4a f10x4 f10x3b f10x3a f10x3 f10x2b f10x2a f10x2 f10x1b f10x1a f10x1 f10x0b f10x0a f10x0
          clear hb11
          go_wp2_with fail
          refine (HcO1.out _).mono ?_
          rintro e w12 ⟨rfl, hb12⟩
          obtain ⟨f12x0, f12x0a, f12x0b⟩ := bel_box hb12 (b := w1.heap.size) (x := .int .i64 (a)) (y := .int .i64 (b)) (by first | omega | (simp; done) | (simp; omega)) (by first | assumption | (simp [go_sem, *]; done)) (by first | assumption | (simp [go_sem, *]; done))
          obtain ⟨f12x1, f12x1a, f12x1b⟩ := bel_box hb12 (b := w1.heap.size + 1) (x := .int .i64 (c)) (y := .int .i64 (d)) (by first | omega | (simp; done) | (simp; omega)) (by first | assumption | (simp [go_sem, *]; done)) (by first | assumption | (simp [go_sem, *]; done))
          obtain ⟨f12x2, f12x2a, f12x2b⟩ := bel_box hb12 (b := w2.heap.size) (x := .int .i64 (g)) (y := .int .i64 (h)) (by first | omega | (simp; done) | (simp; omega)) (by first | assumption | (simp [go_sem, *]; done)) (by first | assumption | (simp [go_sem, *]; done))
          obtain ⟨f12x3, f12x3a, f12x3b⟩ := bel_box hb12 (b := w2.heap.size + 1) (x := .int .i64 (i)) (y := .int .i64 (j)) (by first | omega | (simp; done) | (simp; omega)) (by first | assumption | (simp [go_sem, *]; done)) (by first | assumption | (simp [go_sem, *]; done))
          obtain ⟨f12x4, f12x4a, f12x4b⟩ := bel_box hb12 (b := w3.heap.size) (x := .int .i64 (maxI a c)) (y := .int .i64 (maxI b d)) (by first | omega | (simp; done) | (simp; omega)) (by first | assumption | (simp [go_sem, *]; done)) (by first | assumption | (simp [go_sem, *]; done))
          have hB12 : Below w.heap.size w w12 := bel_trans hB11 hb12
          have hl12 := hB12.size
          clear hl11 hB11 f11x4b f11x4a f11x4 f11x3b f11x3a f11x3 f11x2b f11x2a f11x2 f11x1b f11x1a f11x1 f11x0b f11x0a f11x0
          clear hb12
          go_wp2_with fail
          refine (HcO2.out _).mono ?_
          rintro e w13 ⟨rfl, hb13⟩
          obtain ⟨f13x0, f13x0a, f13x0b⟩ := bel_box hb13 (b := w1.heap.size) (x := .int .i64 (a)) (y := .int .i64 (b)) (by first | omega | (simp; done) | (simp; omega)) (by first | assumption | (simp [go_sem, *]; done)) (by first | assumption | (simp [go_sem, *]; done))
          obtain ⟨f13x1, f13x1a, f13x1b⟩ := bel_box hb13 (b := w1.heap.size + 1) (x := .int .i64 (c)) (y := .int .i64 (d)) (by first | omega | (simp; done) | (simp; omega)) (by first | assumption | (simp [go_sem, *]; done)) (by first | assumption | (simp [go_sem, *]; done))
          obtain ⟨f13x2, f13x2a, f13x2b⟩ := bel_box hb13 (b := w2.heap.size) (x := .int .i64 (g)) (y := .int .i64 (h)) (by first | omega | (simp; done) | (simp; omega)) (by first | assumption | (simp [go_sem, *]; done)) (by first | assumption | (simp [go_sem, *]; done))
          obtain ⟨f13x3, f13x3a, f13x3b⟩ := bel_box hb13 (b := w2.heap.size + 1) (x := .int .i64 (i)) (y := .int .i64 (j)) (by first | omega | (simp; done) | (simp; omega)) (by first | assumption | (simp [go_sem, *]; done)) (by first | assumption | (simp [go_sem, *]; done))
          obtain ⟨f13x4, f13x4a, f13x4b⟩ := bel_box hb13 (b := w3.heap.size) (x := .int .i64 (maxI a c)) (y := .int .i64 (maxI b d)) (by first | omega | (simp; done) | (simp; omega)) (by first | assumption | (simp [go_sem, *]; done)) (by first | assumption | (simp [go_sem, *]; done))
          have hB13 : Below w.heap.size w w13 := bel_trans hB12 hb13
          have hl13 := hB13.size
          clear hl12 hB12 f12x4b f12x4a f12x4 f12x3b f12x3a f12x3 f12x2b f12x2a f12x2 f12x1b f12x1a f12x1 f12x0b f12x0a f12x0
          clear hb13
          go_wp2_with fail
          go_ret
          exact ⟨rfl, hB13⟩
      · by_cases hg : g = 0
        · subst hg
          by_cases hh : h = 0
          · subst hh
            have cM : ∀ w, Calls Try.prog 16 #[.agg #[.int .i64 (a), .int .i64 (b)], .agg #[.int .i64 (c), .int .i64 (d)]] w fun e w' => e = .returned (.agg #[.int .i64 (maxI a c), .int .i64 (maxI b d)]) ∧ Below w.heap.size w w' := implMost_any a b c d
            have cMs : ∀ w, Calls Try.prog 23 #[.agg #[.int .i64 (a), .int .i64 (b)], .agg #[.int .i64 (c), .int .i64 (d)]] w fun e w' => e = .returned (.agg #[.int .i64 (maxI a c), .int .i64 (maxI b d)]) ∧ Below w.heap.size w w' := specMost_any a b c d
            have cM2 : ∀ w, Calls Try.prog 16 #[.agg #[.int .i64 (c), .int .i64 (d)], .agg #[.int .i64 (a), .int .i64 (b)]] w fun e w' => e = .returned (.agg #[.int .i64 (maxI a c), .int .i64 (maxI b d)]) ∧ Below w.heap.size w w' := fun w => by have := implMost_any c d a b w; rwa [maxI_comm a c, maxI_comm b d] at this
            have cM3 : ∀ w, Calls Try.prog 16 #[.agg #[.int .i64 (a), .int .i64 (b)], .agg #[.int .i64 (a), .int .i64 (b)]] w fun e w' => e = .returned (.agg #[.int .i64 (a), .int .i64 (b)]) ∧ Below w.heap.size w w' := fun w => by have := implMost_any a b a b w; rwa [maxI_self a, maxI_self b] at this
            have cM4 : ∀ w, Calls Try.prog 16 #[.agg #[.int .i64 (maxI a c), .int .i64 (maxI b d)], .agg #[.int .i64 (a), .int .i64 (b)]] w fun e w' => e = .returned (.agg #[.int .i64 (maxI a c), .int .i64 (maxI b d)]) ∧ Below w.heap.size w w' := fun w => by have := implMost_any (maxI a c) (maxI b d) a b w; rwa [maxI_again a c, maxI_again b d] at this
            have cF1 : ∀ w, Calls Try.prog 17 #[.agg #[.int .i64 (a), .int .i64 (b)], .agg #[.int .i64 (c), .int .i64 (d)]] w fun e w' => e = .returned (.bool (fitB a b c d)) ∧ Below w.heap.size w w' := implFits_any a b c d
            have cF2 : ∀ w, Calls Try.prog 17 #[.agg #[.int .i64 (c), .int .i64 (d)], .agg #[.int .i64 (0), .int .i64 (0)]] w fun e w' => e = .returned (.bool (fitB c d 0 0)) ∧ Below w.heap.size w w' := implFits_any c d 0 0
            have cF3 : ∀ w, Calls Try.prog 17 #[.agg #[.int .i64 (a), .int .i64 (b)], .agg #[.int .i64 (0), .int .i64 (0)]] w fun e w' => e = .returned (.bool (fitB a b 0 0)) ∧ Below w.heap.size w w' := implFits_any a b 0 0
            have cN : ∀ w, Calls Try.prog 18 #[.agg #[.int .i64 (0), .int .i64 (0)], .agg #[.int .i64 (i), .int .i64 (j)]] w fun e w' => e = .returned (.int .i64 (slotsI 0 0 i j)) ∧ Below w.heap.size w w' := implSlots_any 0 0 i j
            have cNs : ∀ w, Calls Try.prog 19 #[.agg #[.int .i64 (0), .int .i64 (0)], .agg #[.int .i64 (i), .int .i64 (j)]] w fun e w' => e = .returned (.int .i64 (slotsI 0 0 i j)) ∧ Below w.heap.size w w' := specSlots_any 0 0 i j
            have cQ : ∀ w, Calls Try.prog 16 #[.agg #[.int .i64 (a), .int .i64 (b)], .agg #[.int .i64 (0), .int .i64 (0)]] w fun e w' => e = .returned (.agg #[.int .i64 (maxI a 0), .int .i64 (maxI b 0)]) ∧ Below w.heap.size w w' := implMost_any a b 0 0
            have cK : ∀ w, Calls Try.prog 18 #[.agg #[.int .i64 (maxI a 0), .int .i64 (maxI b 0)], .agg #[.int .i64 (i), .int .i64 (j)]] w fun e w' => e = .returned (.int .i64 (slotsI (maxI a 0) (maxI b 0) i j)) ∧ Below w.heap.size w w' := implSlots_any (maxI a 0) (maxI b 0) i j
            have cO1 : ∀ w, Calls Try.prog 20 #[.agg #[.int .i64 (a), .int .i64 (b)]] w fun e w' => e = .returned (.bool true) ∧ Below w.heap.size w w' := fun w => by have := specOk_any a b w; rwa [h1] at this
            have cO2 : ∀ w, Calls Try.prog 20 #[.agg #[.int .i64 (0), .int .i64 (0)]] w fun e w' => e = .returned (.bool true) ∧ Below w.heap.size w w' := fun w => by have := specOk_any 0 0 w; rwa [h2] at this
            have hF : (fitB a b c d = false) ∨ (fitB a b c d = true ∧ fitB c d 0 0 = false) ∨ (fitB a b c d = true ∧ fitB c d 0 0 = true ∧ fitB a b 0 0 = true) := by
              cases x1 : fitB a b c d
              · exact .inl rfl
              · cases x2 : fitB c d 0 0
                · exact .inr (.inl ⟨rfl, rfl⟩)
                · exact .inr (.inr ⟨rfl, rfl, fit_iff.2 (by have := fit_iff.1 x1; have := fit_iff.1 x2; omega)⟩)
            have HcM := hidden cM; clear cM
            have HcMs := hidden cMs; clear cMs
            have HcM2 := hidden cM2; clear cM2
            have HcM3 := hidden cM3; clear cM3
            have HcM4 := hidden cM4; clear cM4
            have HcF1 := hidden cF1; clear cF1
            have HcF2 := hidden cF2; clear cF2
            have HcF3 := hidden cF3; clear cF3
            have HcN := hidden cN; clear cN
            have HcNs := hidden cNs; clear cNs
            have HcQ := hidden cQ; clear cQ
            have HcK := hidden cK; clear cK
            have HcO1 := hidden cO1; clear cO1
            have HcO2 := hidden cO2; clear cO2
            clear h1 h2
            go_wp2_with fail
            refine (HcM.out _).mono ?_
            rintro e w3 ⟨rfl, hb3⟩
            obtain ⟨f3x0, f3x0a, f3x0b⟩ := bel_box hb3 (b := w1.heap.size) (x := .int .i64 (a)) (y := .int .i64 (b)) (by first | omega | (simp; done) | (simp; omega)) (by first | assumption | (simp [go_sem, *]; done)) (by first | assumption | (simp [go_sem, *]; done))
            obtain ⟨f3x1, f3x1a, f3x1b⟩ := bel_box hb3 (b := w1.heap.size + 1) (x := .int .i64 (c)) (y := .int .i64 (d)) (by first | omega | (simp; done) | (simp; omega)) (by first | assumption | (simp [go_sem, *]; done)) (by first | assumption | (simp [go_sem, *]; done))
            obtain ⟨f3x2, f3x2a, f3x2b⟩ := bel_box hb3 (b := w2.heap.size) (x := .int .i64 (0)) (y := .int .i64 (0)) (by first | omega | (simp; done) | (simp; omega)) (by first | assumption | (simp [go_sem, *]; done)) (by first | assumption | (simp [go_sem, *]; done))
            obtain ⟨f3x3, f3x3a, f3x3b⟩ := bel_box hb3 (b := w2.heap.size + 1) (x := .int .i64 (i)) (y := .int .i64 (j)) (by first | omega | (simp; done) | (simp; omega)) (by first | assumption | (simp [go_sem, *]; done)) (by first | assumption | (simp [go_sem, *]; done))
            have hB3 : Below w.heap.size w w3 := bel_trans ((hB2.alloc (by first | omega | (simp; done) | (simp; omega)) _).alloc (by first | omega | (simp; done) | (simp; omega)) _) hb3
            have hl3 := hB3.size
            clear hl2 hB2 f2x1b f2x1a f2x1 f2x0b f2x0a f2x0
            clear hb3
            go_wp2_with fail
            obtain ⟨w4, hw4⟩ : ∃ x, x = (w3.alloc (.cells #[.int .i64 (maxI a c), .int .i64 (maxI b d)] 24)) := ⟨_, rfl⟩
            have hb4 : Below ((w3.alloc (.cells #[.int .i64 (maxI a c), .int .i64 (maxI b d)] 24))).heap.size ((w3.alloc (.cells #[.int .i64 (maxI a c), .int .i64 (maxI b d)] 24))) w4 := by rw [hw4]; exact Below.refl _ _
            obtain ⟨f4x0, f4x0a, f4x0b⟩ := bel_box hb4 (b := w1.heap.size) (x := .int .i64 (a)) (y := .int .i64 (b)) (by first | omega | (simp; done) | (simp; omega)) (by first | assumption | (simp [go_sem, *]; done)) (by first | assumption | (simp [go_sem, *]; done))
            obtain ⟨f4x1, f4x1a, f4x1b⟩ := bel_box hb4 (b := w1.heap.size + 1) (x := .int .i64 (c)) (y := .int .i64 (d)) (by first | omega | (simp; done) | (simp; omega)) (by first | assumption | (simp [go_sem, *]; done)) (by first | assumption | (simp [go_sem, *]; done))
            obtain ⟨f4x2, f4x2a, f4x2b⟩ := bel_box hb4 (b := w2.heap.size) (x := .int .i64 (0)) (y := .int .i64 (0)) (by first | omega | (simp; done) | (simp; omega)) (by first | assumption | (simp [go_sem, *]; done)) (by first | assumption | (simp [go_sem, *]; done))
            obtain ⟨f4x3, f4x3a, f4x3b⟩ := bel_box hb4 (b := w2.heap.size + 1) (x := .int .i64 (i)) (y := .int .i64 (j)) (by first | omega | (simp; done) | (simp; omega)) (by first | assumption | (simp [go_sem, *]; done)) (by first | assumption | (simp [go_sem, *]; done))
            obtain ⟨f4x4, f4x4a, f4x4b⟩ := bel_box hb4 (b := w3.heap.size) (x := .int .i64 (maxI a c)) (y := .int .i64 (maxI b d)) (by first | omega | (simp; done) | (simp; omega)) (by first | assumption | (simp [go_sem, *]; done)) (by first | assumption | (simp [go_sem, *]; done))
            have hB4 : Below w.heap.size w w4 := bel_trans (hB3.alloc (by first | omega | (simp; done) | (simp; omega)) _) hb4
            have hl4 := hB4.size
            clear hl3 hB3 f3x3b f3x3a f3x3 f3x2b f3x2a f3x2 f3x1b f3x1a f3x1 f3x0b f3x0a f3x0
            clear hb4
            rw [← hw4]
            clear hw4
            go_region_held3 (fun w' => Below w4.heap.size w4 w' ∧ w'.cell? ⟨w3.heap.size, 0, none⟩ = some (.int .i64 (maxI a c)) ∧ w'.cell? ⟨w3.heap.size, 1, none⟩ = some (.int .i64 (maxI b d)) ∧ w'.cell? ⟨w1.heap.size, 0, none⟩ = some (.int .i64 (a)) ∧ w'.cell? ⟨w1.heap.size, 1, none⟩ = some (.int .i64 (b)) ∧ w'.cell? ⟨w1.heap.size + 1, 0, none⟩ = some (.int .i64 (c)) ∧ w'.cell? ⟨w1.heap.size + 1, 1, none⟩ = some (.int .i64 (d)))
              (first | (exact ⟨Below.drew (Below.refl _ _), f4x4a, f4x4b, f4x0a, f4x0b, f4x1a, f4x1b⟩) | (refine keepR f4x4 f4x0 f4x1 (by assumption) ?_; assumption))
              (first | (go_at_call 23; refine (HcMs.out _).mono ?_; rintro e wr ⟨rfl, hbr⟩) | (go_at_call_of 16 (Value.int .i64 d); go_at_call_of 16 (Value.int .i64 b); refine (HcM2.out _).mono ?_; rintro e wr ⟨rfl, hbr⟩) | (go_at_call_of 16 (Value.int .i64 (maxI a c)); refine (HcM4.out _).mono ?_; rintro e wr ⟨rfl, hbr⟩) | (go_at_call 16; refine (HcM3.out _).mono ?_; rintro e wr ⟨rfl, hbr⟩))
            rename_i hh
            have hb5 := hh.1
            clear hh
            obtain ⟨f5x0, f5x0a, f5x0b⟩ := bel_box hb5 (b := w1.heap.size) (x := .int .i64 (a)) (y := .int .i64 (b)) (by first | omega | (simp; done) | (simp; omega)) (by first | assumption | (simp [go_sem, *]; done)) (by first | assumption | (simp [go_sem, *]; done))
            obtain ⟨f5x1, f5x1a, f5x1b⟩ := bel_box hb5 (b := w1.heap.size + 1) (x := .int .i64 (c)) (y := .int .i64 (d)) (by first | omega | (simp; done) | (simp; omega)) (by first | assumption | (simp [go_sem, *]; done)) (by first | assumption | (simp [go_sem, *]; done))
            obtain ⟨f5x2, f5x2a, f5x2b⟩ := bel_box hb5 (b := w2.heap.size) (x := .int .i64 (0)) (y := .int .i64 (0)) (by first | omega | (simp; done) | (simp; omega)) (by first | assumption | (simp [go_sem, *]; done)) (by first | assumption | (simp [go_sem, *]; done))
            obtain ⟨f5x3, f5x3a, f5x3b⟩ := bel_box hb5 (b := w2.heap.size + 1) (x := .int .i64 (i)) (y := .int .i64 (j)) (by first | omega | (simp; done) | (simp; omega)) (by first | assumption | (simp [go_sem, *]; done)) (by first | assumption | (simp [go_sem, *]; done))
            obtain ⟨f5x4, f5x4a, f5x4b⟩ := bel_box hb5 (b := w3.heap.size) (x := .int .i64 (maxI a c)) (y := .int .i64 (maxI b d)) (by first | omega | (simp; done) | (simp; omega)) (by first | assumption | (simp [go_sem, *]; done)) (by first | assumption | (simp [go_sem, *]; done))
            have hB5 : Below w.heap.size w wr := bel_trans hB4 hb5
            have hl5 := hB5.size
            clear hl4 hB4 f4x4b f4x4a f4x4 f4x3b f4x3a f4x3 f4x2b f4x2a f4x2 f4x1b f4x1a f4x1 f4x0b f4x0a f4x0
            clear hb5
            rcases hF with hF1 | ⟨hF1, hF2⟩ | ⟨hF1, hF2, hF3⟩
            · skip
              go_wp2_with fail
              refine (HcF1.out _).mono ?_
              rintro e w6 ⟨rfl, hb6⟩
              obtain ⟨f6x0, f6x0a, f6x0b⟩ := bel_box hb6 (b := w1.heap.size) (x := .int .i64 (a)) (y := .int .i64 (b)) (by first | omega | (simp; done) | (simp; omega)) (by first | assumption | (simp [go_sem, *]; done)) (by first | assumption | (simp [go_sem, *]; done))
              obtain ⟨f6x1, f6x1a, f6x1b⟩ := bel_box hb6 (b := w1.heap.size + 1) (x := .int .i64 (c)) (y := .int .i64 (d)) (by first | omega | (simp; done) | (simp; omega)) (by first | assumption | (simp [go_sem, *]; done)) (by first | assumption | (simp [go_sem, *]; done))
              obtain ⟨f6x2, f6x2a, f6x2b⟩ := bel_box hb6 (b := w2.heap.size) (x := .int .i64 (0)) (y := .int .i64 (0)) (by first | omega | (simp; done) | (simp; omega)) (by first | assumption | (simp [go_sem, *]; done)) (by first | assumption | (simp [go_sem, *]; done))
              obtain ⟨f6x3, f6x3a, f6x3b⟩ := bel_box hb6 (b := w2.heap.size + 1) (x := .int .i64 (i)) (y := .int .i64 (j)) (by first | omega | (simp; done) | (simp; omega)) (by first | assumption | (simp [go_sem, *]; done)) (by first | assumption | (simp [go_sem, *]; done))
              obtain ⟨f6x4, f6x4a, f6x4b⟩ := bel_box hb6 (b := w3.heap.size) (x := .int .i64 (maxI a c)) (y := .int .i64 (maxI b d)) (by first | omega | (simp; done) | (simp; omega)) (by first | assumption | (simp [go_sem, *]; done)) (by first | assumption | (simp [go_sem, *]; done))
              have hB6 : Below w.heap.size w w6 := bel_trans hB5 hb6
              have hl6 := hB6.size
              clear hl5 hB5 f5x4b f5x4a f5x4 f5x3b f5x3a f5x3 f5x2b f5x2a f5x2 f5x1b f5x1a f5x1 f5x0b f5x0a f5x0
              clear hb6
              go_wp2_with fail
              refine (HcN.out _).mono ?_
              rintro e w7 ⟨rfl, hb7⟩
              obtain ⟨f7x0, f7x0a, f7x0b⟩ := bel_box hb7 (b := w1.heap.size) (x := .int .i64 (a)) (y := .int .i64 (b)) (by first | omega | (simp; done) | (simp; omega)) (by first | assumption | (simp [go_sem, *]; done)) (by first | assumption | (simp [go_sem, *]; done))
              obtain ⟨f7x1, f7x1a, f7x1b⟩ := bel_box hb7 (b := w1.heap.size + 1) (x := .int .i64 (c)) (y := .int .i64 (d)) (by first | omega | (simp; done) | (simp; omega)) (by first | assumption | (simp [go_sem, *]; done)) (by first | assumption | (simp [go_sem, *]; done))
              obtain ⟨f7x2, f7x2a, f7x2b⟩ := bel_box hb7 (b := w2.heap.size) (x := .int .i64 (0)) (y := .int .i64 (0)) (by first | omega | (simp; done) | (simp; omega)) (by first | assumption | (simp [go_sem, *]; done)) (by first | assumption | (simp [go_sem, *]; done))
              obtain ⟨f7x3, f7x3a, f7x3b⟩ := bel_box hb7 (b := w2.heap.size + 1) (x := .int .i64 (i)) (y := .int .i64 (j)) (by first | omega | (simp; done) | (simp; omega)) (by first | assumption | (simp [go_sem, *]; done)) (by first | assumption | (simp [go_sem, *]; done))
              obtain ⟨f7x4, f7x4a, f7x4b⟩ := bel_box hb7 (b := w3.heap.size) (x := .int .i64 (maxI a c)) (y := .int .i64 (maxI b d)) (by first | omega | (simp; done) | (simp; omega)) (by first | assumption | (simp [go_sem, *]; done)) (by first | assumption | (simp [go_sem, *]; done))
              have hB7 : Below w.heap.size w w7 := bel_trans hB6 hb7
              have hl7 := hB7.size
              clear hl6 hB6 f6x4b f6x4a f6x4 f6x3b f6x3a f6x3 f6x2b f6x2a f6x2 f6x1b f6x1a f6x1 f6x0b f6x0a f6x0
              clear hb7
              go_wp2_with fail
              go_region_held3 (fun w' => Below w7.heap.size w7 w' ∧ w'.cell? ⟨w1.heap.size, 0, none⟩ = some (.int .i64 (a)) ∧ w'.cell? ⟨w1.heap.size, 1, none⟩ = some (.int .i64 (b)) ∧ w'.cell? ⟨w2.heap.size, 0, none⟩ = some (.int .i64 (0)) ∧ w'.cell? ⟨w2.heap.size, 1, none⟩ = some (.int .i64 (0)) ∧ w'.cell? ⟨w2.heap.size + 1, 0, none⟩ = some (.int .i64 (i)) ∧ w'.cell? ⟨w2.heap.size + 1, 1, none⟩ = some (.int .i64 (j)))
                (first | (exact ⟨Below.drew (Below.refl _ _), f7x0a, f7x0b, f7x2a, f7x2b, f7x3a, f7x3b⟩) | (refine keepR f7x0 f7x2 f7x3 (by assumption) ?_; assumption))
                (first | (go_at_call 16; refine (HcQ.out _).mono ?_; rintro e wr ⟨rfl, hbr⟩) | (go_at_call 18; refine (HcK.out _).mono ?_; rintro e wr ⟨rfl, hbr⟩))
              rename_i hh
              have hb8 := hh.1
              clear hh
              obtain ⟨f8x0, f8x0a, f8x0b⟩ := bel_box hb8 (b := w1.heap.size) (x := .int .i64 (a)) (y := .int .i64 (b)) (by first | omega | (simp; done) | (simp; omega)) (by first | assumption | (simp [go_sem, *]; done)) (by first | assumption | (simp [go_sem, *]; done))
              obtain ⟨f8x1, f8x1a, f8x1b⟩ := bel_box hb8 (b := w1.heap.size + 1) (x := .int .i64 (c)) (y := .int .i64 (d)) (by first | omega | (simp; done) | (simp; omega)) (by first | assumption | (simp [go_sem, *]; done)) (by first | assumption | (simp [go_sem, *]; done))
              obtain ⟨f8x2, f8x2a, f8x2b⟩ := bel_box hb8 (b := w2.heap.size) (x := .int .i64 (0)) (y := .int .i64 (0)) (by first | omega | (simp; done) | (simp; omega)) (by first | assumption | (simp [go_sem, *]; done)) (by first | assumption | (simp [go_sem, *]; done))
              obtain ⟨f8x3, f8x3a, f8x3b⟩ := bel_box hb8 (b := w2.heap.size + 1) (x := .int .i64 (i)) (y := .int .i64 (j)) (by first | omega | (simp; done) | (simp; omega)) (by first | assumption | (simp [go_sem, *]; done)) (by first | assumption | (simp [go_sem, *]; done))
              obtain ⟨f8x4, f8x4a, f8x4b⟩ := bel_box hb8 (b := w3.heap.size) (x := .int .i64 (maxI a c)) (y := .int .i64 (maxI b d)) (by first | omega | (simp; done) | (simp; omega)) (by first | assumption | (simp [go_sem, *]; done)) (by first | assumption | (simp [go_sem, *]; done))
              have hB8 : Below w.heap.size w wr := bel_trans hB7 hb8
              have hl8 := hB8.size
              clear hl7 hB7 f7x4b f7x4a f7x4 f7x3b f7x3a f7x3 f7x2b f7x2a f7x2 f7x1b f7x1a f7x1 f7x0b f7x0a f7x0
              clear hb8
              go_wp2_with fail
              refine (HcNs.out _).mono ?_
              rintro e w9 ⟨rfl, hb9⟩
              obtain ⟨f9x0, f9x0a, f9x0b⟩ := bel_box hb9 (b := w1.heap.size) (x := .int .i64 (a)) (y := .int .i64 (b)) (by first | omega | (simp; done) | (simp; omega)) (by first | assumption | (simp [go_sem, *]; done)) (by first | assumption | (simp [go_sem, *]; done))
              obtain ⟨f9x1, f9x1a, f9x1b⟩ := bel_box hb9 (b := w1.heap.size + 1) (x := .int .i64 (c)) (y := .int .i64 (d)) (by first | omega | (simp; done) | (simp; omega)) (by first | assumption | (simp [go_sem, *]; done)) (by first | assumption | (simp [go_sem, *]; done))
              obtain ⟨f9x2, f9x2a, f9x2b⟩ := bel_box hb9 (b := w2.heap.size) (x := .int .i64 (0)) (y := .int .i64 (0)) (by first | omega | (simp; done) | (simp; omega)) (by first | assumption | (simp [go_sem, *]; done)) (by first | assumption | (simp [go_sem, *]; done))
              obtain ⟨f9x3, f9x3a, f9x3b⟩ := bel_box hb9 (b := w2.heap.size + 1) (x := .int .i64 (i)) (y := .int .i64 (j)) (by first | omega | (simp; done) | (simp; omega)) (by first | assumption | (simp [go_sem, *]; done)) (by first | assumption | (simp [go_sem, *]; done))
              obtain ⟨f9x4, f9x4a, f9x4b⟩ := bel_box hb9 (b := w3.heap.size) (x := .int .i64 (maxI a c)) (y := .int .i64 (maxI b d)) (by first | omega | (simp; done) | (simp; omega)) (by first | assumption | (simp [go_sem, *]; done)) (by first | assumption | (simp [go_sem, *]; done))
              have hB9 : Below w.heap.size w w9 := bel_trans hB8 hb9
              have hl9 := hB9.size
              clear hl8 hB8 f8x4b f8x4a f8x4 f8x3b f8x3a f8x3 f8x2b f8x2a f8x2 f8x1b f8x1a f8x1 f8x0b f8x0a f8x0
              clear hb9
              go_wp2_with fail
              refine (HcO1.out _).mono ?_
              rintro e w10 ⟨rfl, hb10⟩
              obtain ⟨f10x0, f10x0a, f10x0b⟩ := bel_box hb10 (b := w1.heap.size) (x := .int .i64 (a)) (y := .int .i64 (b)) (by first | omega | (simp; done) | (simp; omega)) (by first | assumption | (simp [go_sem, *]; done)) (by first | assumption | (simp [go_sem, *]; done))
              obtain ⟨f10x1, f10x1a, f10x1b⟩ := bel_box hb10 (b := w1.heap.size + 1) (x := .int .i64 (c)) (y := .int .i64 (d)) (by first | omega | (simp; done) | (simp; omega)) (by first | assumption | (simp [go_sem, *]; done)) (by first | assumption | (simp [go_sem, *]; done))
              obtain ⟨f10x2, f10x2a, f10x2b⟩ := bel_box hb10 (b := w2.heap.size) (x := .int .i64 (0)) (y := .int .i64 (0)) (by first | omega | (simp; done) | (simp; omega)) (by first | assumption | (simp [go_sem, *]; done)) (by first | assumption | (simp [go_sem, *]; done))
              obtain ⟨f10x3, f10x3a, f10x3b⟩ := bel_box hb10 (b := w2.heap.size + 1) (x := .int .i64 (i)) (y := .int .i64 (j)) (by first | omega | (simp; done) | (simp; omega)) (by first | assumption | (simp [go_sem, *]; done)) (by first | assumption | (simp [go_sem, *]; done))
              obtain ⟨f10x4, f10x4a, f10x4b⟩ := bel_box hb10 (b := w3.heap.size) (x := .int .i64 (maxI a c)) (y := .int .i64 (maxI b d)) (by first | omega | (simp; done) | (simp; omega)) (by first | assumption | (simp [go_sem, *]; done)) (by first | assumption | (simp [go_sem, *]; done))
              have hB10 : Below w.heap.size w w10 := bel_trans hB9 hb10
              have hl10 := hB10.size
              clear hl9 hB9 f9x4b f9x4a f9x4 f9x3b f9x3a f9x3 f9x2b f9x2a f9x2 f9x1b f9x1a f9x1 f9x0b f9x0a f9x0
              clear hb10
              go_wp2_with fail
              refine (HcO2.out _).mono ?_
              rintro e w11 ⟨rfl, hb11⟩
              obtain ⟨f11x0, f11x0a, f11x0b⟩ := bel_box hb11 (b := w1.heap.size) (x := .int .i64 (a)) (y := .int .i64 (b)) (by first | omega | (simp; done) | (simp; omega)) (by first | assumption | (simp [go_sem, *]; done)) (by first | assumption | (simp [go_sem, *]; done))
              obtain ⟨f11x1, f11x1a, f11x1b⟩ := bel_box hb11 (b := w1.heap.size + 1) (x := .int .i64 (c)) (y := .int .i64 (d)) (by first | omega | (simp; done) | (simp; omega)) (by first | assumption | (simp [go_sem, *]; done)) (by first | assumption | (simp [go_sem, *]; done))
              obtain ⟨f11x2, f11x2a, f11x2b⟩ := bel_box hb11 (b := w2.heap.size) (x := .int .i64 (0)) (y := .int .i64 (0)) (by first | omega | (simp; done) | (simp; omega)) (by first | assumption | (simp [go_sem, *]; done)) (by first | assumption | (simp [go_sem, *]; done))
              obtain ⟨f11x3, f11x3a, f11x3b⟩ := bel_box hb11 (b := w2.heap.size + 1) (x := .int .i64 (i)) (y := .int .i64 (j)) (by first | omega | (simp; done) | (simp; omega)) (by first | assumption | (simp [go_sem, *]; done)) (by first | assumption | (simp [go_sem, *]; done))
              obtain ⟨f11x4, f11x4a, f11x4b⟩ := bel_box hb11 (b := w3.heap.size) (x := .int .i64 (maxI a c)) (y := .int .i64 (maxI b d)) (by first | omega | (simp; done) | (simp; omega)) (by first | assumption | (simp [go_sem, *]; done)) (by first | assumption | (simp [go_sem, *]; done))
              have hB11 : Below w.heap.size w w11 := bel_trans hB10 hb11
              have hl11 := hB11.size
              clear hl10 hB10 f10x4b f10x4a f10x4 f10x3b f10x3a f10x3 f10x2b f10x2a f10x2 f10x1b f10x1a f10x1 f10x0b f10x0a f10x0
              clear hb11
              go_wp2_with fail
              go_ret
              exact ⟨rfl, hB11⟩
            · skip
              go_wp2_with fail
              refine (HcF1.out _).mono ?_
              rintro e w6 ⟨rfl, hb6⟩
              obtain ⟨f6x0, f6x0a, f6x0b⟩ := bel_box hb6 (b := w1.heap.size) (x := .int .i64 (a)) (y := .int .i64 (b)) (by first | omega | (simp; done) | (simp; omega)) (by first | assumption | (simp [go_sem, *]; done)) (by first | assumption | (simp [go_sem, *]; done))
              obtain ⟨f6x1, f6x1a, f6x1b⟩ := bel_box hb6 (b := w1.heap.size + 1) (x := .int .i64 (c)) (y := .int .i64 (d)) (by first | omega | (simp; done) | (simp; omega)) (by first | assumption | (simp [go_sem, *]; done)) (by first | assumption | (simp [go_sem, *]; done))
              obtain ⟨f6x2, f6x2a, f6x2b⟩ := bel_box hb6 (b := w2.heap.size) (x := .int .i64 (0)) (y := .int .i64 (0)) (by first | omega | (simp; done) | (simp; omega)) (by first | assumption | (simp [go_sem, *]; done)) (by first | assumption | (simp [go_sem, *]; done))
              obtain ⟨f6x3, f6x3a, f6x3b⟩ := bel_box hb6 (b := w2.heap.size + 1) (x := .int .i64 (i)) (y := .int .i64 (j)) (by first | omega | (simp; done) | (simp; omega)) (by first | assumption | (simp [go_sem, *]; done)) (by first | assumption | (simp [go_sem, *]; done))
              obtain ⟨f6x4, f6x4a, f6x4b⟩ := bel_box hb6 (b := w3.heap.size) (x := .int .i64 (maxI a c)) (y := .int .i64 (maxI b d)) (by first | omega | (simp; done) | (simp; omega)) (by first | assumption | (simp [go_sem, *]; done)) (by first | assumption | (simp [go_sem, *]; done))
              have hB6 : Below w.heap.size w w6 := bel_trans hB5 hb6
              have hl6 := hB6.size
              clear hl5 hB5 f5x4b f5x4a f5x4 f5x3b f5x3a f5x3 f5x2b f5x2a f5x2 f5x1b f5x1a f5x1 f5x0b f5x0a f5x0
              clear hb6
              go_wp2_with fail
              refine (HcF2.out _).mono ?_
              rintro e w7 ⟨rfl, hb7⟩
              obtain ⟨f7x0, f7x0a, f7x0b⟩ := bel_box hb7 (b := w1.heap.size) (x := .int .i64 (a)) (y := .int .i64 (b)) (by first | omega | (simp; done) | (simp; omega)) (by first | assumption | (simp [go_sem, *]; done)) (by first | assumption | (simp [go_sem, *]; done))
              obtain ⟨f7x1, f7x1a, f7x1b⟩ := bel_box hb7 (b := w1.heap.size + 1) (x := .int .i64 (c)) (y := .int .i64 (d)) (by first | omega | (simp; done) | (simp; omega)) (by first | assumption | (simp [go_sem, *]; done)) (by first | assumption | (simp [go_sem, *]; done))
              obtain ⟨f7x2, f7x2a, f7x2b⟩ := bel_box hb7 (b := w2.heap.size) (x := .int .i64 (0)) (y := .int .i64 (0)) (by first | omega | (simp; done) | (simp; omega)) (by first | assumption | (simp [go_sem, *]; done)) (by first | assumption | (simp [go_sem, *]; done))
              obtain ⟨f7x3, f7x3a, f7x3b⟩ := bel_box hb7 (b := w2.heap.size + 1) (x := .int .i64 (i)) (y := .int .i64 (j)) (by first | omega | (simp; done) | (simp; omega)) (by first | assumption | (simp [go_sem, *]; done)) (by first | assumption | (simp [go_sem, *]; done))
              obtain ⟨f7x4, f7x4a, f7x4b⟩ := bel_box hb7 (b := w3.heap.size) (x := .int .i64 (maxI a c)) (y := .int .i64 (maxI b d)) (by first | omega | (simp; done) | (simp; omega)) (by first | assumption | (simp [go_sem, *]; done)) (by first | assumption | (simp [go_sem, *]; done))
              have hB7 : Below w.heap.size w w7 := bel_trans hB6 hb7
              have hl7 := hB7.size
              clear hl6 hB6 f6x4b f6x4a f6x4 f6x3b f6x3a f6x3 f6x2b f6x2a f6x2 f6x1b f6x1a f6x1 f6x0b f6x0a f6x0
              clear hb7
              go_wp2_with fail
              refine (HcN.out _).mono ?_
              rintro e w8 ⟨rfl, hb8⟩
              obtain ⟨f8x0, f8x0a, f8x0b⟩ := bel_box hb8 (b := w1.heap.size) (x := .int .i64 (a)) (y := .int .i64 (b)) (by first | omega | (simp; done) | (simp; omega)) (by first | assumption | (simp [go_sem, *]; done)) (by first | assumption | (simp [go_sem, *]; done))
              obtain ⟨f8x1, f8x1a, f8x1b⟩ := bel_box hb8 (b := w1.heap.size + 1) (x := .int .i64 (c)) (y := .int .i64 (d)) (by first | omega | (simp; done) | (simp; omega)) (by first | assumption | (simp [go_sem, *]; done)) (by first | assumption | (simp [go_sem, *]; done))
              obtain ⟨f8x2, f8x2a, f8x2b⟩ := bel_box hb8 (b := w2.heap.size) (x := .int .i64 (0)) (y := .int .i64 (0)) (by first | omega | (simp; done) | (simp; omega)) (by first | assumption | (simp [go_sem, *]; done)) (by first | assumption | (simp [go_sem, *]; done))
              obtain ⟨f8x3, f8x3a, f8x3b⟩ := bel_box hb8 (b := w2.heap.size + 1) (x := .int .i64 (i)) (y := .int .i64 (j)) (by first | omega | (simp; done) | (simp; omega)) (by first | assumption | (simp [go_sem, *]; done)) (by first | assumption | (simp [go_sem, *]; done))
              obtain ⟨f8x4, f8x4a, f8x4b⟩ := bel_box hb8 (b := w3.heap.size) (x := .int .i64 (maxI a c)) (y := .int .i64 (maxI b d)) (by first | omega | (simp; done) | (simp; omega)) (by first | assumption | (simp [go_sem, *]; done)) (by first | assumption | (simp [go_sem, *]; done))
              have hB8 : Below w.heap.size w w8 := bel_trans hB7 hb8
              have hl8 := hB8.size
              clear hl7 hB7 f7x4b f7x4a f7x4 f7x3b f7x3a f7x3 f7x2b f7x2a f7x2 f7x1b f7x1a f7x1 f7x0b f7x0a f7x0
              clear hb8
              go_wp2_with fail
              go_region_held3 (fun w' => Below w8.heap.size w8 w' ∧ w'.cell? ⟨w1.heap.size, 0, none⟩ = some (.int .i64 (a)) ∧ w'.cell? ⟨w1.heap.size, 1, none⟩ = some (.int .i64 (b)) ∧ w'.cell? ⟨w2.heap.size, 0, none⟩ = some (.int .i64 (0)) ∧ w'.cell? ⟨w2.heap.size, 1, none⟩ = some (.int .i64 (0)) ∧ w'.cell? ⟨w2.heap.size + 1, 0, none⟩ = some (.int .i64 (i)) ∧ w'.cell? ⟨w2.heap.size + 1, 1, none⟩ = some (.int .i64 (j)))
                (first | (exact ⟨Below.drew (Below.refl _ _), f8x0a, f8x0b, f8x2a, f8x2b, f8x3a, f8x3b⟩) | (refine keepR f8x0 f8x2 f8x3 (by assumption) ?_; assumption))
                (first | (go_at_call 16; refine (HcQ.out _).mono ?_; rintro e wr ⟨rfl, hbr⟩) | (go_at_call 18; refine (HcK.out _).mono ?_; rintro e wr ⟨rfl, hbr⟩))
              rename_i hh
              have hb9 := hh.1
              clear hh
              obtain ⟨f9x0, f9x0a, f9x0b⟩ := bel_box hb9 (b := w1.heap.size) (x := .int .i64 (a)) (y := .int .i64 (b)) (by first | omega | (simp; done) | (simp; omega)) (by first | assumption | (simp [go_sem, *]; done)) (by first | assumption | (simp [go_sem, *]; done))
              obtain ⟨f9x1, f9x1a, f9x1b⟩ := bel_box hb9 (b := w1.heap.size + 1) (x := .int .i64 (c)) (y := .int .i64 (d)) (by first | omega | (simp; done) | (simp; omega)) (by first | assumption | (simp [go_sem, *]; done)) (by first | assumption | (simp [go_sem, *]; done))
              obtain ⟨f9x2, f9x2a, f9x2b⟩ := bel_box hb9 (b := w2.heap.size) (x := .int .i64 (0)) (y := .int .i64 (0)) (by first | omega | (simp; done) | (simp; omega)) (by first | assumption | (simp [go_sem, *]; done)) (by first | assumption | (simp [go_sem, *]; done))
              obtain ⟨f9x3, f9x3a, f9x3b⟩ := bel_box hb9 (b := w2.heap.size + 1) (x := .int .i64 (i)) (y := .int .i64 (j)) (by first | omega | (simp; done) | (simp; omega)) (by first | assumption | (simp [go_sem, *]; done)) (by first | assumption | (simp [go_sem, *]; done))
              obtain ⟨f9x4, f9x4a, f9x4b⟩ := bel_box hb9 (b := w3.heap.size) (x := .int .i64 (maxI a c)) (y := .int .i64 (maxI b d)) (by first | omega | (simp; done) | (simp; omega)) (by first | assumption | (simp [go_sem, *]; done)) (by first | assumption | (simp [go_sem, *]; done))
              have hB9 : Below w.heap.size w wr := bel_trans hB8 hb9
              have hl9 := hB9.size
              clear hl8 hB8 f8x4b f8x4a f8x4 f8x3b f8x3a f8x3 f8x2b f8x2a f8x2 f8x1b f8x1a f8x1 f8x0b f8x0a f8x0
              clear hb9
              go_wp2_with fail
              refine (HcNs.out _).mono ?_
              rintro e w10 ⟨rfl, hb10⟩
              obtain ⟨f10x0, f10x0a, f10x0b⟩ := bel_box hb10 (b := w1.heap.size) (x := .int .i64 (a)) (y := .int .i64 (b)) (by first | omega | (simp; done) | (simp; omega)) (by first | assumption | (simp [go_sem, *]; done)) (by first | assumption | (simp [go_sem, *]; done))
              obtain ⟨f10x1, f10x1a, f10x1b⟩ := bel_box hb10 (b := w1.heap.size + 1) (x := .int .i64 (c)) (y := .int .i64 (d)) (by first | omega | (simp; done) | (simp; omega)) (by first | assumption | (simp [go_sem, *]; done)) (by first | assumption | (simp [go_sem, *]; done))
              obtain ⟨f10x2, f10x2a, f10x2b⟩ := bel_box hb10 (b := w2.heap.size) (x := .int .i64 (0)) (y := .int .i64 (0)) (by first | omega | (simp; done) | (simp; omega)) (by first | assumption | (simp [go_sem, *]; done)) (by first | assumption | (simp [go_sem, *]; done))
              obtain ⟨f10x3, f10x3a, f10x3b⟩ := bel_box hb10 (b := w2.heap.size + 1) (x := .int .i64 (i)) (y := .int .i64 (j)) (by first | omega | (simp; done) | (simp; omega)) (by first | assumption | (simp [go_sem, *]; done)) (by first | assumption | (simp [go_sem, *]; done))
              obtain ⟨f10x4, f10x4a, f10x4b⟩ := bel_box hb10 (b := w3.heap.size) (x := .int .i64 (maxI a c)) (y := .int .i64 (maxI b d)) (by first | omega | (simp; done) | (simp; omega)) (by first | assumption | (simp [go_sem, *]; done)) (by first | assumption | (simp [go_sem, *]; done))
              have hB10 : Below w.heap.size w w10 := bel_trans hB9 hb10
              have hl10 := hB10.size
              clear hl9 hB9 f9x4b f9x4a f9x4 f9x3b f9x3a f9x3 f9x2b f9x2a f9x2 f9x1b f9x1a f9x1 f9x0b f9x0a f9x0
              clear hb10
              go_wp2_with fail
              refine (HcO1.out _).mono ?_
              rintro e w11 ⟨rfl, hb11⟩
              obtain ⟨f11x0, f11x0a, f11x0b⟩ := bel_box hb11 (b := w1.heap.size) (x := .int .i64 (a)) (y := .int .i64 (b)) (by first | omega | (simp; done) | (simp; omega)) (by first | assumption | (simp [go_sem, *]; done)) (by first | assumption | (simp [go_sem, *]; done))
              obtain ⟨f11x1, f11x1a, f11x1b⟩ := bel_box hb11 (b := w1.heap.size + 1) (x := .int .i64 (c)) (y := .int .i64 (d)) (by first | omega | (simp; done) | (simp; omega)) (by first | assumption | (simp [go_sem, *]; done)) (by first | assumption | (simp [go_sem, *]; done))
              obtain ⟨f11x2, f11x2a, f11x2b⟩ := bel_box hb11 (b := w2.heap.size) (x := .int .i64 (0)) (y := .int .i64 (0)) (by first | omega | (simp; done) | (simp; omega)) (by first | assumption | (simp [go_sem, *]; done)) (by first | assumption | (simp [go_sem, *]; done))
              obtain ⟨f11x3, f11x3a, f11x3b⟩ := bel_box hb11 (b := w2.heap.size + 1) (x := .int .i64 (i)) (y := .int .i64 (j)) (by first | omega | (simp; done) | (simp; omega)) (by first | assumption | (simp [go_sem, *]; done)) (by first | assumption | (simp [go_sem, *]; done))
              obtain ⟨f11x4, f11x4a, f11x4b⟩ := bel_box hb11 (b := w3.heap.size) (x := .int .i64 (maxI a c)) (y := .int .i64 (maxI b d)) (by first | omega | (simp; done) | (simp; omega)) (by first | assumption | (simp [go_sem, *]; done)) (by first | assumption | (simp [go_sem, *]; done))
              have hB11 : Below w.heap.size w w11 := bel_trans hB10 hb11
              have hl11 := hB11.size
              clear hl10 hB10 f10x4b f10x4a f10x4 f10x3b f10x3a f10x3 f10x2b f10x2a f10x2 f10x1b f10x1a f10x1 f10x0b f10x0a f10x0
              clear hb11
              go_wp2_with fail
              refine (HcO2.out _).mono ?_
              rintro e w12 ⟨rfl, hb12⟩
              obtain ⟨f12x0, f12x0a, f12x0b⟩ := bel_box hb12 (b := w1.heap.size) (x := .int .i64 (a)) (y := .int .i64 (b)) (by first | omega | (simp; done) | (simp; omega)) (by first | assumption | (simp [go_sem, *]; done)) (by first | assumption | (simp [go_sem, *]; done))
              obtain ⟨f12x1, f12x1a, f12x1b⟩ := bel_box hb12 (b := w1.heap.size + 1) (x := .int .i64 (c)) (y := .int .i64 (d)) (by first | omega | (simp; done) | (simp; omega)) (by first | assumption | (simp [go_sem, *]; done)) (by first | assumption | (simp [go_sem, *]; done))
              obtain ⟨f12x2, f12x2a, f12x2b⟩ := bel_box hb12 (b := w2.heap.size) (x := .int .i64 (0)) (y := .int .i64 (0)) (by first | omega | (simp; done) | (simp; omega)) (by first | assumption | (simp [go_sem, *]; done)) (by first | assumption | (simp [go_sem, *]; done))
              obtain ⟨f12x3, f12x3a, f12x3b⟩ := bel_box hb12 (b := w2.heap.size + 1) (x := .int .i64 (i)) (y := .int .i64 (j)) (by first | omega | (simp; done) | (simp; omega)) (by first | assumption | (simp [go_sem, *]; done)) (by first | assumption | (simp [go_sem, *]; done))
              obtain ⟨f12x4, f12x4a, f12x4b⟩ := bel_box hb12 (b := w3.heap.size) (x := .int .i64 (maxI a c)) (y := .int .i64 (maxI b d)) (by first | omega | (simp; done) | (simp; omega)) (by first | assumption | (simp [go_sem, *]; done)) (by first | assumption | (simp [go_sem, *]; done))
              have hB12 : Below w.heap.size w w12 := bel_trans hB11 hb12
              have hl12 := hB12.size
              clear hl11 hB11 f11x4b f11x4a f11x4 f11x3b f11x3a f11x3 f11x2b f11x2a f11x2 f11x1b f11x1a f11x1 f11x0b f11x0a f11x0
              clear hb12
              go_wp2_with fail
              go_ret
              exact ⟨rfl, hB12⟩
            · skip
              go_wp2_with fail
              refine (HcF1.out _).mono ?_
              rintro e w6 ⟨rfl, hb6⟩
              obtain ⟨f6x0, f6x0a, f6x0b⟩ := bel_box hb6 (b := w1.heap.size) (x := .int .i64 (a)) (y := .int .i64 (b)) (by first | omega | (simp; done) | (simp; omega)) (by first | assumption | (simp [go_sem, *]; done)) (by first | assumption | (simp [go_sem, *]; done))
              obtain ⟨f6x1, f6x1a, f6x1b⟩ := bel_box hb6 (b := w1.heap.size + 1) (x := .int .i64 (c)) (y := .int .i64 (d)) (by first | omega | (simp; done) | (simp; omega)) (by first | assumption | (simp [go_sem, *]; done)) (by first | assumption | (simp [go_sem, *]; done))
              obtain ⟨f6x2, f6x2a, f6x2b⟩ := bel_box hb6 (b := w2.heap.size) (x := .int .i64 (0)) (y := .int .i64 (0)) (by first | omega | (simp; done) | (simp; omega)) (by first | assumption | (simp [go_sem, *]; done)) (by first | assumption | (simp [go_sem, *]; done))
              obtain ⟨f6x3, f6x3a, f6x3b⟩ := bel_box hb6 (b := w2.heap.size + 1) (x := .int .i64 (i)) (y := .int .i64 (j)) (by first | omega | (simp; done) | (simp; omega)) (by first | assumption | (simp [go_sem, *]; done)) (by first | assumption | (simp [go_sem, *]; done))
              obtain ⟨f6x4, f6x4a, f6x4b⟩ := bel_box hb6 (b := w3.heap.size) (x := .int .i64 (maxI a c)) (y := .int .i64 (maxI b d)) (by first | omega | (simp; done) | (simp; omega)) (by first | assumption | (simp [go_sem, *]; done)) (by first | assumption | (simp [go_sem, *]; done))
              have hB6 : Below w.heap.size w w6 := bel_trans hB5 hb6
              have hl6 := hB6.size
              clear hl5 hB5 f5x4b f5x4a f5x4 f5x3b f5x3a f5x3 f5x2b f5x2a f5x2 f5x1b f5x1a f5x1 f5x0b f5x0a f5x0
              clear hb6
              go_wp2_with fail
              refine (HcF2.out _).mono ?_
              rintro e w7 ⟨rfl, hb7⟩
              obtain ⟨f7x0, f7x0a, f7x0b⟩ := bel_box hb7 (b := w1.heap.size) (x := .int .i64 (a)) (y := .int .i64 (b)) (by first | omega | (simp; done) | (simp; omega)) (by first | assumption | (simp [go_sem, *]; done)) (by first | assumption | (simp [go_sem, *]; done))
              obtain ⟨f7x1, f7x1a, f7x1b⟩ := bel_box hb7 (b := w1.heap.size + 1) (x := .int .i64 (c)) (y := .int .i64 (d)) (by first | omega | (simp; done) | (simp; omega)) (by first | assumption | (simp [go_sem, *]; done)) (by first | assumption | (simp [go_sem, *]; done))
              obtain ⟨f7x2, f7x2a, f7x2b⟩ := bel_box hb7 (b := w2.heap.size) (x := .int .i64 (0)) (y := .int .i64 (0)) (by first | omega | (simp; done) | (simp; omega)) (by first | assumption | (simp [go_sem, *]; done)) (by first | assumption | (simp [go_sem, *]; done))
              obtain ⟨f7x3, f7x3a, f7x3b⟩ := bel_box hb7 (b := w2.heap.size + 1) (x := .int .i64 (i)) (y := .int .i64 (j)) (by first | omega | (simp; done) | (simp; omega)) (by first | assumption | (simp [go_sem, *]; done)) (by first | assumption | (simp [go_sem, *]; done))
              obtain ⟨f7x4, f7x4a, f7x4b⟩ := bel_box hb7 (b := w3.heap.size) (x := .int .i64 (maxI a c)) (y := .int .i64 (maxI b d)) (by first | omega | (simp; done) | (simp; omega)) (by first | assumption | (simp [go_sem, *]; done)) (by first | assumption | (simp [go_sem, *]; done))
              have hB7 : Below w.heap.size w w7 := bel_trans hB6 hb7
              have hl7 := hB7.size
              clear hl6 hB6 f6x4b f6x4a f6x4 f6x3b f6x3a f6x3 f6x2b f6x2a f6x2 f6x1b f6x1a f6x1 f6x0b f6x0a f6x0
              clear hb7
              go_wp2_with fail
              refine (HcF3.out _).mono ?_
              rintro e w8 ⟨rfl, hb8⟩
              obtain ⟨f8x0, f8x0a, f8x0b⟩ := bel_box hb8 (b := w1.heap.size) (x := .int .i64 (a)) (y := .int .i64 (b)) (by first | omega | (simp; done) | (simp; omega)) (by first | assumption | (simp [go_sem, *]; done)) (by first | assumption | (simp [go_sem, *]; done))
              obtain ⟨f8x1, f8x1a, f8x1b⟩ := bel_box hb8 (b := w1.heap.size + 1) (x := .int .i64 (c)) (y := .int .i64 (d)) (by first | omega | (simp; done) | (simp; omega)) (by first | assumption | (simp [go_sem, *]; done)) (by first | assumption | (simp [go_sem, *]; done))
              obtain ⟨f8x2, f8x2a, f8x2b⟩ := bel_box hb8 (b := w2.heap.size) (x := .int .i64 (0)) (y := .int .i64 (0)) (by first | omega | (simp; done) | (simp; omega)) (by first | assumption | (simp [go_sem, *]; done)) (by first | assumption | (simp [go_sem, *]; done))
              obtain ⟨f8x3, f8x3a, f8x3b⟩ := bel_box hb8 (b := w2.heap.size + 1) (x := .int .i64 (i)) (y := .int .i64 (j)) (by first | omega | (simp; done) | (simp; omega)) (by first | assumption | (simp [go_sem, *]; done)) (by first | assumption | (simp [go_sem, *]; done))
              obtain ⟨f8x4, f8x4a, f8x4b⟩ := bel_box hb8 (b := w3.heap.size) (x := .int .i64 (maxI a c)) (y := .int .i64 (maxI b d)) (by first | omega | (simp; done) | (simp; omega)) (by first | assumption | (simp [go_sem, *]; done)) (by first | assumption | (simp [go_sem, *]; done))
              have hB8 : Below w.heap.size w w8 := bel_trans hB7 hb8
              have hl8 := hB8.size
              clear hl7 hB7 f7x4b f7x4a f7x4 f7x3b f7x3a f7x3 f7x2b f7x2a f7x2 f7x1b f7x1a f7x1 f7x0b f7x0a f7x0
              clear hb8
              go_wp2_with fail
              refine (HcN.out _).mono ?_
              rintro e w9 ⟨rfl, hb9⟩
              obtain ⟨f9x0, f9x0a, f9x0b⟩ := bel_box hb9 (b := w1.heap.size) (x := .int .i64 (a)) (y := .int .i64 (b)) (by first | omega | (simp; done) | (simp; omega)) (by first | assumption | (simp [go_sem, *]; done)) (by first | assumption | (simp [go_sem, *]; done))
              obtain ⟨f9x1, f9x1a, f9x1b⟩ := bel_box hb9 (b := w1.heap.size + 1) (x := .int .i64 (c)) (y := .int .i64 (d)) (by first | omega | (simp; done) | (simp; omega)) (by first | assumption | (simp [go_sem, *]; done)) (by first | assumption | (simp [go_sem, *]; done))
              obtain ⟨f9x2, f9x2a, f9x2b⟩ := bel_box hb9 (b := w2.heap.size) (x := .int .i64 (0)) (y := .int .i64 (0)) (by first | omega | (simp; done) | (simp; omega)) (by first | assumption | (simp [go_sem, *]; done)) (by first | assumption | (simp [go_sem, *]; done))
              obtain ⟨f9x3, f9x3a, f9x3b⟩ := bel_box hb9 (b := w2.heap.size + 1) (x := .int .i64 (i)) (y := .int .i64 (j)) (by first | omega | (simp; done) | (simp; omega)) (by first | assumption | (simp [go_sem, *]; done)) (by first | assumption | (simp [go_sem, *]; done))
              obtain ⟨f9x4, f9x4a, f9x4b⟩ := bel_box hb9 (b := w3.heap.size) (x := .int .i64 (maxI a c)) (y := .int .i64 (maxI b d)) (by first | omega | (simp; done) | (simp; omega)) (by first | assumption | (simp [go_sem, *]; done)) (by first | assumption | (simp [go_sem, *]; done))
              have hB9 : Below w.heap.size w w9 := bel_trans hB8 hb9
              have hl9 := hB9.size
              clear hl8 hB8 f8x4b f8x4a f8x4 f8x3b f8x3a f8x3 f8x2b f8x2a f8x2 f8x1b f8x1a f8x1 f8x0b f8x0a f8x0
              clear hb9
              go_wp2_with fail
              go_region_held3 (fun w' => Below w9.heap.size w9 w' ∧ w'.cell? ⟨w1.heap.size, 0, none⟩ = some (.int .i64 (a)) ∧ w'.cell? ⟨w1.heap.size, 1, none⟩ = some (.int .i64 (b)) ∧ w'.cell? ⟨w2.heap.size, 0, none⟩ = some (.int .i64 (0)) ∧ w'.cell? ⟨w2.heap.size, 1, none⟩ = some (.int .i64 (0)) ∧ w'.cell? ⟨w2.heap.size + 1, 0, none⟩ = some (.int .i64 (i)) ∧ w'.cell? ⟨w2.heap.size + 1, 1, none⟩ = some (.int .i64 (j)))
                (first | (exact ⟨Below.drew (Below.refl _ _), f9x0a, f9x0b, f9x2a, f9x2b, f9x3a, f9x3b⟩) | (refine keepR f9x0 f9x2 f9x3 (by assumption) ?_; assumption))
                (first | (go_at_call 16; refine (HcQ.out _).mono ?_; rintro e wr ⟨rfl, hbr⟩) | (go_at_call 18; refine (HcK.out _).mono ?_; rintro e wr ⟨rfl, hbr⟩))
              rename_i hh
              have hb10 := hh.1
              clear hh
              obtain ⟨f10x0, f10x0a, f10x0b⟩ := bel_box hb10 (b := w1.heap.size) (x := .int .i64 (a)) (y := .int .i64 (b)) (by first | omega | (simp; done) | (simp; omega)) (by first | assumption | (simp [go_sem, *]; done)) (by first | assumption | (simp [go_sem, *]; done))
              obtain ⟨f10x1, f10x1a, f10x1b⟩ := bel_box hb10 (b := w1.heap.size + 1) (x := .int .i64 (c)) (y := .int .i64 (d)) (by first | omega | (simp; done) | (simp; omega)) (by first | assumption | (simp [go_sem, *]; done)) (by first | assumption | (simp [go_sem, *]; done))
              obtain ⟨f10x2, f10x2a, f10x2b⟩ := bel_box hb10 (b := w2.heap.size) (x := .int .i64 (0)) (y := .int .i64 (0)) (by first | omega | (simp; done) | (simp; omega)) (by first | assumption | (simp [go_sem, *]; done)) (by first | assumption | (simp [go_sem, *]; done))
              obtain ⟨f10x3, f10x3a, f10x3b⟩ := bel_box hb10 (b := w2.heap.size + 1) (x := .int .i64 (i)) (y := .int .i64 (j)) (by first | omega | (simp; done) | (simp; omega)) (by first | assumption | (simp [go_sem, *]; done)) (by first | assumption | (simp [go_sem, *]; done))
              obtain ⟨f10x4, f10x4a, f10x4b⟩ := bel_box hb10 (b := w3.heap.size) (x := .int .i64 (maxI a c)) (y := .int .i64 (maxI b d)) (by first | omega | (simp; done) | (simp; omega)) (by first | assumption | (simp [go_sem, *]; done)) (by first | assumption | (simp [go_sem, *]; done))
              have hB10 : Below w.heap.size w wr := bel_trans hB9 hb10
              have hl10 := hB10.size
              clear hl9 hB9 f9x4b f9x4a f9x4 f9x3b f9x3a f9x3 f9x2b f9x2a f9x2 f9x1b f9x1a f9x1 f9x0b f9x0a f9x0
              clear hb10
              go_wp2_with fail
              refine (HcNs.out _).mono ?_
              rintro e w11 ⟨rfl, hb11⟩
              obtain ⟨f11x0, f11x0a, f11x0b⟩ := bel_box hb11 (b := w1.heap.size) (x := .int .i64 (a)) (y := .int .i64 (b)) (by first | omega | (simp; done) | (simp; omega)) (by first | assumption | (simp [go_sem, *]; done)) (by first | assumption | (simp [go_sem, *]; done))
              obtain ⟨f11x1, f11x1a, f11x1b⟩ := bel_box hb11 (b := w1.heap.size + 1) (x := .int .i64 (c)) (y := .int .i64 (d)) (by first | omega | (simp; done) | (simp; omega)) (by first | assumption | (simp [go_sem, *]; done)) (by first | assumption | (simp [go_sem, *]; done))
              obtain ⟨f11x2, f11x2a, f11x2b⟩ := bel_box hb11 (b := w2.heap.size) (x := .int .i64 (0)) (y := .int .i64 (0)) (by first | omega | (simp; done) | (simp; omega)) (by first | assumption | (simp [go_sem, *]; done)) (by first | assumption | (simp [go_sem, *]; done))
              obtain ⟨f11x3, f11x3a, f11x3b⟩ := bel_box hb11 (b := w2.heap.size + 1) (x := .int .i64 (i)) (y := .int .i64 (j)) (by first | omega | (simp; done) | (simp; omega)) (by first | assumption | (simp [go_sem, *]; done)) (by first | assumption | (simp [go_sem, *]; done))
              obtain ⟨f11x4, f11x4a, f11x4b⟩ := bel_box hb11 (b := w3.heap.size) (x := .int .i64 (maxI a c)) (y := .int .i64 (maxI b d)) (by first | omega | (simp; done) | (simp; omega)) (by first | assumption | (simp [go_sem, *]; done)) (by first | assumption | (simp [go_sem, *]; done))
              have hB11 : Below w.heap.size w w11 := bel_trans hB10 hb11
              have hl11 := hB11.size
              clear hl10 hB10 f10x4b f10x4a f10x4 f10x3b f10x3a f10x3 f10x2b f10x2a f10x2 f10x1b f10x1a f10x1 f10x0b f10x0a f10x0
              clear hb11
              go_wp2_with fail
              refine (HcO1.out _).mono ?_
              rintro e w12 ⟨rfl, hb12⟩
              obtain ⟨f12x0, f12x0a, f12x0b⟩ := bel_box hb12 (b := w1.heap.size) (x := .int .i64 (a)) (y := .int .i64 (b)) (by first | omega | (simp; done) | (simp; omega)) (by first | assumption | (simp [go_sem, *]; done)) (by first | assumption | (simp [go_sem, *]; done))
              obtain ⟨f12x1, f12x1a, f12x1b⟩ := bel_box hb12 (b := w1.heap.size + 1) (x := .int .i64 (c)) (y := .int .i64 (d)) (by first | omega | (simp; done) | (simp; omega)) (by first | assumption | (simp [go_sem, *]; done)) (by first | assumption | (simp [go_sem, *]; done))
              obtain ⟨f12x2, f12x2a, f12x2b⟩ := bel_box hb12 (b := w2.heap.size) (x := .int .i64 (0)) (y := .int .i64 (0)) (by first | omega | (simp; done) | (simp; omega)) (by first | assumption | (simp [go_sem, *]; done)) (by first | assumption | (simp [go_sem, *]; done))
              obtain ⟨f12x3, f12x3a, f12x3b⟩ := bel_box hb12 (b := w2.heap.size + 1) (x := .int .i64 (i)) (y := .int .i64 (j)) (by first | omega | (simp; done) | (simp; omega)) (by first | assumption | (simp [go_sem, *]; done)) (by first | assumption | (simp [go_sem, *]; done))
              obtain ⟨f12x4, f12x4a, f12x4b⟩ := bel_box hb12 (b := w3.heap.size) (x := .int .i64 (maxI a c)) (y := .int .i64 (maxI b d)) (by first | omega | (simp; done) | (simp; omega)) (by first | assumption | (simp [go_sem, *]; done)) (by first | assumption | (simp [go_sem, *]; done))
              have hB12 : Below w.heap.size w w12 := bel_trans hB11 hb12
              have hl12 := hB12.size
              clear hl11 hB11 f11x4b f11x4a f11x4 f11x3b f11x3a f11x3 f11x2b f11x2a f11x2 f11x1b f11x1a f11x1 f11x0b f11x0a f11x0
              clear hb12
              go_wp2_with fail
              refine (HcO2.out _).mono ?_
              rintro e w13 ⟨rfl, hb13⟩
              obtain ⟨f13x0, f13x0a, f13x0b⟩ := bel_box hb13 (b := w1.heap.size) (x := .int .i64 (a)) (y := .int .i64 (b)) (by first | omega | (simp; done) | (simp; omega)) (by first | assumption | (simp [go_sem, *]; done)) (by first | assumption | (simp [go_sem, *]; done))
              obtain ⟨f13x1, f13x1a, f13x1b⟩ := bel_box hb13 (b := w1.heap.size + 1) (x := .int .i64 (c)) (y := .int .i64 (d)) (by first | omega | (simp; done) | (simp; omega)) (by first | assumption | (simp [go_sem, *]; done)) (by first | assumption | (simp [go_sem, *]; done))
              obtain ⟨f13x2, f13x2a, f13x2b⟩ := bel_box hb13 (b := w2.heap.size) (x := .int .i64 (0)) (y := .int .i64 (0)) (by first | omega | (simp; done) | (simp; omega)) (by first | assumption | (simp [go_sem, *]; done)) (by first | assumption | (simp [go_sem, *]; done))
              obtain ⟨f13x3, f13x3a, f13x3b⟩ := bel_box hb13 (b := w2.heap.size + 1) (x := .int .i64 (i)) (y := .int .i64 (j)) (by first | omega | (simp; done) | (simp; omega)) (by first | assumption | (simp [go_sem, *]; done)) (by first | assumption | (simp [go_sem, *]; done))
              obtain ⟨f13x4, f13x4a, f13x4b⟩ := bel_box hb13 (b := w3.heap.size) (x := .int .i64 (maxI a c)) (y := .int .i64 (maxI b d)) (by first | omega | (simp; done) | (simp; omega)) (by first | assumption | (simp [go_sem, *]; done)) (by first | assumption | (simp [go_sem, *]; done))
              have hB13 : Below w.heap.size w w13 := bel_trans hB12 hb13
              have hl13 := hB13.size
              clear hl12 hB12 f12x4b f12x4a f12x4 f12x3b f12x3a f12x3 f12x2b f12x2a f12x2 f12x1b f12x1a f12x1 f12x0b f12x0a f12x0
              clear hb13
              go_wp2_with fail
              go_ret
              exact ⟨rfl, hB13⟩
          · have h3 : notB 0 h = false := by simp [notB, hh]
            have cM : ∀ w, Calls Try.prog 16 #[.agg #[.int .i64 (a), .int .i64 (b)], .agg #[.int .i64 (c), .int .i64 (d)]] w fun e w' => e = .returned (.agg #[.int .i64 (maxI a c), .int .i64 (maxI b d)]) ∧ Below w.heap.size w w' := implMost_any a b c d
            have cMs : ∀ w, Calls Try.prog 23 #[.agg #[.int .i64 (a), .int .i64 (b)], .agg #[.int .i64 (c), .int .i64 (d)]] w fun e w' => e = .returned (.agg #[.int .i64 (maxI a c), .int .i64 (maxI b d)]) ∧ Below w.heap.size w w' := specMost_any a b c d
            have cM2 : ∀ w, Calls Try.prog 16 #[.agg #[.int .i64 (c), .int .i64 (d)], .agg #[.int .i64 (a), .int .i64 (b)]] w fun e w' => e = .returned (.agg #[.int .i64 (maxI a c), .int .i64 (maxI b d)]) ∧ Below w.heap.size w w' := fun w => by have := implMost_any c d a b w; rwa [maxI_comm a c, maxI_comm b d] at this
            have cM3 : ∀ w, Calls Try.prog 16 #[.agg #[.int .i64 (a), .int .i64 (b)], .agg #[.int .i64 (a), .int .i64 (b)]] w fun e w' => e = .returned (.agg #[.int .i64 (a), .int .i64 (b)]) ∧ Below w.heap.size w w' := fun w => by have := implMost_any a b a b w; rwa [maxI_self a, maxI_self b] at this
            have cM4 : ∀ w, Calls Try.prog 16 #[.agg #[.int .i64 (maxI a c), .int .i64 (maxI b d)], .agg #[.int .i64 (a), .int .i64 (b)]] w fun e w' => e = .returned (.agg #[.int .i64 (maxI a c), .int .i64 (maxI b d)]) ∧ Below w.heap.size w w' := fun w => by have := implMost_any (maxI a c) (maxI b d) a b w; rwa [maxI_again a c, maxI_again b d] at this
            have cF1 : ∀ w, Calls Try.prog 17 #[.agg #[.int .i64 (a), .int .i64 (b)], .agg #[.int .i64 (c), .int .i64 (d)]] w fun e w' => e = .returned (.bool (fitB a b c d)) ∧ Below w.heap.size w w' := implFits_any a b c d
            have cF2 : ∀ w, Calls Try.prog 17 #[.agg #[.int .i64 (c), .int .i64 (d)], .agg #[.int .i64 (0), .int .i64 (h)]] w fun e w' => e = .returned (.bool (fitB c d 0 h)) ∧ Below w.heap.size w w' := implFits_any c d 0 h
            have cF3 : ∀ w, Calls Try.prog 17 #[.agg #[.int .i64 (a), .int .i64 (b)], .agg #[.int .i64 (0), .int .i64 (h)]] w fun e w' => e = .returned (.bool (fitB a b 0 h)) ∧ Below w.heap.size w w' := implFits_any a b 0 h
            have cN : ∀ w, Calls Try.prog 18 #[.agg #[.int .i64 (0), .int .i64 (h)], .agg #[.int .i64 (i), .int .i64 (j)]] w fun e w' => e = .returned (.int .i64 (slotsI 0 h i j)) ∧ Below w.heap.size w w' := implSlots_any 0 h i j
            have cNs : ∀ w, Calls Try.prog 19 #[.agg #[.int .i64 (0), .int .i64 (h)], .agg #[.int .i64 (i), .int .i64 (j)]] w fun e w' => e = .returned (.int .i64 (slotsI 0 h i j)) ∧ Below w.heap.size w w' := specSlots_any 0 h i j
            have cQ : ∀ w, Calls Try.prog 16 #[.agg #[.int .i64 (a), .int .i64 (b)], .agg #[.int .i64 (0), .int .i64 (h)]] w fun e w' => e = .returned (.agg #[.int .i64 (maxI a 0), .int .i64 (maxI b h)]) ∧ Below w.heap.size w w' := implMost_any a b 0 h
            have cK : ∀ w, Calls Try.prog 18 #[.agg #[.int .i64 (maxI a 0), .int .i64 (maxI b h)], .agg #[.int .i64 (i), .int .i64 (j)]] w fun e w' => e = .returned (.int .i64 (slotsI (maxI a 0) (maxI b h) i j)) ∧ Below w.heap.size w w' := implSlots_any (maxI a 0) (maxI b h) i j
            have cO1 : ∀ w, Calls Try.prog 20 #[.agg #[.int .i64 (a), .int .i64 (b)]] w fun e w' => e = .returned (.bool true) ∧ Below w.heap.size w w' := fun w => by have := specOk_any a b w; rwa [h1] at this
            have cO2 : ∀ w, Calls Try.prog 20 #[.agg #[.int .i64 (0), .int .i64 (h)]] w fun e w' => e = .returned (.bool true) ∧ Below w.heap.size w w' := fun w => by have := specOk_any 0 h w; rwa [h2] at this
            have hle : slotsI (maxI a 0) (maxI b h) i j ≤ slotsI 0 h i j := slots_less h1 h2 h3
            have hF : (fitB a b c d = false) ∨ (fitB a b c d = true ∧ fitB c d 0 h = false) ∨ (fitB a b c d = true ∧ fitB c d 0 h = true ∧ fitB a b 0 h = true) := by
              cases x1 : fitB a b c d
              · exact .inl rfl
              · cases x2 : fitB c d 0 h
                · exact .inr (.inl ⟨rfl, rfl⟩)
                · exact .inr (.inr ⟨rfl, rfl, fit_iff.2 (by have := fit_iff.1 x1; have := fit_iff.1 x2; omega)⟩)
            have HcM := hidden cM; clear cM
            have HcMs := hidden cMs; clear cMs
            have HcM2 := hidden cM2; clear cM2
            have HcM3 := hidden cM3; clear cM3
            have HcM4 := hidden cM4; clear cM4
            have HcF1 := hidden cF1; clear cF1
            have HcF2 := hidden cF2; clear cF2
            have HcF3 := hidden cF3; clear cF3
            have HcN := hidden cN; clear cN
            have HcNs := hidden cNs; clear cNs
            have HcQ := hidden cQ; clear cQ
            have HcK := hidden cK; clear cK
            have HcO1 := hidden cO1; clear cO1
            have HcO2 := hidden cO2; clear cO2
            clear h1 h2 h3
            go_wp2_with fail
            refine (HcM.out _).mono ?_
            rintro e w3 ⟨rfl, hb3⟩
            obtain ⟨f3x0, f3x0a, f3x0b⟩ := bel_box hb3 (b := w1.heap.size) (x := .int .i64 (a)) (y := .int .i64 (b)) (by first | omega | (simp; done) | (simp; omega)) (by first | assumption | (simp [go_sem, *]; done)) (by first | assumption | (simp [go_sem, *]; done))
            obtain ⟨f3x1, f3x1a, f3x1b⟩ := bel_box hb3 (b := w1.heap.size + 1) (x := .int .i64 (c)) (y := .int .i64 (d)) (by first | omega | (simp; done) | (simp; omega)) (by first | assumption | (simp [go_sem, *]; done)) (by first | assumption | (simp [go_sem, *]; done))
            obtain ⟨f3x2, f3x2a, f3x2b⟩ := bel_box hb3 (b := w2.heap.size) (x := .int .i64 (0)) (y := .int .i64 (h)) (by first | omega | (simp; done) | (simp; omega)) (by first | assumption | (simp [go_sem, *]; done)) (by first | assumption | (simp [go_sem, *]; done))
            obtain ⟨f3x3, f3x3a, f3x3b⟩ := bel_box hb3 (b := w2.heap.size + 1) (x := .int .i64 (i)) (y := .int .i64 (j)) (by first | omega | (simp; done) | (simp; omega)) (by first | assumption | (simp [go_sem, *]; done)) (by first | assumption | (simp [go_sem, *]; done))
            have hB3 : Below w.heap.size w w3 := bel_trans ((hB2.alloc (by first | omega | (simp; done) | (simp; omega)) _).alloc (by first | omega | (simp; done) | (simp; omega)) _) hb3
            have hl3 := hB3.size
            clear hl2 hB2 f2x1b f2x1a f2x1 f2x0b f2x0a f2x0
            clear hb3
            go_wp2_with fail
            obtain ⟨w4, hw4⟩ : ∃ x, x = (w3.alloc (.cells #[.int .i64 (maxI a c), .int .i64 (maxI b d)] 24)) := ⟨_, rfl⟩
            have hb4 : Below ((w3.alloc (.cells #[.int .i64 (maxI a c), .int .i64 (maxI b d)] 24))).heap.size ((w3.alloc (.cells #[.int .i64 (maxI a c), .int .i64 (maxI b d)] 24))) w4 := by rw [hw4]; exact Below.refl _ _
            obtain ⟨f4x0, f4x0a, f4x0b⟩ := bel_box hb4 (b := w1.heap.size) (x := .int .i64 (a)) (y := .int .i64 (b)) (by first | omega | (simp; done) | (simp; omega)) (by first | assumption | (simp [go_sem, *]; done)) (by first | assumption | (simp [go_sem, *]; done))
            obtain ⟨f4x1, f4x1a, f4x1b⟩ := bel_box hb4 (b := w1.heap.size + 1) (x := .int .i64 (c)) (y := .int .i64 (d)) (by first | omega | (simp; done) | (simp; omega)) (by first | assumption | (simp [go_sem, *]; done)) (by first | assumption | (simp [go_sem, *]; done))
            obtain ⟨f4x2, f4x2a, f4x2b⟩ := bel_box hb4 (b := w2.heap.size) (x := .int .i64 (0)) (y := .int .i64 (h)) (by first | omega | (simp; done) | (simp; omega)) (by first | assumption | (simp [go_sem, *]; done)) (by first | assumption | (simp [go_sem, *]; done))
            obtain ⟨f4x3, f4x3a, f4x3b⟩ := bel_box hb4 (b := w2.heap.size + 1) (x := .int .i64 (i)) (y := .int .i64 (j)) (by first | omega | (simp; done) | (simp; omega)) (by first | assumption | (simp [go_sem, *]; done)) (by first | assumption | (simp [go_sem, *]; done))
            obtain ⟨f4x4, f4x4a, f4x4b⟩ := bel_box hb4 (b := w3.heap.size) (x := .int .i64 (maxI a c)) (y := .int .i64 (maxI b d)) (by first | omega | (simp; done) | (simp; omega)) (by first | assumption | (simp [go_sem, *]; done)) (by first | assumption | (simp [go_sem, *]; done))
            have hB4 : Below w.heap.size w w4 := bel_trans (hB3.alloc (by first | omega | (simp; done) | (simp; omega)) _) hb4
            have hl4 := hB4.size
            clear hl3 hB3 f3x3b f3x3a f3x3 f3x2b f3x2a f3x2 f3x1b f3x1a f3x1 f3x0b f3x0a f3x0
            clear hb4
            rw [← hw4]
            clear hw4
            go_region_held3 (fun w' => Below w4.heap.size w4 w' ∧ w'.cell? ⟨w3.heap.size, 0, none⟩ = some (.int .i64 (maxI a c)) ∧ w'.cell? ⟨w3.heap.size, 1, none⟩ = some (.int .i64 (maxI b d)) ∧ w'.cell? ⟨w1.heap.size, 0, none⟩ = some (.int .i64 (a)) ∧ w'.cell? ⟨w1.heap.size, 1, none⟩ = some (.int .i64 (b)) ∧ w'.cell? ⟨w1.heap.size + 1, 0, none⟩ = some (.int .i64 (c)) ∧ w'.cell? ⟨w1.heap.size + 1, 1, none⟩ = some (.int .i64 (d)))
              (first | (exact ⟨Below.drew (Below.refl _ _), f4x4a, f4x4b, f4x0a, f4x0b, f4x1a, f4x1b⟩) | (refine keepR f4x4 f4x0 f4x1 (by assumption) ?_; assumption))
              (first | (go_at_call 23; refine (HcMs.out _).mono ?_; rintro e wr ⟨rfl, hbr⟩) | (go_at_call_of 16 (Value.int .i64 d); go_at_call_of 16 (Value.int .i64 b); refine (HcM2.out _).mono ?_; rintro e wr ⟨rfl, hbr⟩) | (go_at_call_of 16 (Value.int .i64 (maxI a c)); refine (HcM4.out _).mono ?_; rintro e wr ⟨rfl, hbr⟩) | (go_at_call 16; refine (HcM3.out _).mono ?_; rintro e wr ⟨rfl, hbr⟩))
            rename_i hh
            have hb5 := hh.1
            clear hh
            obtain ⟨f5x0, f5x0a, f5x0b⟩ := bel_box hb5 (b := w1.heap.size) (x := .int .i64 (a)) (y := .int .i64 (b)) (by first | omega | (simp; done) | (simp; omega)) (by first | assumption | (simp [go_sem, *]; done)) (by first | assumption | (simp [go_sem, *]; done))
            obtain ⟨f5x1, f5x1a, f5x1b⟩ := bel_box hb5 (b := w1.heap.size + 1) (x := .int .i64 (c)) (y := .int .i64 (d)) (by first | omega | (simp; done) | (simp; omega)) (by first | assumption | (simp [go_sem, *]; done)) (by first | assumption | (simp [go_sem, *]; done))
            obtain ⟨f5x2, f5x2a, f5x2b⟩ := bel_box hb5 (b := w2.heap.size) (x := .int .i64 (0)) (y := .int .i64 (h)) (by first | omega | (simp; done) | (simp; omega)) (by first | assumption | (simp [go_sem, *]; done)) (by first | assumption | (simp [go_sem, *]; done))
            obtain ⟨f5x3, f5x3a, f5x3b⟩ := bel_box hb5 (b := w2.heap.size + 1) (x := .int .i64 (i)) (y := .int .i64 (j)) (by first | omega | (simp; done) | (simp; omega)) (by first | assumption | (simp [go_sem, *]; done)) (by first | assumption | (simp [go_sem, *]; done))
            obtain ⟨f5x4, f5x4a, f5x4b⟩ := bel_box hb5 (b := w3.heap.size) (x := .int .i64 (maxI a c)) (y := .int .i64 (maxI b d)) (by first | omega | (simp; done) | (simp; omega)) (by first | assumption | (simp [go_sem, *]; done)) (by first | assumption | (simp [go_sem, *]; done))
            have hB5 : Below w.heap.size w wr := bel_trans hB4 hb5
            have hl5 := hB5.size
            clear hl4 hB4 f4x4b f4x4a f4x4 f4x3b f4x3a f4x3 f4x2b f4x2a f4x2 f4x1b f4x1a f4x1 f4x0b f4x0a f4x0
            clear hb5
            rcases hF with hF1 | ⟨hF1, hF2⟩ | ⟨hF1, hF2, hF3⟩
            · skip
              go_wp2_with fail
              refine (HcF1.out _).mono ?_
              rintro e w6 ⟨rfl, hb6⟩
              obtain ⟨f6x0, f6x0a, f6x0b⟩ := bel_box hb6 (b := w1.heap.size) (x := .int .i64 (a)) (y := .int .i64 (b)) (by first | omega | (simp; done) | (simp; omega)) (by first | assumption | (simp [go_sem, *]; done)) (by first | assumption | (simp [go_sem, *]; done))
              obtain ⟨f6x1, f6x1a, f6x1b⟩ := bel_box hb6 (b := w1.heap.size + 1) (x := .int .i64 (c)) (y := .int .i64 (d)) (by first | omega | (simp; done) | (simp; omega)) (by first | assumption | (simp [go_sem, *]; done)) (by first | assumption | (simp [go_sem, *]; done))
              obtain ⟨f6x2, f6x2a, f6x2b⟩ := bel_box hb6 (b := w2.heap.size) (x := .int .i64 (0)) (y := .int .i64 (h)) (by first | omega | (simp; done) | (simp; omega)) (by first | assumption | (simp [go_sem, *]; done)) (by first | assumption | (simp [go_sem, *]; done))
              obtain ⟨f6x3, f6x3a, f6x3b⟩ := bel_box hb6 (b := w2.heap.size + 1) (x := .int .i64 (i)) (y := .int .i64 (j)) (by first | omega | (simp; done) | (simp; omega)) (by first | assumption | (simp [go_sem, *]; done)) (by first | assumption | (simp [go_sem, *]; done))
              obtain ⟨f6x4, f6x4a, f6x4b⟩ := bel_box hb6 (b := w3.heap.size) (x := .int .i64 (maxI a c)) (y := .int .i64 (maxI b d)) (by first | omega | (simp; done) | (simp; omega)) (by first | assumption | (simp [go_sem, *]; done)) (by first | assumption | (simp [go_sem, *]; done))
              have hB6 : Below w.heap.size w w6 := bel_trans hB5 hb6
              have hl6 := hB6.size
              clear hl5 hB5 f5x4b f5x4a f5x4 f5x3b f5x3a f5x3 f5x2b f5x2a f5x2 f5x1b f5x1a f5x1 f5x0b f5x0a f5x0
              clear hb6
              go_wp2_with fail
              refine (HcN.out _).mono ?_
              rintro e w7 ⟨rfl, hb7⟩
              obtain ⟨f7x0, f7x0a, f7x0b⟩ := bel_box hb7 (b := w1.heap.size) (x := .int .i64 (a)) (y := .int .i64 (b)) (by first | omega | (simp; done) | (simp; omega)) (by first | assumption | (simp [go_sem, *]; done)) (by first | assumption | (simp [go_sem, *]; done))
              obtain ⟨f7x1, f7x1a, f7x1b⟩ := bel_box hb7 (b := w1.heap.size + 1) (x := .int .i64 (c)) (y := .int .i64 (d)) (by first | omega | (simp; done) | (simp; omega)) (by first | assumption | (simp [go_sem, *]; done)) (by first | assumption | (simp [go_sem, *]; done))
              obtain ⟨f7x2, f7x2a, f7x2b⟩ := bel_box hb7 (b := w2.heap.size) (x := .int .i64 (0)) (y := .int .i64 (h)) (by first | omega | (simp; done) | (simp; omega)) (by first | assumption | (simp [go_sem, *]; done)) (by first | assumption | (simp [go_sem, *]; done))
              obtain ⟨f7x3, f7x3a, f7x3b⟩ := bel_box hb7 (b := w2.heap.size + 1) (x := .int .i64 (i)) (y := .int .i64 (j)) (by first | omega | (simp; done) | (simp; omega)) (by first | assumption | (simp [go_sem, *]; done)) (by first | assumption | (simp [go_sem, *]; done))
              obtain ⟨f7x4, f7x4a, f7x4b⟩ := bel_box hb7 (b := w3.heap.size) (x := .int .i64 (maxI a c)) (y := .int .i64 (maxI b d)) (by first | omega | (simp; done) | (simp; omega)) (by first | assumption | (simp [go_sem, *]; done)) (by first | assumption | (simp [go_sem, *]; done))
              have hB7 : Below w.heap.size w w7 := bel_trans hB6 hb7
              have hl7 := hB7.size
              clear hl6 hB6 f6x4b f6x4a f6x4 f6x3b f6x3a f6x3 f6x2b f6x2a f6x2 f6x1b f6x1a f6x1 f6x0b f6x0a f6x0
              clear hb7
              go_wp2_with fail
              go_region_held3 (fun w' => Below w7.heap.size w7 w' ∧ w'.cell? ⟨w1.heap.size, 0, none⟩ = some (.int .i64 (a)) ∧ w'.cell? ⟨w1.heap.size, 1, none⟩ = some (.int .i64 (b)) ∧ w'.cell? ⟨w2.heap.size, 0, none⟩ = some (.int .i64 (0)) ∧ w'.cell? ⟨w2.heap.size, 1, none⟩ = some (.int .i64 (h)) ∧ w'.cell? ⟨w2.heap.size + 1, 0, none⟩ = some (.int .i64 (i)) ∧ w'.cell? ⟨w2.heap.size + 1, 1, none⟩ = some (.int .i64 (j)))
                (first | (exact ⟨Below.drew (Below.refl _ _), f7x0a, f7x0b, f7x2a, f7x2b, f7x3a, f7x3b⟩) | (refine keepR f7x0 f7x2 f7x3 (by assumption) ?_; assumption))
                (first | (go_at_call 16; refine (HcQ.out _).mono ?_; rintro e wr ⟨rfl, hbr⟩) | (go_at_call 18; refine (HcK.out _).mono ?_; rintro e wr ⟨rfl, hbr⟩))
              rename_i hh
              have hb8 := hh.1
              clear hh
              obtain ⟨f8x0, f8x0a, f8x0b⟩ := bel_box hb8 (b := w1.heap.size) (x := .int .i64 (a)) (y := .int .i64 (b)) (by first | omega | (simp; done) | (simp; omega)) (by first | assumption | (simp [go_sem, *]; done)) (by first | assumption | (simp [go_sem, *]; done))
              obtain ⟨f8x1, f8x1a, f8x1b⟩ := bel_box hb8 (b := w1.heap.size + 1) (x := .int .i64 (c)) (y := .int .i64 (d)) (by first | omega | (simp; done) | (simp; omega)) (by first | assumption | (simp [go_sem, *]; done)) (by first | assumption | (simp [go_sem, *]; done))
              obtain ⟨f8x2, f8x2a, f8x2b⟩ := bel_box hb8 (b := w2.heap.size) (x := .int .i64 (0)) (y := .int .i64 (h)) (by first | omega | (simp; done) | (simp; omega)) (by first | assumption | (simp [go_sem, *]; done)) (by first | assumption | (simp [go_sem, *]; done))
              obtain ⟨f8x3, f8x3a, f8x3b⟩ := bel_box hb8 (b := w2.heap.size + 1) (x := .int .i64 (i)) (y := .int .i64 (j)) (by first | omega | (simp; done) | (simp; omega)) (by first | assumption | (simp [go_sem, *]; done)) (by first | assumption | (simp [go_sem, *]; done))
              obtain ⟨f8x4, f8x4a, f8x4b⟩ := bel_box hb8 (b := w3.heap.size) (x := .int .i64 (maxI a c)) (y := .int .i64 (maxI b d)) (by first | omega | (simp; done) | (simp; omega)) (by first | assumption | (simp [go_sem, *]; done)) (by first | assumption | (simp [go_sem, *]; done))
              have hB8 : Below w.heap.size w wr := bel_trans hB7 hb8
              have hl8 := hB8.size
              clear hl7 hB7 f7x4b f7x4a f7x4 f7x3b f7x3a f7x3 f7x2b f7x2a f7x2 f7x1b f7x1a f7x1 f7x0b f7x0a f7x0
              clear hb8
              go_wp2_with fail
              refine (HcNs.out _).mono ?_
              rintro e w9 ⟨rfl, hb9⟩
              obtain ⟨f9x0, f9x0a, f9x0b⟩ := bel_box hb9 (b := w1.heap.size) (x := .int .i64 (a)) (y := .int .i64 (b)) (by first | omega | (simp; done) | (simp; omega)) (by first | assumption | (simp [go_sem, *]; done)) (by first | assumption | (simp [go_sem, *]; done))
              obtain ⟨f9x1, f9x1a, f9x1b⟩ := bel_box hb9 (b := w1.heap.size + 1) (x := .int .i64 (c)) (y := .int .i64 (d)) (by first | omega | (simp; done) | (simp; omega)) (by first | assumption | (simp [go_sem, *]; done)) (by first | assumption | (simp [go_sem, *]; done))
              obtain ⟨f9x2, f9x2a, f9x2b⟩ := bel_box hb9 (b := w2.heap.size) (x := .int .i64 (0)) (y := .int .i64 (h)) (by first | omega | (simp; done) | (simp; omega)) (by first | assumption | (simp [go_sem, *]; done)) (by first | assumption | (simp [go_sem, *]; done))
              obtain ⟨f9x3, f9x3a, f9x3b⟩ := bel_box hb9 (b := w2.heap.size + 1) (x := .int .i64 (i)) (y := .int .i64 (j)) (by first | omega | (simp; done) | (simp; omega)) (by first | assumption | (simp [go_sem, *]; done)) (by first | assumption | (simp [go_sem, *]; done))
              obtain ⟨f9x4, f9x4a, f9x4b⟩ := bel_box hb9 (b := w3.heap.size) (x := .int .i64 (maxI a c)) (y := .int .i64 (maxI b d)) (by first | omega | (simp; done) | (simp; omega)) (by first | assumption | (simp [go_sem, *]; done)) (by first | assumption | (simp [go_sem, *]; done))
              have hB9 : Below w.heap.size w w9 := bel_trans hB8 hb9
              have hl9 := hB9.size
              clear hl8 hB8 f8x4b f8x4a f8x4 f8x3b f8x3a f8x3 f8x2b f8x2a f8x2 f8x1b f8x1a f8x1 f8x0b f8x0a f8x0
              clear hb9
              go_wp2_with fail
              refine (HcO1.out _).mono ?_
              rintro e w10 ⟨rfl, hb10⟩
              obtain ⟨f10x0, f10x0a, f10x0b⟩ := bel_box hb10 (b := w1.heap.size) (x := .int .i64 (a)) (y := .int .i64 (b)) (by first | omega | (simp; done) | (simp; omega)) (by first | assumption | (simp [go_sem, *]; done)) (by first | assumption | (simp [go_sem, *]; done))
              obtain ⟨f10x1, f10x1a, f10x1b⟩ := bel_box hb10 (b := w1.heap.size + 1) (x := .int .i64 (c)) (y := .int .i64 (d)) (by first | omega | (simp; done) | (simp; omega)) (by first | assumption | (simp [go_sem, *]; done)) (by first | assumption | (simp [go_sem, *]; done))
              obtain ⟨f10x2, f10x2a, f10x2b⟩ := bel_box hb10 (b := w2.heap.size) (x := .int .i64 (0)) (y := .int .i64 (h)) (by first | omega | (simp; done) | (simp; omega)) (by first | assumption | (simp [go_sem, *]; done)) (by first | assumption | (simp [go_sem, *]; done))
              obtain ⟨f10x3, f10x3a, f10x3b⟩ := bel_box hb10 (b := w2.heap.size + 1) (x := .int .i64 (i)) (y := .int .i64 (j)) (by first | omega | (simp; done) | (simp; omega)) (by first | assumption | (simp [go_sem, *]; done)) (by first | assumption | (simp [go_sem, *]; done))
              obtain ⟨f10x4, f10x4a, f10x4b⟩ := bel_box hb10 (b := w3.heap.size) (x := .int .i64 (maxI a c)) (y := .int .i64 (maxI b d)) (by first | omega | (simp; done) | (simp; omega)) (by first | assumption | (simp [go_sem, *]; done)) (by first | assumption | (simp [go_sem, *]; done))
              have hB10 : Below w.heap.size w w10 := bel_trans hB9 hb10
              have hl10 := hB10.size
              clear hl9 hB9 f9x4b f9x4a f9x4 f9x3b f9x3a f9x3 f9x2b f9x2a f9x2 f9x1b f9x1a f9x1 f9x0b f9x0a f9x0
              clear hb10
              go_wp2_with fail
              refine (HcO2.out _).mono ?_
              rintro e w11 ⟨rfl, hb11⟩
              obtain ⟨f11x0, f11x0a, f11x0b⟩ := bel_box hb11 (b := w1.heap.size) (x := .int .i64 (a)) (y := .int .i64 (b)) (by first | omega | (simp; done) | (simp; omega)) (by first | assumption | (simp [go_sem, *]; done)) (by first | assumption | (simp [go_sem, *]; done))
              obtain ⟨f11x1, f11x1a, f11x1b⟩ := bel_box hb11 (b := w1.heap.size + 1) (x := .int .i64 (c)) (y := .int .i64 (d)) (by first | omega | (simp; done) | (simp; omega)) (by first | assumption | (simp [go_sem, *]; done)) (by first | assumption | (simp [go_sem, *]; done))
              obtain ⟨f11x2, f11x2a, f11x2b⟩ := bel_box hb11 (b := w2.heap.size) (x := .int .i64 (0)) (y := .int .i64 (h)) (by first | omega | (simp; done) | (simp; omega)) (by first | assumption | (simp [go_sem, *]; done)) (by first | assumption | (simp [go_sem, *]; done))
              obtain ⟨f11x3, f11x3a, f11x3b⟩ := bel_box hb11 (b := w2.heap.size + 1) (x := .int .i64 (i)) (y := .int .i64 (j)) (by first | omega | (simp; done) | (simp; omega)) (by first | assumption | (simp [go_sem, *]; done)) (by first | assumption | (simp [go_sem, *]; done))
              obtain ⟨f11x4, f11x4a, f11x4b⟩ := bel_box hb11 (b := w3.heap.size) (x := .int .i64 (maxI a c)) (y := .int .i64 (maxI b d)) (by first | omega | (simp; done) | (simp; omega)) (by first | assumption | (simp [go_sem, *]; done)) (by first | assumption | (simp [go_sem, *]; done))
              have hB11 : Below w.heap.size w w11 := bel_trans hB10 hb11
              have hl11 := hB11.size
              clear hl10 hB10 f10x4b f10x4a f10x4 f10x3b f10x3a f10x3 f10x2b f10x2a f10x2 f10x1b f10x1a f10x1 f10x0b f10x0a f10x0
              clear hb11
              go_wp2_with fail
              go_ret
              exact ⟨rfl, hB11⟩
            · skip
              go_wp2_with fail
              refine (HcF1.out _).mono ?_
              rintro e w6 ⟨rfl, hb6⟩
              obtain ⟨f6x0, f6x0a, f6x0b⟩ := bel_box hb6 (b := w1.heap.size) (x := .int .i64 (a)) (y := .int .i64 (b)) (by first | omega | (simp; done) | (simp; omega)) (by first | assumption | (simp [go_sem, *]; done)) (by first | assumption | (simp [go_sem, *]; done))
              obtain ⟨f6x1, f6x1a, f6x1b⟩ := bel_box hb6 (b := w1.heap.size + 1) (x := .int .i64 (c)) (y := .int .i64 (d)) (by first | omega | (simp; done) | (simp; omega)) (by first | assumption | (simp [go_sem, *]; done)) (by first | assumption | (simp [go_sem, *]; done))
              obtain ⟨f6x2, f6x2a, f6x2b⟩ := bel_box hb6 (b := w2.heap.size) (x := .int .i64 (0)) (y := .int .i64 (h)) (by first | omega | (simp; done) | (simp; omega)) (by first | assumption | (simp [go_sem, *]; done)) (by first | assumption | (simp [go_sem, *]; done))
              obtain ⟨f6x3, f6x3a, f6x3b⟩ := bel_box hb6 (b := w2.heap.size + 1) (x := .int .i64 (i)) (y := .int .i64 (j)) (by first | omega | (simp; done) | (simp; omega)) (by first | assumption | (simp [go_sem, *]; done)) (by first | assumption | (simp [go_sem, *]; done))
              obtain ⟨f6x4, f6x4a, f6x4b⟩ := bel_box hb6 (b := w3.heap.size) (x := .int .i64 (maxI a c)) (y := .int .i64 (maxI b d)) (by first | omega | (simp; done) | (simp; omega)) (by first | assumption | (simp [go_sem, *]; done)) (by first | assumption | (simp [go_sem, *]; done))
              have hB6 : Below w.heap.size w w6 := bel_trans hB5 hb6
              have hl6 := hB6.size
              clear hl5 hB5 f5x4b f5x4a f5x4 f5x3b f5x3a f5x3 f5x2b f5x2a f5x2 f5x1b f5x1a f5x1 f5x0b f5x0a f5x0
              clear hb6
              go_wp2_with fail
              refine (HcF2.out _).mono ?_
              rintro e w7 ⟨rfl, hb7⟩
              obtain ⟨f7x0, f7x0a, f7x0b⟩ := bel_box hb7 (b := w1.heap.size) (x := .int .i64 (a)) (y := .int .i64 (b)) (by first | omega | (simp; done) | (simp; omega)) (by first | assumption | (simp [go_sem, *]; done)) (by first | assumption | (simp [go_sem, *]; done))
              obtain ⟨f7x1, f7x1a, f7x1b⟩ := bel_box hb7 (b := w1.heap.size + 1) (x := .int .i64 (c)) (y := .int .i64 (d)) (by first | omega | (simp; done) | (simp; omega)) (by first | assumption | (simp [go_sem, *]; done)) (by first | assumption | (simp [go_sem, *]; done))
              obtain ⟨f7x2, f7x2a, f7x2b⟩ := bel_box hb7 (b := w2.heap.size) (x := .int .i64 (0)) (y := .int .i64 (h)) (by first | omega | (simp; done) | (simp; omega)) (by first | assumption | (simp [go_sem, *]; done)) (by first | assumption | (simp [go_sem, *]; done))
              obtain ⟨f7x3, f7x3a, f7x3b⟩ := bel_box hb7 (b := w2.heap.size + 1) (x := .int .i64 (i)) (y := .int .i64 (j)) (by first | omega | (simp; done) | (simp; omega)) (by first | assumption | (simp [go_sem, *]; done)) (by first | assumption | (simp [go_sem, *]; done))
              obtain ⟨f7x4, f7x4a, f7x4b⟩ := bel_box hb7 (b := w3.heap.size) (x := .int .i64 (maxI a c)) (y := .int .i64 (maxI b d)) (by first | omega | (simp; done) | (simp; omega)) (by first | assumption | (simp [go_sem, *]; done)) (by first | assumption | (simp [go_sem, *]; done))
              have hB7 : Below w.heap.size w w7 := bel_trans hB6 hb7
              have hl7 := hB7.size
              clear hl6 hB6 f6x4b f6x4a f6x4 f6x3b f6x3a f6x3 f6x2b f6x2a f6x2 f6x1b f6x1a f6x1 f6x0b f6x0a f6x0
              clear hb7
              go_wp2_with fail
              refine (HcN.out _).mono ?_
              rintro e w8 ⟨rfl, hb8⟩
              obtain ⟨f8x0, f8x0a, f8x0b⟩ := bel_box hb8 (b := w1.heap.size) (x := .int .i64 (a)) (y := .int .i64 (b)) (by first | omega | (simp; done) | (simp; omega)) (by first | assumption | (simp [go_sem, *]; done)) (by first | assumption | (simp [go_sem, *]; done))
              obtain ⟨f8x1, f8x1a, f8x1b⟩ := bel_box hb8 (b := w1.heap.size + 1) (x := .int .i64 (c)) (y := .int .i64 (d)) (by first | omega | (simp; done) | (simp; omega)) (by first | assumption | (simp [go_sem, *]; done)) (by first | assumption | (simp [go_sem, *]; done))
              obtain ⟨f8x2, f8x2a, f8x2b⟩ := bel_box hb8 (b := w2.heap.size) (x := .int .i64 (0)) (y := .int .i64 (h)) (by first | omega | (simp; done) | (simp; omega)) (by first | assumption | (simp [go_sem, *]; done)) (by first | assumption | (simp [go_sem, *]; done))
              obtain ⟨f8x3, f8x3a, f8x3b⟩ := bel_box hb8 (b := w2.heap.size + 1) (x := .int .i64 (i)) (y := .int .i64 (j)) (by first | omega | (simp; done) | (simp; omega)) (by first | assumption | (simp [go_sem, *]; done)) (by first | assumption | (simp [go_sem, *]; done))
              obtain ⟨f8x4, f8x4a, f8x4b⟩ := bel_box hb8 (b := w3.heap.size) (x := .int .i64 (maxI a c)) (y := .int .i64 (maxI b d)) (by first | omega | (simp; done) | (simp; omega)) (by first | assumption | (simp [go_sem, *]; done)) (by first | assumption | (simp [go_sem, *]; done))
              have hB8 : Below w.heap.size w w8 := bel_trans hB7 hb8
              have hl8 := hB8.size
              clear hl7 hB7 f7x4b f7x4a f7x4 f7x3b f7x3a f7x3 f7x2b f7x2a f7x2 f7x1b f7x1a f7x1 f7x0b f7x0a f7x0
              clear hb8
              go_wp2_with fail
              go_region_held3 (fun w' => Below w8.heap.size w8 w' ∧ w'.cell? ⟨w1.heap.size, 0, none⟩ = some (.int .i64 (a)) ∧ w'.cell? ⟨w1.heap.size, 1, none⟩ = some (.int .i64 (b)) ∧ w'.cell? ⟨w2.heap.size, 0, none⟩ = some (.int .i64 (0)) ∧ w'.cell? ⟨w2.heap.size, 1, none⟩ = some (.int .i64 (h)) ∧ w'.cell? ⟨w2.heap.size + 1, 0, none⟩ = some (.int .i64 (i)) ∧ w'.cell? ⟨w2.heap.size + 1, 1, none⟩ = some (.int .i64 (j)))
                (first | (exact ⟨Below.drew (Below.refl _ _), f8x0a, f8x0b, f8x2a, f8x2b, f8x3a, f8x3b⟩) | (refine keepR f8x0 f8x2 f8x3 (by assumption) ?_; assumption))
                (first | (go_at_call 16; refine (HcQ.out _).mono ?_; rintro e wr ⟨rfl, hbr⟩) | (go_at_call 18; refine (HcK.out _).mono ?_; rintro e wr ⟨rfl, hbr⟩))
              rename_i hh
              have hb9 := hh.1
              clear hh
              obtain ⟨f9x0, f9x0a, f9x0b⟩ := bel_box hb9 (b := w1.heap.size) (x := .int .i64 (a)) (y := .int .i64 (b)) (by first | omega | (simp; done) | (simp; omega)) (by first | assumption | (simp [go_sem, *]; done)) (by first | assumption | (simp [go_sem, *]; done))
              obtain ⟨f9x1, f9x1a, f9x1b⟩ := bel_box hb9 (b := w1.heap.size + 1) (x := .int .i64 (c)) (y := .int .i64 (d)) (by first | omega | (simp; done) | (simp; omega)) (by first | assumption | (simp [go_sem, *]; done)) (by first | assumption | (simp [go_sem, *]; done))
              obtain ⟨f9x2, f9x2a, f9x2b⟩ := bel_box hb9 (b := w2.heap.size) (x := .int .i64 (0)) (y := .int .i64 (h)) (by first | omega | (simp; done) | (simp; omega)) (by first | assumption | (simp [go_sem, *]; done)) (by first | assumption | (simp [go_sem, *]; done))
              obtain ⟨f9x3, f9x3a, f9x3b⟩ := bel_box hb9 (b := w2.heap.size + 1) (x := .int .i64 (i)) (y := .int .i64 (j)) (by first | omega | (simp; done) | (simp; omega)) (by first | assumption | (simp [go_sem, *]; done)) (by first | assumption | (simp [go_sem, *]; done))
              obtain ⟨f9x4, f9x4a, f9x4b⟩ := bel_box hb9 (b := w3.heap.size) (x := .int .i64 (maxI a c)) (y := .int .i64 (maxI b d)) (by first | omega | (simp; done) | (simp; omega)) (by first | assumption | (simp [go_sem, *]; done)) (by first | assumption | (simp [go_sem, *]; done))
              have hB9 : Below w.heap.size w wr := bel_trans hB8 hb9
              have hl9 := hB9.size
              clear hl8 hB8 f8x4b f8x4a f8x4 f8x3b f8x3a f8x3 f8x2b f8x2a f8x2 f8x1b f8x1a f8x1 f8x0b f8x0a f8x0
              clear hb9
              go_wp2_with fail
              refine (HcNs.out _).mono ?_
              rintro e w10 ⟨rfl, hb10⟩
              obtain ⟨f10x0, f10x0a, f10x0b⟩ := bel_box hb10 (b := w1.heap.size) (x := .int .i64 (a)) (y := .int .i64 (b)) (by first | omega | (simp; done) | (simp; omega)) (by first | assumption | (simp [go_sem, *]; done)) (by first | assumption | (simp [go_sem, *]; done))
              obtain ⟨f10x1, f10x1a, f10x1b⟩ := bel_box hb10 (b := w1.heap.size + 1) (x := .int .i64 (c)) (y := .int .i64 (d)) (by first | omega | (simp; done) | (simp; omega)) (by first | assumption | (simp [go_sem, *]; done)) (by first | assumption | (simp [go_sem, *]; done))
              obtain ⟨f10x2, f10x2a, f10x2b⟩ := bel_box hb10 (b := w2.heap.size) (x := .int .i64 (0)) (y := .int .i64 (h)) (by first | omega | (simp; done) | (simp; omega)) (by first | assumption | (simp [go_sem, *]; done)) (by first | assumption | (simp [go_sem, *]; done))
              obtain ⟨f10x3, f10x3a, f10x3b⟩ := bel_box hb10 (b := w2.heap.size + 1) (x := .int .i64 (i)) (y := .int .i64 (j)) (by first | omega | (simp; done) | (simp; omega)) (by first | assumption | (simp [go_sem, *]; done)) (by first | assumption | (simp [go_sem, *]; done))
              obtain ⟨f10x4, f10x4a, f10x4b⟩ := bel_box hb10 (b := w3.heap.size) (x := .int .i64 (maxI a c)) (y := .int .i64 (maxI b d)) (by first | omega | (simp; done) | (simp; omega)) (by first | assumption | (simp [go_sem, *]; done)) (by first | assumption | (simp [go_sem, *]; done))
              have hB10 : Below w.heap.size w w10 := bel_trans hB9 hb10
              have hl10 := hB10.size
              clear hl9 hB9 f9x4b f9x4a f9x4 f9x3b f9x3a f9x3 f9x2b f9x2a f9x2 f9x1b f9x1a f9x1 f9x0b f9x0a f9x0
              clear hb10
              go_wp2_with fail
              refine (HcO1.out _).mono ?_
              rintro e w11 ⟨rfl, hb11⟩
              obtain ⟨f11x0, f11x0a, f11x0b⟩ := bel_box hb11 (b := w1.heap.size) (x := .int .i64 (a)) (y := .int .i64 (b)) (by first | omega | (simp; done) | (simp; omega)) (by first | assumption | (simp [go_sem, *]; done)) (by first | assumption | (simp [go_sem, *]; done))
              obtain ⟨f11x1, f11x1a, f11x1b⟩ := bel_box hb11 (b := w1.heap.size + 1) (x := .int .i64 (c)) (y := .int .i64 (d)) (by first | omega | (simp; done) | (simp; omega)) (by first | assumption | (simp [go_sem, *]; done)) (by first | assumption | (simp [go_sem, *]; done))
              obtain ⟨f11x2, f11x2a, f11x2b⟩ := bel_box hb11 (b := w2.heap.size) (x := .int .i64 (0)) (y := .int .i64 (h)) (by first | omega | (simp; done) | (simp; omega)) (by first | assumption | (simp [go_sem, *]; done)) (by first | assumption | (simp [go_sem, *]; done))
              obtain ⟨f11x3, f11x3a, f11x3b⟩ := bel_box hb11 (b := w2.heap.size + 1) (x := .int .i64 (i)) (y := .int .i64 (j)) (by first | omega | (simp; done) | (simp; omega)) (by first | assumption | (simp [go_sem, *]; done)) (by first | assumption | (simp [go_sem, *]; done))
              obtain ⟨f11x4, f11x4a, f11x4b⟩ := bel_box hb11 (b := w3.heap.size) (x := .int .i64 (maxI a c)) (y := .int .i64 (maxI b d)) (by first | omega | (simp; done) | (simp; omega)) (by first | assumption | (simp [go_sem, *]; done)) (by first | assumption | (simp [go_sem, *]; done))
              have hB11 : Below w.heap.size w w11 := bel_trans hB10 hb11
              have hl11 := hB11.size
              clear hl10 hB10 f10x4b f10x4a f10x4 f10x3b f10x3a f10x3 f10x2b f10x2a f10x2 f10x1b f10x1a f10x1 f10x0b f10x0a f10x0
              clear hb11
              go_wp2_with fail
              refine (HcO2.out _).mono ?_
              rintro e w12 ⟨rfl, hb12⟩
              obtain ⟨f12x0, f12x0a, f12x0b⟩ := bel_box hb12 (b := w1.heap.size) (x := .int .i64 (a)) (y := .int .i64 (b)) (by first | omega | (simp; done) | (simp; omega)) (by first | assumption | (simp [go_sem, *]; done)) (by first | assumption | (simp [go_sem, *]; done))
              obtain ⟨f12x1, f12x1a, f12x1b⟩ := bel_box hb12 (b := w1.heap.size + 1) (x := .int .i64 (c)) (y := .int .i64 (d)) (by first | omega | (simp; done) | (simp; omega)) (by first | assumption | (simp [go_sem, *]; done)) (by first | assumption | (simp [go_sem, *]; done))
              obtain ⟨f12x2, f12x2a, f12x2b⟩ := bel_box hb12 (b := w2.heap.size) (x := .int .i64 (0)) (y := .int .i64 (h)) (by first | omega | (simp; done) | (simp; omega)) (by first | assumption | (simp [go_sem, *]; done)) (by first | assumption | (simp [go_sem, *]; done))
              obtain ⟨f12x3, f12x3a, f12x3b⟩ := bel_box hb12 (b := w2.heap.size + 1) (x := .int .i64 (i)) (y := .int .i64 (j)) (by first | omega | (simp; done) | (simp; omega)) (by first | assumption | (simp [go_sem, *]; done)) (by first | assumption | (simp [go_sem, *]; done))
              obtain ⟨f12x4, f12x4a, f12x4b⟩ := bel_box hb12 (b := w3.heap.size) (x := .int .i64 (maxI a c)) (y := .int .i64 (maxI b d)) (by first | omega | (simp; done) | (simp; omega)) (by first | assumption | (simp [go_sem, *]; done)) (by first | assumption | (simp [go_sem, *]; done))
              have hB12 : Below w.heap.size w w12 := bel_trans hB11 hb12
              have hl12 := hB12.size
              clear hl11 hB11 f11x4b f11x4a f11x4 f11x3b f11x3a f11x3 f11x2b f11x2a f11x2 f11x1b f11x1a f11x1 f11x0b f11x0a f11x0
              clear hb12
              go_wp2_with fail
              go_ret
              exact ⟨rfl, hB12⟩
            · skip
              go_wp2_with fail
              refine (HcF1.out _).mono ?_
              rintro e w6 ⟨rfl, hb6⟩
              obtain ⟨f6x0, f6x0a, f6x0b⟩ := bel_box hb6 (b := w1.heap.size) (x := .int .i64 (a)) (y := .int .i64 (b)) (by first | omega | (simp; done) | (simp; omega)) (by first | assumption | (simp [go_sem, *]; done)) (by first | assumption | (simp [go_sem, *]; done))
              obtain ⟨f6x1, f6x1a, f6x1b⟩ := bel_box hb6 (b := w1.heap.size + 1) (x := .int .i64 (c)) (y := .int .i64 (d)) (by first | omega | (simp; done) | (simp; omega)) (by first | assumption | (simp [go_sem, *]; done)) (by first | assumption | (simp [go_sem, *]; done))
              obtain ⟨f6x2, f6x2a, f6x2b⟩ := bel_box hb6 (b := w2.heap.size) (x := .int .i64 (0)) (y := .int .i64 (h)) (by first | omega | (simp; done) | (simp; omega)) (by first | assumption | (simp [go_sem, *]; done)) (by first | assumption | (simp [go_sem, *]; done))
              obtain ⟨f6x3, f6x3a, f6x3b⟩ := bel_box hb6 (b := w2.heap.size + 1) (x := .int .i64 (i)) (y := .int .i64 (j)) (by first | omega | (simp; done) | (simp; omega)) (by first | assumption | (simp [go_sem, *]; done)) (by first | assumption | (simp [go_sem, *]; done))
              obtain ⟨f6x4, f6x4a, f6x4b⟩ := bel_box hb6 (b := w3.heap.size) (x := .int .i64 (maxI a c)) (y := .int .i64 (maxI b d)) (by first | omega | (simp; done) | (simp; omega)) (by first | assumption | (simp [go_sem, *]; done)) (by first | assumption | (simp [go_sem, *]; done))
              have hB6 : Below w.heap.size w w6 := bel_trans hB5 hb6
              have hl6 := hB6.size
              clear hl5 hB5 f5x4b f5x4a f5x4 f5x3b f5x3a f5x3 f5x2b f5x2a f5x2 f5x1b f5x1a f5x1 f5x0b f5x0a f5x0
              clear hb6
              go_wp2_with fail
              refine (HcF2.out _).mono ?_
              rintro e w7 ⟨rfl, hb7⟩
              obtain ⟨f7x0, f7x0a, f7x0b⟩ := bel_box hb7 (b := w1.heap.size) (x := .int .i64 (a)) (y := .int .i64 (b)) (by first | omega | (simp; done) | (simp; omega)) (by first | assumption | (simp [go_sem, *]; done)) (by first | assumption | (simp [go_sem, *]; done))
              obtain ⟨f7x1, f7x1a, f7x1b⟩ := bel_box hb7 (b := w1.heap.size + 1) (x := .int .i64 (c)) (y := .int .i64 (d)) (by first | omega | (simp; done) | (simp; omega)) (by first | assumption | (simp [go_sem, *]; done)) (by first | assumption | (simp [go_sem, *]; done))
              obtain ⟨f7x2, f7x2a, f7x2b⟩ := bel_box hb7 (b := w2.heap.size) (x := .int .i64 (0)) (y := .int .i64 (h)) (by first | omega | (simp; done) | (simp; omega)) (by first | assumption | (simp [go_sem, *]; done)) (by first | assumption | (simp [go_sem, *]; done))
              obtain ⟨f7x3, f7x3a, f7x3b⟩ := bel_box hb7 (b := w2.heap.size + 1) (x := .int .i64 (i)) (y := .int .i64 (j)) (by first | omega | (simp; done) | (simp; omega)) (by first | assumption | (simp [go_sem, *]; done)) (by first | assumption | (simp [go_sem, *]; done))
              obtain ⟨f7x4, f7x4a, f7x4b⟩ := bel_box hb7 (b := w3.heap.size) (x := .int .i64 (maxI a c)) (y := .int .i64 (maxI b d)) (by first | omega | (simp; done) | (simp; omega)) (by first | assumption | (simp [go_sem, *]; done)) (by first | assumption | (simp [go_sem, *]; done))
              have hB7 : Below w.heap.size w w7 := bel_trans hB6 hb7
              have hl7 := hB7.size
              clear hl6 hB6 f6x4b f6x4a f6x4 f6x3b f6x3a f6x3 f6x2b f6x2a f6x2 f6x1b f6x1a f6x1 f6x0b f6x0a f6x0
              clear hb7
              go_wp2_with fail
              refine (HcF3.out _).mono ?_
              rintro e w8 ⟨rfl, hb8⟩
              obtain ⟨f8x0, f8x0a, f8x0b⟩ := bel_box hb8 (b := w1.heap.size) (x := .int .i64 (a)) (y := .int .i64 (b)) (by first | omega | (simp; done) | (simp; omega)) (by first | assumption | (simp [go_sem, *]; done)) (by first | assumption | (simp [go_sem, *]; done))
              obtain ⟨f8x1, f8x1a, f8x1b⟩ := bel_box hb8 (b := w1.heap.size + 1) (x := .int .i64 (c)) (y := .int .i64 (d)) (by first | omega | (simp; done) | (simp; omega)) (by first | assumption | (simp [go_sem, *]; done)) (by first | assumption | (simp [go_sem, *]; done))
              obtain ⟨f8x2, f8x2a, f8x2b⟩ := bel_box hb8 (b := w2.heap.size) (x := .int .i64 (0)) (y := .int .i64 (h)) (by first | omega | (simp; done) | (simp; omega)) (by first | assumption | (simp [go_sem, *]; done)) (by first | assumption | (simp [go_sem, *]; done))
              obtain ⟨f8x3, f8x3a, f8x3b⟩ := bel_box hb8 (b := w2.heap.size + 1) (x := .int .i64 (i)) (y := .int .i64 (j)) (by first | omega | (simp; done) | (simp; omega)) (by first | assumption | (simp [go_sem, *]; done)) (by first | assumption | (simp [go_sem, *]; done))
              obtain ⟨f8x4, f8x4a, f8x4b⟩ := bel_box hb8 (b := w3.heap.size) (x := .int .i64 (maxI a c)) (y := .int .i64 (maxI b d)) (by first | omega | (simp; done) | (simp; omega)) (by first | assumption | (simp [go_sem, *]; done)) (by first | assumption | (simp [go_sem, *]; done))
              have hB8 : Below w.heap.size w w8 := bel_trans hB7 hb8
              have hl8 := hB8.size
              clear hl7 hB7 f7x4b f7x4a f7x4 f7x3b f7x3a f7x3 f7x2b f7x2a f7x2 f7x1b f7x1a f7x1 f7x0b f7x0a f7x0
              clear hb8
              go_wp2_with fail
              refine (HcN.out _).mono ?_
              rintro e w9 ⟨rfl, hb9⟩
              obtain ⟨f9x0, f9x0a, f9x0b⟩ := bel_box hb9 (b := w1.heap.size) (x := .int .i64 (a)) (y := .int .i64 (b)) (by first | omega | (simp; done) | (simp; omega)) (by first | assumption | (simp [go_sem, *]; done)) (by first | assumption | (simp [go_sem, *]; done))
              obtain ⟨f9x1, f9x1a, f9x1b⟩ := bel_box hb9 (b := w1.heap.size + 1) (x := .int .i64 (c)) (y := .int .i64 (d)) (by first | omega | (simp; done) | (simp; omega)) (by first | assumption | (simp [go_sem, *]; done)) (by first | assumption | (simp [go_sem, *]; done))
              obtain ⟨f9x2, f9x2a, f9x2b⟩ := bel_box hb9 (b := w2.heap.size) (x := .int .i64 (0)) (y := .int .i64 (h)) (by first | omega | (simp; done) | (simp; omega)) (by first | assumption | (simp [go_sem, *]; done)) (by first | assumption | (simp [go_sem, *]; done))
              obtain ⟨f9x3, f9x3a, f9x3b⟩ := bel_box hb9 (b := w2.heap.size + 1) (x := .int .i64 (i)) (y := .int .i64 (j)) (by first | omega | (simp; done) | (simp; omega)) (by first | assumption | (simp [go_sem, *]; done)) (by first | assumption | (simp [go_sem, *]; done))
              obtain ⟨f9x4, f9x4a, f9x4b⟩ := bel_box hb9 (b := w3.heap.size) (x := .int .i64 (maxI a c)) (y := .int .i64 (maxI b d)) (by first | omega | (simp; done) | (simp; omega)) (by first | assumption | (simp [go_sem, *]; done)) (by first | assumption | (simp [go_sem, *]; done))
              have hB9 : Below w.heap.size w w9 := bel_trans hB8 hb9
              have hl9 := hB9.size
              clear hl8 hB8 f8x4b f8x4a f8x4 f8x3b f8x3a f8x3 f8x2b f8x2a f8x2 f8x1b f8x1a f8x1 f8x0b f8x0a f8x0
              clear hb9
              go_wp2_with fail
              go_region_held3 (fun w' => Below w9.heap.size w9 w' ∧ w'.cell? ⟨w1.heap.size, 0, none⟩ = some (.int .i64 (a)) ∧ w'.cell? ⟨w1.heap.size, 1, none⟩ = some (.int .i64 (b)) ∧ w'.cell? ⟨w2.heap.size, 0, none⟩ = some (.int .i64 (0)) ∧ w'.cell? ⟨w2.heap.size, 1, none⟩ = some (.int .i64 (h)) ∧ w'.cell? ⟨w2.heap.size + 1, 0, none⟩ = some (.int .i64 (i)) ∧ w'.cell? ⟨w2.heap.size + 1, 1, none⟩ = some (.int .i64 (j)))
                (first | (exact ⟨Below.drew (Below.refl _ _), f9x0a, f9x0b, f9x2a, f9x2b, f9x3a, f9x3b⟩) | (refine keepR f9x0 f9x2 f9x3 (by assumption) ?_; assumption))
                (first | (go_at_call 16; refine (HcQ.out _).mono ?_; rintro e wr ⟨rfl, hbr⟩) | (go_at_call 18; refine (HcK.out _).mono ?_; rintro e wr ⟨rfl, hbr⟩))
              rename_i hh
              have hb10 := hh.1
              clear hh
              obtain ⟨f10x0, f10x0a, f10x0b⟩ := bel_box hb10 (b := w1.heap.size) (x := .int .i64 (a)) (y := .int .i64 (b)) (by first | omega | (simp; done) | (simp; omega)) (by first | assumption | (simp [go_sem, *]; done)) (by first | assumption | (simp [go_sem, *]; done))
              obtain ⟨f10x1, f10x1a, f10x1b⟩ := bel_box hb10 (b := w1.heap.size + 1) (x := .int .i64 (c)) (y := .int .i64 (d)) (by first | omega | (simp; done) | (simp; omega)) (by first | assumption | (simp [go_sem, *]; done)) (by first | assumption | (simp [go_sem, *]; done))
              obtain ⟨f10x2, f10x2a, f10x2b⟩ := bel_box hb10 (b := w2.heap.size) (x := .int .i64 (0)) (y := .int .i64 (h)) (by first | omega | (simp; done) | (simp; omega)) (by first | assumption | (simp [go_sem, *]; done)) (by first | assumption | (simp [go_sem, *]; done))
              obtain ⟨f10x3, f10x3a, f10x3b⟩ := bel_box hb10 (b := w2.heap.size + 1) (x := .int .i64 (i)) (y := .int .i64 (j)) (by first | omega | (simp; done) | (simp; omega)) (by first | assumption | (simp [go_sem, *]; done)) (by first | assumption | (simp [go_sem, *]; done))
              obtain ⟨f10x4, f10x4a, f10x4b⟩ := bel_box hb10 (b := w3.heap.size) (x := .int .i64 (maxI a c)) (y := .int .i64 (maxI b d)) (by first | omega | (simp; done) | (simp; omega)) (by first | assumption | (simp [go_sem, *]; done)) (by first | assumption | (simp [go_sem, *]; done))
              have hB10 : Below w.heap.size w wr := bel_trans hB9 hb10
              have hl10 := hB10.size
              clear hl9 hB9 f9x4b f9x4a f9x4 f9x3b f9x3a f9x3 f9x2b f9x2a f9x2 f9x1b f9x1a f9x1 f9x0b f9x0a f9x0
              clear hb10
              go_wp2_with fail
              refine (HcNs.out _).mono ?_
              rintro e w11 ⟨rfl, hb11⟩
              obtain ⟨f11x0, f11x0a, f11x0b⟩ := bel_box hb11 (b := w1.heap.size) (x := .int .i64 (a)) (y := .int .i64 (b)) (by first | omega | (simp; done) | (simp; omega)) (by first | assumption | (simp [go_sem, *]; done)) (by first | assumption | (simp [go_sem, *]; done))
              obtain ⟨f11x1, f11x1a, f11x1b⟩ := bel_box hb11 (b := w1.heap.size + 1) (x := .int .i64 (c)) (y := .int .i64 (d)) (by first | omega | (simp; done) | (simp; omega)) (by first | assumption | (simp [go_sem, *]; done)) (by first | assumption | (simp [go_sem, *]; done))
              obtain ⟨f11x2, f11x2a, f11x2b⟩ := bel_box hb11 (b := w2.heap.size) (x := .int .i64 (0)) (y := .int .i64 (h)) (by first | omega | (simp; done) | (simp; omega)) (by first | assumption | (simp [go_sem, *]; done)) (by first | assumption | (simp [go_sem, *]; done))
              obtain ⟨f11x3, f11x3a, f11x3b⟩ := bel_box hb11 (b := w2.heap.size + 1) (x := .int .i64 (i)) (y := .int .i64 (j)) (by first | omega | (simp; done) | (simp; omega)) (by first | assumption | (simp [go_sem, *]; done)) (by first | assumption | (simp [go_sem, *]; done))
              obtain ⟨f11x4, f11x4a, f11x4b⟩ := bel_box hb11 (b := w3.heap.size) (x := .int .i64 (maxI a c)) (y := .int .i64 (maxI b d)) (by first | omega | (simp; done) | (simp; omega)) (by first | assumption | (simp [go_sem, *]; done)) (by first | assumption | (simp [go_sem, *]; done))
              have hB11 : Below w.heap.size w w11 := bel_trans hB10 hb11
              have hl11 := hB11.size
              clear hl10 hB10 f10x4b f10x4a f10x4 f10x3b f10x3a f10x3 f10x2b f10x2a f10x2 f10x1b f10x1a f10x1 f10x0b f10x0a f10x0
              clear hb11
              go_wp2_with fail
              refine (HcO1.out _).mono ?_
              rintro e w12 ⟨rfl, hb12⟩
              obtain ⟨f12x0, f12x0a, f12x0b⟩ := bel_box hb12 (b := w1.heap.size) (x := .int .i64 (a)) (y := .int .i64 (b)) (by first | omega | (simp; done) | (simp; omega)) (by first | assumption | (simp [go_sem, *]; done)) (by first | assumption | (simp [go_sem, *]; done))
              obtain ⟨f12x1, f12x1a, f12x1b⟩ := bel_box hb12 (b := w1.heap.size + 1) (x := .int .i64 (c)) (y := .int .i64 (d)) (by first | omega | (simp; done) | (simp; omega)) (by first | assumption | (simp [go_sem, *]; done)) (by first | assumption | (simp [go_sem, *]; done))
              obtain ⟨f12x2, f12x2a, f12x2b⟩ := bel_box hb12 (b := w2.heap.size) (x := .int .i64 (0)) (y := .int .i64 (h)) (by first | omega | (simp; done) | (simp; omega)) (by first | assumption | (simp [go_sem, *]; done)) (by first | assumption | (simp [go_sem, *]; done))
              obtain ⟨f12x3, f12x3a, f12x3b⟩ := bel_box hb12 (b := w2.heap.size + 1) (x := .int .i64 (i)) (y := .int .i64 (j)) (by first | omega | (simp; done) | (simp; omega)) (by first | assumption | (simp [go_sem, *]; done)) (by first | assumption | (simp [go_sem, *]; done))
              obtain ⟨f12x4, f12x4a, f12x4b⟩ := bel_box hb12 (b := w3.heap.size) (x := .int .i64 (maxI a c)) (y := .int .i64 (maxI b d)) (by first | omega | (simp; done) | (simp; omega)) (by first | assumption | (simp [go_sem, *]; done)) (by first | assumption | (simp [go_sem, *]; done))
              have hB12 : Below w.heap.size w w12 := bel_trans hB11 hb12
              have hl12 := hB12.size
              clear hl11 hB11 f11x4b f11x4a f11x4 f11x3b f11x3a f11x3 f11x2b f11x2a f11x2 f11x1b f11x1a f11x1 f11x0b f11x0a f11x0
              clear hb12
              go_wp2_with fail
              refine (HcO2.out _).mono ?_
              rintro e w13 ⟨rfl, hb13⟩
              obtain ⟨f13x0, f13x0a, f13x0b⟩ := bel_box hb13 (b := w1.heap.size) (x := .int .i64 (a)) (y := .int .i64 (b)) (by first | omega | (simp; done) | (simp; omega)) (by first | assumption | (simp [go_sem, *]; done)) (by first | assumption | (simp [go_sem, *]; done))
              obtain ⟨f13x1, f13x1a, f13x1b⟩ := bel_box hb13 (b := w1.heap.size + 1) (x := .int .i64 (c)) (y := .int .i64 (d)) (by first | omega | (simp; done) | (simp; omega)) (by first | assumption | (simp [go_sem, *]; done)) (by first | assumption | (simp [go_sem, *]; done))
              obtain ⟨f13x2, f13x2a, f13x2b⟩ := bel_box hb13 (b := w2.heap.size) (x := .int .i64 (0)) (y := .int .i64 (h)) (by first | omega | (simp; done) | (simp; omega)) (by first | assumption | (simp [go_sem, *]; done)) (by first | assumption | (simp [go_sem, *]; done))
              obtain ⟨f13x3, f13x3a, f13x3b⟩ := bel_box hb13 (b := w2.heap.size + 1) (x := .int .i64 (i)) (y := .int .i64 (j)) (by first | omega | (simp; done) | (simp; omega)) (by first | assumption | (simp [go_sem, *]; done)) (by first | assumption | (simp [go_sem, *]; done))
              obtain ⟨f13x4, f13x4a, f13x4b⟩ := bel_box hb13 (b := w3.heap.size) (x := .int .i64 (maxI a c)) (y := .int .i64 (maxI b d)) (by first | omega | (simp; done) | (simp; omega)) (by first | assumption | (simp [go_sem, *]; done)) (by first | assumption | (simp [go_sem, *]; done))
              have hB13 : Below w.heap.size w w13 := bel_trans hB12 hb13
              have hl13 := hB13.size
              clear hl12 hB12 f12x4b f12x4a f12x4 f12x3b f12x3a f12x3 f12x2b f12x2a f12x2 f12x1b f12x1a f12x1 f12x0b f12x0a f12x0
              clear hb13
              go_wp2_with fail
              go_ret
              exact ⟨rfl, hB13⟩
        · have h3 : notB g h = false := by simp [notB, hg]
          have cM : ∀ w, Calls Try.prog 16 #[.agg #[.int .i64 (a), .int .i64 (b)], .agg #[.int .i64 (c), .int .i64 (d)]] w fun e w' => e = .returned (.agg #[.int .i64 (maxI a c), .int .i64 (maxI b d)]) ∧ Below w.heap.size w w' := implMost_any a b c d
          have cMs : ∀ w, Calls Try.prog 23 #[.agg #[.int .i64 (a), .int .i64 (b)], .agg #[.int .i64 (c), .int .i64 (d)]] w fun e w' => e = .returned (.agg #[.int .i64 (maxI a c), .int .i64 (maxI b d)]) ∧ Below w.heap.size w w' := specMost_any a b c d
          have cM2 : ∀ w, Calls Try.prog 16 #[.agg #[.int .i64 (c), .int .i64 (d)], .agg #[.int .i64 (a), .int .i64 (b)]] w fun e w' => e = .returned (.agg #[.int .i64 (maxI a c), .int .i64 (maxI b d)]) ∧ Below w.heap.size w w' := fun w => by have := implMost_any c d a b w; rwa [maxI_comm a c, maxI_comm b d] at this
          have cM3 : ∀ w, Calls Try.prog 16 #[.agg #[.int .i64 (a), .int .i64 (b)], .agg #[.int .i64 (a), .int .i64 (b)]] w fun e w' => e = .returned (.agg #[.int .i64 (a), .int .i64 (b)]) ∧ Below w.heap.size w w' := fun w => by have := implMost_any a b a b w; rwa [maxI_self a, maxI_self b] at this
          have cM4 : ∀ w, Calls Try.prog 16 #[.agg #[.int .i64 (maxI a c), .int .i64 (maxI b d)], .agg #[.int .i64 (a), .int .i64 (b)]] w fun e w' => e = .returned (.agg #[.int .i64 (maxI a c), .int .i64 (maxI b d)]) ∧ Below w.heap.size w w' := fun w => by have := implMost_any (maxI a c) (maxI b d) a b w; rwa [maxI_again a c, maxI_again b d] at this
          have cF1 : ∀ w, Calls Try.prog 17 #[.agg #[.int .i64 (a), .int .i64 (b)], .agg #[.int .i64 (c), .int .i64 (d)]] w fun e w' => e = .returned (.bool (fitB a b c d)) ∧ Below w.heap.size w w' := implFits_any a b c d
          have cF2 : ∀ w, Calls Try.prog 17 #[.agg #[.int .i64 (c), .int .i64 (d)], .agg #[.int .i64 (g), .int .i64 (h)]] w fun e w' => e = .returned (.bool (fitB c d g h)) ∧ Below w.heap.size w w' := implFits_any c d g h
          have cF3 : ∀ w, Calls Try.prog 17 #[.agg #[.int .i64 (a), .int .i64 (b)], .agg #[.int .i64 (g), .int .i64 (h)]] w fun e w' => e = .returned (.bool (fitB a b g h)) ∧ Below w.heap.size w w' := implFits_any a b g h
          have cN : ∀ w, Calls Try.prog 18 #[.agg #[.int .i64 (g), .int .i64 (h)], .agg #[.int .i64 (i), .int .i64 (j)]] w fun e w' => e = .returned (.int .i64 (slotsI g h i j)) ∧ Below w.heap.size w w' := implSlots_any g h i j
          have cNs : ∀ w, Calls Try.prog 19 #[.agg #[.int .i64 (g), .int .i64 (h)], .agg #[.int .i64 (i), .int .i64 (j)]] w fun e w' => e = .returned (.int .i64 (slotsI g h i j)) ∧ Below w.heap.size w w' := specSlots_any g h i j
          have cQ : ∀ w, Calls Try.prog 16 #[.agg #[.int .i64 (a), .int .i64 (b)], .agg #[.int .i64 (g), .int .i64 (h)]] w fun e w' => e = .returned (.agg #[.int .i64 (maxI a g), .int .i64 (maxI b h)]) ∧ Below w.heap.size w w' := implMost_any a b g h
          have cK : ∀ w, Calls Try.prog 18 #[.agg #[.int .i64 (maxI a g), .int .i64 (maxI b h)], .agg #[.int .i64 (i), .int .i64 (j)]] w fun e w' => e = .returned (.int .i64 (slotsI (maxI a g) (maxI b h) i j)) ∧ Below w.heap.size w w' := implSlots_any (maxI a g) (maxI b h) i j
          have cO1 : ∀ w, Calls Try.prog 20 #[.agg #[.int .i64 (a), .int .i64 (b)]] w fun e w' => e = .returned (.bool true) ∧ Below w.heap.size w w' := fun w => by have := specOk_any a b w; rwa [h1] at this
          have cO2 : ∀ w, Calls Try.prog 20 #[.agg #[.int .i64 (g), .int .i64 (h)]] w fun e w' => e = .returned (.bool true) ∧ Below w.heap.size w w' := fun w => by have := specOk_any g h w; rwa [h2] at this
          have hle : slotsI (maxI a g) (maxI b h) i j ≤ slotsI g h i j := slots_less h1 h2 h3
          have hF : (fitB a b c d = false) ∨ (fitB a b c d = true ∧ fitB c d g h = false) ∨ (fitB a b c d = true ∧ fitB c d g h = true ∧ fitB a b g h = true) := by
            cases x1 : fitB a b c d
            · exact .inl rfl
            · cases x2 : fitB c d g h
              · exact .inr (.inl ⟨rfl, rfl⟩)
              · exact .inr (.inr ⟨rfl, rfl, fit_iff.2 (by have := fit_iff.1 x1; have := fit_iff.1 x2; omega)⟩)
          have HcM := hidden cM; clear cM
          have HcMs := hidden cMs; clear cMs
          have HcM2 := hidden cM2; clear cM2
          have HcM3 := hidden cM3; clear cM3
          have HcM4 := hidden cM4; clear cM4
          have HcF1 := hidden cF1; clear cF1
          have HcF2 := hidden cF2; clear cF2
          have HcF3 := hidden cF3; clear cF3
          have HcN := hidden cN; clear cN
          have HcNs := hidden cNs; clear cNs
          have HcQ := hidden cQ; clear cQ
          have HcK := hidden cK; clear cK
          have HcO1 := hidden cO1; clear cO1
          have HcO2 := hidden cO2; clear cO2
          clear h1 h2 h3
          go_wp2_with fail
          refine (HcM.out _).mono ?_
          rintro e w3 ⟨rfl, hb3⟩
          obtain ⟨f3x0, f3x0a, f3x0b⟩ := bel_box hb3 (b := w1.heap.size) (x := .int .i64 (a)) (y := .int .i64 (b)) (by first | omega | (simp; done) | (simp; omega)) (by first | assumption | (simp [go_sem, *]; done)) (by first | assumption | (simp [go_sem, *]; done))
          obtain ⟨f3x1, f3x1a, f3x1b⟩ := bel_box hb3 (b := w1.heap.size + 1) (x := .int .i64 (c)) (y := .int .i64 (d)) (by first | omega | (simp; done) | (simp; omega)) (by first | assumption | (simp [go_sem, *]; done)) (by first | assumption | (simp [go_sem, *]; done))
          obtain ⟨f3x2, f3x2a, f3x2b⟩ := bel_box hb3 (b := w2.heap.size) (x := .int .i64 (g)) (y := .int .i64 (h)) (by first | omega | (simp; done) | (simp; omega)) (by first | assumption | (simp [go_sem, *]; done)) (by first | assumption | (simp [go_sem, *]; done))
          obtain ⟨f3x3, f3x3a, f3x3b⟩ := bel_box hb3 (b := w2.heap.size + 1) (x := .int .i64 (i)) (y := .int .i64 (j)) (by first | omega | (simp; done) | (simp; omega)) (by first | assumption | (simp [go_sem, *]; done)) (by first | assumption | (simp [go_sem, *]; done))
          have hB3 : Below w.heap.size w w3 := bel_trans ((hB2.alloc (by first | omega | (simp; done) | (simp; omega)) _).alloc (by first | omega | (simp; done) | (simp; omega)) _) hb3
          have hl3 := hB3.size
          clear hl2 hB2 f2x1b f2x1a f2x1 f2x0b f2x0a f2x0
          clear hb3
          go_wp2_with fail
          obtain ⟨w4, hw4⟩ : ∃ x, x = (w3.alloc (.cells #[.int .i64 (maxI a c), .int .i64 (maxI b d)] 24)) := ⟨_, rfl⟩
          have hb4 : Below ((w3.alloc (.cells #[.int .i64 (maxI a c), .int .i64 (maxI b d)] 24))).heap.size ((w3.alloc (.cells #[.int .i64 (maxI a c), .int .i64 (maxI b d)] 24))) w4 := by rw [hw4]; exact Below.refl _ _
          obtain ⟨f4x0, f4x0a, f4x0b⟩ := bel_box hb4 (b := w1.heap.size) (x := .int .i64 (a)) (y := .int .i64 (b)) (by first | omega | (simp; done) | (simp; omega)) (by first | assumption | (simp [go_sem, *]; done)) (by first | assumption | (simp [go_sem, *]; done))
          obtain ⟨f4x1, f4x1a, f4x1b⟩ := bel_box hb4 (b := w1.heap.size + 1) (x := .int .i64 (c)) (y := .int .i64 (d)) (by first | omega | (simp; done) | (simp; omega)) (by first | assumption | (simp [go_sem, *]; done)) (by first | assumption | (simp [go_sem, *]; done))
          obtain ⟨f4x2, f4x2a, f4x2b⟩ := bel_box hb4 (b := w2.heap.size) (x := .int .i64 (g)) (y := .int .i64 (h)) (by first | omega | (simp; done) | (simp; omega)) (by first | assumption | (simp [go_sem, *]; done)) (by first | assumption | (simp [go_sem, *]; done))
          obtain ⟨f4x3, f4x3a, f4x3b⟩ := bel_box hb4 (b := w2.heap.size + 1) (x := .int .i64 (i)) (y := .int .i64 (j)) (by first | omega | (simp; done) | (simp; omega)) (by first | assumption | (simp [go_sem, *]; done)) (by first | assumption | (simp [go_sem, *]; done))
          obtain ⟨f4x4, f4x4a, f4x4b⟩ := bel_box hb4 (b := w3.heap.size) (x := .int .i64 (maxI a c)) (y := .int .i64 (maxI b d)) (by first | omega | (simp; done) | (simp; omega)) (by first | assumption | (simp [go_sem, *]; done)) (by first | assumption | (simp [go_sem, *]; done))
          have hB4 : Below w.heap.size w w4 := bel_trans (hB3.alloc (by first | omega | (simp; done) | (simp; omega)) _) hb4
          have hl4 := hB4.size
          clear hl3 hB3 f3x3b f3x3a f3x3 f3x2b f3x2a f3x2 f3x1b f3x1a f3x1 f3x0b f3x0a f3x0
          clear hb4
          rw [← hw4]
          clear hw4
          go_region_held3 (fun w' => Below w4.heap.size w4 w' ∧ w'.cell? ⟨w3.heap.size, 0, none⟩ = some (.int .i64 (maxI a c)) ∧ w'.cell? ⟨w3.heap.size, 1, none⟩ = some (.int .i64 (maxI b d)) ∧ w'.cell? ⟨w1.heap.size, 0, none⟩ = some (.int .i64 (a)) ∧ w'.cell? ⟨w1.heap.size, 1, none⟩ = some (.int .i64 (b)) ∧ w'.cell? ⟨w1.heap.size + 1, 0, none⟩ = some (.int .i64 (c)) ∧ w'.cell? ⟨w1.heap.size + 1, 1, none⟩ = some (.int .i64 (d)))
            (first | (exact ⟨Below.drew (Below.refl _ _), f4x4a, f4x4b, f4x0a, f4x0b, f4x1a, f4x1b⟩) | (refine keepR f4x4 f4x0 f4x1 (by assumption) ?_; assumption))
            (first | (go_at_call 23; refine (HcMs.out _).mono ?_; rintro e wr ⟨rfl, hbr⟩) | (go_at_call_of 16 (Value.int .i64 d); go_at_call_of 16 (Value.int .i64 b); refine (HcM2.out _).mono ?_; rintro e wr ⟨rfl, hbr⟩) | (go_at_call_of 16 (Value.int .i64 (maxI a c)); refine (HcM4.out _).mono ?_; rintro e wr ⟨rfl, hbr⟩) | (go_at_call 16; refine (HcM3.out _).mono ?_; rintro e wr ⟨rfl, hbr⟩))
          rename_i hh
          have hb5 := hh.1
          clear hh
          obtain ⟨f5x0, f5x0a, f5x0b⟩ := bel_box hb5 (b := w1.heap.size) (x := .int .i64 (a)) (y := .int .i64 (b)) (by first | omega | (simp; done) | (simp; omega)) (by first | assumption | (simp [go_sem, *]; done)) (by first | assumption | (simp [go_sem, *]; done))
          obtain ⟨f5x1, f5x1a, f5x1b⟩ := bel_box hb5 (b := w1.heap.size + 1) (x := .int .i64 (c)) (y := .int .i64 (d)) (by first | omega | (simp; done) | (simp; omega)) (by first | assumption | (simp [go_sem, *]; done)) (by first | assumption | (simp [go_sem, *]; done))
          obtain ⟨f5x2, f5x2a, f5x2b⟩ := bel_box hb5 (b := w2.heap.size) (x := .int .i64 (g)) (y := .int .i64 (h)) (by first | omega | (simp; done) | (simp; omega)) (by first | assumption | (simp [go_sem, *]; done)) (by first | assumption | (simp [go_sem, *]; done))
          obtain ⟨f5x3, f5x3a, f5x3b⟩ := bel_box hb5 (b := w2.heap.size + 1) (x := .int .i64 (i)) (y := .int .i64 (j)) (by first | omega | (simp; done) | (simp; omega)) (by first | assumption | (simp [go_sem, *]; done)) (by first | assumption | (simp [go_sem, *]; done))
          obtain ⟨f5x4, f5x4a, f5x4b⟩ := bel_box hb5 (b := w3.heap.size) (x := .int .i64 (maxI a c)) (y := .int .i64 (maxI b d)) (by first | omega | (simp; done) | (simp; omega)) (by first | assumption | (simp [go_sem, *]; done)) (by first | assumption | (simp [go_sem, *]; done))
          have hB5 : Below w.heap.size w wr := bel_trans hB4 hb5
          have hl5 := hB5.size
          clear hl4 hB4 f4x4b f4x4a f4x4 f4x3b f4x3a f4x3 f4x2b f4x2a f4x2 f4x1b f4x1a f4x1 f4x0b f4x0a f4x0
          clear hb5
          rcases hF with hF1 | ⟨hF1, hF2⟩ | ⟨hF1, hF2, hF3⟩
          · skip
            go_wp2_with fail
            refine (HcF1.out _).mono ?_
            rintro e w6 ⟨rfl, hb6⟩
            obtain ⟨f6x0, f6x0a, f6x0b⟩ := bel_box hb6 (b := w1.heap.size) (x := .int .i64 (a)) (y := .int .i64 (b)) (by first | omega | (simp; done) | (simp; omega)) (by first | assumption | (simp [go_sem, *]; done)) (by first | assumption | (simp [go_sem, *]; done))
            obtain ⟨f6x1, f6x1a, f6x1b⟩ := bel_box hb6 (b := w1.heap.size + 1) (x := .int .i64 (c)) (y := .int .i64 (d)) (by first | omega | (simp; done) | (simp; omega)) (by first | assumption | (simp [go_sem, *]; done)) (by first | assumption | (simp [go_sem, *]; done))
            obtain ⟨f6x2, f6x2a, f6x2b⟩ := bel_box hb6 (b := w2.heap.size) (x := .int .i64 (g)) (y := .int .i64 (h)) (by first | omega | (simp; done) | (simp; omega)) (by first | assumption | (simp [go_sem, *]; done)) (by first | assumption | (simp [go_sem, *]; done))
            obtain ⟨f6x3, f6x3a, f6x3b⟩ := bel_box hb6 (b := w2.heap.size + 1) (x := .int .i64 (i)) (y := .int .i64 (j)) (by first | omega | (simp; done) | (simp; omega)) (by first | assumption | (simp [go_sem, *]; done)) (by first | assumption | (simp [go_sem, *]; done))
            obtain ⟨f6x4, f6x4a, f6x4b⟩ := bel_box hb6 (b := w3.heap.size) (x := .int .i64 (maxI a c)) (y := .int .i64 (maxI b d)) (by first | omega | (simp; done) | (simp; omega)) (by first | assumption | (simp [go_sem, *]; done)) (by first | assumption | (simp [go_sem, *]; done))
            have hB6 : Below w.heap.size w w6 := bel_trans hB5 hb6
            have hl6 := hB6.size
            clear hl5 hB5 f5x4b f5x4a f5x4 f5x3b f5x3a f5x3 f5x2b f5x2a f5x2 f5x1b f5x1a f5x1 f5x0b f5x0a f5x0
            clear hb6
            go_wp2_with fail
            refine (HcN.out _).mono ?_
            rintro e w7 ⟨rfl, hb7⟩
            obtain ⟨f7x0, f7x0a, f7x0b⟩ := bel_box hb7 (b := w1.heap.size) (x := .int .i64 (a)) (y := .int .i64 (b)) (by first | omega | (simp; done) | (simp; omega)) (by first | assumption | (simp [go_sem, *]; done)) (by first | assumption | (simp [go_sem, *]; done))
            obtain ⟨f7x1, f7x1a, f7x1b⟩ := bel_box hb7 (b := w1.heap.size + 1) (x := .int .i64 (c)) (y := .int .i64 (d)) (by first | omega | (simp; done) | (simp; omega)) (by first | assumption | (simp [go_sem, *]; done)) (by first | assumption | (simp [go_sem, *]; done))
            obtain ⟨f7x2, f7x2a, f7x2b⟩ := bel_box hb7 (b := w2.heap.size) (x := .int .i64 (g)) (y := .int .i64 (h)) (by first | omega | (simp; done) | (simp; omega)) (by first | assumption | (simp [go_sem, *]; done)) (by first | assumption | (simp [go_sem, *]; done))
            obtain ⟨f7x3, f7x3a, f7x3b⟩ := bel_box hb7 (b := w2.heap.size + 1) (x := .int .i64 (i)) (y := .int .i64 (j)) (by first | omega | (simp; done) | (simp; omega)) (by first | assumption | (simp [go_sem, *]; done)) (by first | assumption | (simp [go_sem, *]; done))
            obtain ⟨f7x4, f7x4a, f7x4b⟩ := bel_box hb7 (b := w3.heap.size) (x := .int .i64 (maxI a c)) (y := .int .i64 (maxI b d)) (by first | omega | (simp; done) | (simp; omega)) (by first | assumption | (simp [go_sem, *]; done)) (by first | assumption | (simp [go_sem, *]; done))
            have hB7 : Below w.heap.size w w7 := bel_trans hB6 hb7
            have hl7 := hB7.size
            clear hl6 hB6 f6x4b f6x4a f6x4 f6x3b f6x3a f6x3 f6x2b f6x2a f6x2 f6x1b f6x1a f6x1 f6x0b f6x0a f6x0
            clear hb7
            go_wp2_with fail
            go_region_held3 (fun w' => Below w7.heap.size w7 w' ∧ w'.cell? ⟨w1.heap.size, 0, none⟩ = some (.int .i64 (a)) ∧ w'.cell? ⟨w1.heap.size, 1, none⟩ = some (.int .i64 (b)) ∧ w'.cell? ⟨w2.heap.size, 0, none⟩ = some (.int .i64 (g)) ∧ w'.cell? ⟨w2.heap.size, 1, none⟩ = some (.int .i64 (h)) ∧ w'.cell? ⟨w2.heap.size + 1, 0, none⟩ = some (.int .i64 (i)) ∧ w'.cell? ⟨w2.heap.size + 1, 1, none⟩ = some (.int .i64 (j)))
              (first | (exact ⟨Below.drew (Below.refl _ _), f7x0a, f7x0b, f7x2a, f7x2b, f7x3a, f7x3b⟩) | (refine keepR f7x0 f7x2 f7x3 (by assumption) ?_; assumption))
              (first | (go_at_call 16; refine (HcQ.out _).mono ?_; rintro e wr ⟨rfl, hbr⟩) | (go_at_call 18; refine (HcK.out _).mono ?_; rintro e wr ⟨rfl, hbr⟩))
            rename_i hh
            have hb8 := hh.1
            clear hh
            obtain ⟨f8x0, f8x0a, f8x0b⟩ := bel_box hb8 (b := w1.heap.size) (x := .int .i64 (a)) (y := .int .i64 (b)) (by first | omega | (simp; done) | (simp; omega)) (by first | assumption | (simp [go_sem, *]; done)) (by first | assumption | (simp [go_sem, *]; done))
            obtain ⟨f8x1, f8x1a, f8x1b⟩ := bel_box hb8 (b := w1.heap.size + 1) (x := .int .i64 (c)) (y := .int .i64 (d)) (by first | omega | (simp; done) | (simp; omega)) (by first | assumption | (simp [go_sem, *]; done)) (by first | assumption | (simp [go_sem, *]; done))
            obtain ⟨f8x2, f8x2a, f8x2b⟩ := bel_box hb8 (b := w2.heap.size) (x := .int .i64 (g)) (y := .int .i64 (h)) (by first | omega | (simp; done) | (simp; omega)) (by first | assumption | (simp [go_sem, *]; done)) (by first | assumption | (simp [go_sem, *]; done))
            obtain ⟨f8x3, f8x3a, f8x3b⟩ := bel_box hb8 (b := w2.heap.size + 1) (x := .int .i64 (i)) (y := .int .i64 (j)) (by first | omega | (simp; done) | (simp; omega)) (by first | assumption | (simp [go_sem, *]; done)) (by first | assumption | (simp [go_sem, *]; done))
            obtain ⟨f8x4, f8x4a, f8x4b⟩ := bel_box hb8 (b := w3.heap.size) (x := .int .i64 (maxI a c)) (y := .int .i64 (maxI b d)) (by first | omega | (simp; done) | (simp; omega)) (by first | assumption | (simp [go_sem, *]; done)) (by first | assumption | (simp [go_sem, *]; done))
            have hB8 : Below w.heap.size w wr := bel_trans hB7 hb8
            have hl8 := hB8.size
            clear hl7 hB7 f7x4b f7x4a f7x4 f7x3b f7x3a f7x3 f7x2b f7x2a f7x2 f7x1b f7x1a f7x1 f7x0b f7x0a f7x0
            clear hb8
            go_wp2_with fail
            refine (HcNs.out _).mono ?_
            rintro e w9 ⟨rfl, hb9⟩
            obtain ⟨f9x0, f9x0a, f9x0b⟩ := bel_box hb9 (b := w1.heap.size) (x := .int .i64 (a)) (y := .int .i64 (b)) (by first | omega | (simp; done) | (simp; omega)) (by first | assumption | (simp [go_sem, *]; done)) (by first | assumption | (simp [go_sem, *]; done))
            obtain ⟨f9x1, f9x1a, f9x1b⟩ := bel_box hb9 (b := w1.heap.size + 1) (x := .int .i64 (c)) (y := .int .i64 (d)) (by first | omega | (simp; done) | (simp; omega)) (by first | assumption | (simp [go_sem, *]; done)) (by first | assumption | (simp [go_sem, *]; done))
            obtain ⟨f9x2, f9x2a, f9x2b⟩ := bel_box hb9 (b := w2.heap.size) (x := .int .i64 (g)) (y := .int .i64 (h)) (by first | omega | (simp; done) | (simp; omega)) (by first | assumption | (simp [go_sem, *]; done)) (by first | assumption | (simp [go_sem, *]; done))
            obtain ⟨f9x3, f9x3a, f9x3b⟩ := bel_box hb9 (b := w2.heap.size + 1) (x := .int .i64 (i)) (y := .int .i64 (j)) (by first | omega | (simp; done) | (simp; omega)) (by first | assumption | (simp [go_sem, *]; done)) (by first | assumption | (simp [go_sem, *]; done))
            obtain ⟨f9x4, f9x4a, f9x4b⟩ := bel_box hb9 (b := w3.heap.size) (x := .int .i64 (maxI a c)) (y := .int .i64 (maxI b d)) (by first | omega | (simp; done) | (simp; omega)) (by first | assumption | (simp [go_sem, *]; done)) (by first | assumption | (simp [go_sem, *]; done))
            have hB9 : Below w.heap.size w w9 := bel_trans hB8 hb9
            have hl9 := hB9.size
            clear hl8 hB8 f8x4b f8x4a f8x4 f8x3b f8x3a f8x3 f8x2b f8x2a f8x2 f8x1b f8x1a f8x1 f8x0b f8x0a f8x0
            clear hb9
            go_wp2_with fail
            refine (HcO1.out _).mono ?_
            rintro e w10 ⟨rfl, hb10⟩
            obtain ⟨f10x0, f10x0a, f10x0b⟩ := bel_box hb10 (b := w1.heap.size) (x := .int .i64 (a)) (y := .int .i64 (b)) (by first | omega | (simp; done) | (simp; omega)) (by first | assumption | (simp [go_sem, *]; done)) (by first | assumption | (simp [go_sem, *]; done))
            obtain ⟨f10x1, f10x1a, f10x1b⟩ := bel_box hb10 (b := w1.heap.size + 1) (x := .int .i64 (c)) (y := .int .i64 (d)) (by first | omega | (simp; done) | (simp; omega)) (by first | assumption | (simp [go_sem, *]; done)) (by first | assumption | (simp [go_sem, *]; done))
            obtain ⟨f10x2, f10x2a, f10x2b⟩ := bel_box hb10 (b := w2.heap.size) (x := .int .i64 (g)) (y := .int .i64 (h)) (by first | omega | (simp; done) | (simp; omega)) (by first | assumption | (simp [go_sem, *]; done)) (by first | assumption | (simp [go_sem, *]; done))
            obtain ⟨f10x3, f10x3a, f10x3b⟩ := bel_box hb10 (b := w2.heap.size + 1) (x := .int .i64 (i)) (y := .int .i64 (j)) (by first | omega | (simp; done) | (simp; omega)) (by first | assumption | (simp [go_sem, *]; done)) (by first | assumption | (simp [go_sem, *]; done))
            obtain ⟨f10x4, f10x4a, f10x4b⟩ := bel_box hb10 (b := w3.heap.size) (x := .int .i64 (maxI a c)) (y := .int .i64 (maxI b d)) (by first | omega | (simp; done) | (simp; omega)) (by first | assumption | (simp [go_sem, *]; done)) (by first | assumption | (simp [go_sem, *]; done))
            have hB10 : Below w.heap.size w w10 := bel_trans hB9 hb10
            have hl10 := hB10.size
            clear hl9 hB9 f9x4b f9x4a f9x4 f9x3b f9x3a f9x3 f9x2b f9x2a f9x2 f9x1b f9x1a f9x1 f9x0b f9x0a f9x0
            clear hb10
            go_wp2_with fail
            refine (HcO2.out _).mono ?_
            rintro e w11 ⟨rfl, hb11⟩
            obtain ⟨f11x0, f11x0a, f11x0b⟩ := bel_box hb11 (b := w1.heap.size) (x := .int .i64 (a)) (y := .int .i64 (b)) (by first | omega | (simp; done) | (simp; omega)) (by first | assumption | (simp [go_sem, *]; done)) (by first | assumption | (simp [go_sem, *]; done))
            obtain ⟨f11x1, f11x1a, f11x1b⟩ := bel_box hb11 (b := w1.heap.size + 1) (x := .int .i64 (c)) (y := .int .i64 (d)) (by first | omega | (simp; done) | (simp; omega)) (by first | assumption | (simp [go_sem, *]; done)) (by first | assumption | (simp [go_sem, *]; done))
            obtain ⟨f11x2, f11x2a, f11x2b⟩ := bel_box hb11 (b := w2.heap.size) (x := .int .i64 (g)) (y := .int .i64 (h)) (by first | omega | (simp; done) | (simp; omega)) (by first | assumption | (simp [go_sem, *]; done)) (by first | assumption | (simp [go_sem, *]; done))
            obtain ⟨f11x3, f11x3a, f11x3b⟩ := bel_box hb11 (b := w2.heap.size + 1) (x := .int .i64 (i)) (y := .int .i64 (j)) (by first | omega | (simp; done) | (simp; omega)) (by first | assumption | (simp [go_sem, *]; done)) (by first | assumption | (simp [go_sem, *]; done))
            obtain ⟨f11x4, f11x4a, f11x4b⟩ := bel_box hb11 (b := w3.heap.size) (x := .int .i64 (maxI a c)) (y := .int .i64 (maxI b d)) (by first | omega | (simp; done) | (simp; omega)) (by first | assumption | (simp [go_sem, *]; done)) (by first | assumption | (simp [go_sem, *]; done))
            have hB11 : Below w.heap.size w w11 := bel_trans hB10 hb11
            have hl11 := hB11.size
            clear hl10 hB10 f10x4b f10x4a f10x4 f10x3b f10x3a f10x3 f10x2b f10x2a f10x2 f10x1b f10x1a f10x1 f10x0b f10x0a f10x0
            clear hb11
            go_wp2_with fail
            go_ret
            exact ⟨rfl, hB11⟩
          · skip
            go_wp2_with fail
            refine (HcF1.out _).mono ?_
            rintro e w6 ⟨rfl, hb6⟩
            obtain ⟨f6x0, f6x0a, f6x0b⟩ := bel_box hb6 (b := w1.heap.size) (x := .int .i64 (a)) (y := .int .i64 (b)) (by first | omega | (simp; done) | (simp; omega)) (by first | assumption | (simp [go_sem, *]; done)) (by first | assumption | (simp [go_sem, *]; done))
            obtain ⟨f6x1, f6x1a, f6x1b⟩ := bel_box hb6 (b := w1.heap.size + 1) (x := .int .i64 (c)) (y := .int .i64 (d)) (by first | omega | (simp; done) | (simp; omega)) (by first | assumption | (simp [go_sem, *]; done)) (by first | assumption | (simp [go_sem, *]; done))
            obtain ⟨f6x2, f6x2a, f6x2b⟩ := bel_box hb6 (b := w2.heap.size) (x := .int .i64 (g)) (y := .int .i64 (h)) (by first | omega | (simp; done) | (simp; omega)) (by first | assumption | (simp [go_sem, *]; done)) (by first | assumption | (simp [go_sem, *]; done))
            obtain ⟨f6x3, f6x3a, f6x3b⟩ := bel_box hb6 (b := w2.heap.size + 1) (x := .int .i64 (i)) (y := .int .i64 (j)) (by first | omega | (simp; done) | (simp; omega)) (by first | assumption | (simp [go_sem, *]; done)) (by first | assumption | (simp [go_sem, *]; done))
            obtain ⟨f6x4, f6x4a, f6x4b⟩ := bel_box hb6 (b := w3.heap.size) (x := .int .i64 (maxI a c)) (y := .int .i64 (maxI b d)) (by first | omega | (simp; done) | (simp; omega)) (by first | assumption | (simp [go_sem, *]; done)) (by first | assumption | (simp [go_sem, *]; done))
            have hB6 : Below w.heap.size w w6 := bel_trans hB5 hb6
            have hl6 := hB6.size
            clear hl5 hB5 f5x4b f5x4a f5x4 f5x3b f5x3a f5x3 f5x2b f5x2a f5x2 f5x1b f5x1a f5x1 f5x0b f5x0a f5x0
            clear hb6
            go_wp2_with fail
            refine (HcF2.out _).mono ?_
            rintro e w7 ⟨rfl, hb7⟩
            obtain ⟨f7x0, f7x0a, f7x0b⟩ := bel_box hb7 (b := w1.heap.size) (x := .int .i64 (a)) (y := .int .i64 (b)) (by first | omega | (simp; done) | (simp; omega)) (by first | assumption | (simp [go_sem, *]; done)) (by first | assumption | (simp [go_sem, *]; done))
            obtain ⟨f7x1, f7x1a, f7x1b⟩ := bel_box hb7 (b := w1.heap.size + 1) (x := .int .i64 (c)) (y := .int .i64 (d)) (by first | omega | (simp; done) | (simp; omega)) (by first | assumption | (simp [go_sem, *]; done)) (by first | assumption | (simp [go_sem, *]; done))
            obtain ⟨f7x2, f7x2a, f7x2b⟩ := bel_box hb7 (b := w2.heap.size) (x := .int .i64 (g)) (y := .int .i64 (h)) (by first | omega | (simp; done) | (simp; omega)) (by first | assumption | (simp [go_sem, *]; done)) (by first | assumption | (simp [go_sem, *]; done))
            obtain ⟨f7x3, f7x3a, f7x3b⟩ := bel_box hb7 (b := w2.heap.size + 1) (x := .int .i64 (i)) (y := .int .i64 (j)) (by first | omega | (simp; done) | (simp; omega)) (by first | assumption | (simp [go_sem, *]; done)) (by first | assumption | (simp [go_sem, *]; done))
            obtain ⟨f7x4, f7x4a, f7x4b⟩ := bel_box hb7 (b := w3.heap.size) (x := .int .i64 (maxI a c)) (y := .int .i64 (maxI b d)) (by first | omega | (simp; done) | (simp; omega)) (by first | assumption | (simp [go_sem, *]; done)) (by first | assumption | (simp [go_sem, *]; done))
            have hB7 : Below w.heap.size w w7 := bel_trans hB6 hb7
            have hl7 := hB7.size
            clear hl6 hB6 f6x4b f6x4a f6x4 f6x3b f6x3a f6x3 f6x2b f6x2a f6x2 f6x1b f6x1a f6x1 f6x0b f6x0a f6x0
            clear hb7
            go_wp2_with fail
            refine (HcN.out _).mono ?_
            rintro e w8 ⟨rfl, hb8⟩
            obtain ⟨f8x0, f8x0a, f8x0b⟩ := bel_box hb8 (b := w1.heap.size) (x := .int .i64 (a)) (y := .int .i64 (b)) (by first | omega | (simp; done) | (simp; omega)) (by first | assumption | (simp [go_sem, *]; done)) (by first | assumption | (simp [go_sem, *]; done))
            obtain ⟨f8x1, f8x1a, f8x1b⟩ := bel_box hb8 (b := w1.heap.size + 1) (x := .int .i64 (c)) (y := .int .i64 (d)) (by first | omega | (simp; done) | (simp; omega)) (by first | assumption | (simp [go_sem, *]; done)) (by first | assumption | (simp [go_sem, *]; done))
            obtain ⟨f8x2, f8x2a, f8x2b⟩ := bel_box hb8 (b := w2.heap.size) (x := .int .i64 (g)) (y := .int .i64 (h)) (by first | omega | (simp; done) | (simp; omega)) (by first | assumption | (simp [go_sem, *]; done)) (by first | assumption | (simp [go_sem, *]; done))
            obtain ⟨f8x3, f8x3a, f8x3b⟩ := bel_box hb8 (b := w2.heap.size + 1) (x := .int .i64 (i)) (y := .int .i64 (j)) (by first | omega | (simp; done) | (simp; omega)) (by first | assumption | (simp [go_sem, *]; done)) (by first | assumption | (simp [go_sem, *]; done))
            obtain ⟨f8x4, f8x4a, f8x4b⟩ := bel_box hb8 (b := w3.heap.size) (x := .int .i64 (maxI a c)) (y := .int .i64 (maxI b d)) (by first | omega | (simp; done) | (simp; omega)) (by first | assumption | (simp [go_sem, *]; done)) (by first | assumption | (simp [go_sem, *]; done))
            have hB8 : Below w.heap.size w w8 := bel_trans hB7 hb8
            have hl8 := hB8.size
            clear hl7 hB7 f7x4b f7x4a f7x4 f7x3b f7x3a f7x3 f7x2b f7x2a f7x2 f7x1b f7x1a f7x1 f7x0b f7x0a f7x0
            clear hb8
            go_wp2_with fail
            go_region_held3 (fun w' => Below w8.heap.size w8 w' ∧ w'.cell? ⟨w1.heap.size, 0, none⟩ = some (.int .i64 (a)) ∧ w'.cell? ⟨w1.heap.size, 1, none⟩ = some (.int .i64 (b)) ∧ w'.cell? ⟨w2.heap.size, 0, none⟩ = some (.int .i64 (g)) ∧ w'.cell? ⟨w2.heap.size, 1, none⟩ = some (.int .i64 (h)) ∧ w'.cell? ⟨w2.heap.size + 1, 0, none⟩ = some (.int .i64 (i)) ∧ w'.cell? ⟨w2.heap.size + 1, 1, none⟩ = some (.int .i64 (j)))
              (first | (exact ⟨Below.drew (Below.refl _ _), f8x0a, f8x0b, f8x2a, f8x2b, f8x3a, f8x3b⟩) | (refine keepR f8x0 f8x2 f8x3 (by assumption) ?_; assumption))
              (first | (go_at_call 16; refine (HcQ.out _).mono ?_; rintro e wr ⟨rfl, hbr⟩) | (go_at_call 18; refine (HcK.out _).mono ?_; rintro e wr ⟨rfl, hbr⟩))
            rename_i hh
            have hb9 := hh.1
            clear hh
            obtain ⟨f9x0, f9x0a, f9x0b⟩ := bel_box hb9 (b := w1.heap.size) (x := .int .i64 (a)) (y := .int .i64 (b)) (by first | omega | (simp; done) | (simp; omega)) (by first | assumption | (simp [go_sem, *]; done)) (by first | assumption | (simp [go_sem, *]; done))
            obtain ⟨f9x1, f9x1a, f9x1b⟩ := bel_box hb9 (b := w1.heap.size + 1) (x := .int .i64 (c)) (y := .int .i64 (d)) (by first | omega | (simp; done) | (simp; omega)) (by first | assumption | (simp [go_sem, *]; done)) (by first | assumption | (simp [go_sem, *]; done))
            obtain ⟨f9x2, f9x2a, f9x2b⟩ := bel_box hb9 (b := w2.heap.size) (x := .int .i64 (g)) (y := .int .i64 (h)) (by first | omega | (simp; done) | (simp; omega)) (by first | assumption | (simp [go_sem, *]; done)) (by first | assumption | (simp [go_sem, *]; done))
            obtain ⟨f9x3, f9x3a, f9x3b⟩ := bel_box hb9 (b := w2.heap.size + 1) (x := .int .i64 (i)) (y := .int .i64 (j)) (by first | omega | (simp; done) | (simp; omega)) (by first | assumption | (simp [go_sem, *]; done)) (by first | assumption | (simp [go_sem, *]; done))
            obtain ⟨f9x4, f9x4a, f9x4b⟩ := bel_box hb9 (b := w3.heap.size) (x := .int .i64 (maxI a c)) (y := .int .i64 (maxI b d)) (by first | omega | (simp; done) | (simp; omega)) (by first | assumption | (simp [go_sem, *]; done)) (by first | assumption | (simp [go_sem, *]; done))
            have hB9 : Below w.heap.size w wr := bel_trans hB8 hb9
            have hl9 := hB9.size
            clear hl8 hB8 f8x4b f8x4a f8x4 f8x3b f8x3a f8x3 f8x2b f8x2a f8x2 f8x1b f8x1a f8x1 f8x0b f8x0a f8x0
            clear hb9
            go_wp2_with fail
            refine (HcNs.out _).mono ?_
            rintro e w10 ⟨rfl, hb10⟩
            obtain ⟨f10x0, f10x0a, f10x0b⟩ := bel_box hb10 (b := w1.heap.size) (x := .int .i64 (a)) (y := .int .i64 (b)) (by first | omega | (simp; done) | (simp; omega)) (by first | assumption | (simp [go_sem, *]; done)) (by first | assumption | (simp [go_sem, *]; done))
            obtain ⟨f10x1, f10x1a, f10x1b⟩ := bel_box hb10 (b := w1.heap.size + 1) (x := .int .i64 (c)) (y := .int .i64 (d)) (by first | omega | (simp; done) | (simp; omega)) (by first | assumption | (simp [go_sem, *]; done)) (by first | assumption | (simp [go_sem, *]; done))
            obtain ⟨f10x2, f10x2a, f10x2b⟩ := bel_box hb10 (b := w2.heap.size) (x := .int .i64 (g)) (y := .int .i64 (h)) (by first | omega | (simp; done) | (simp; omega)) (by first | assumption | (simp [go_sem, *]; done)) (by first | assumption | (simp [go_sem, *]; done))
            obtain ⟨f10x3, f10x3a, f10x3b⟩ := bel_box hb10 (b := w2.heap.size + 1) (x := .int .i64 (i)) (y := .int .i64 (j)) (by first | omega | (simp; done) | (simp; omega)) (by first | assumption | (simp [go_sem, *]; done)) (by first | assumption | (simp [go_sem, *]; done))
            obtain ⟨f10x4, f10x4a, f10x4b⟩ := bel_box hb10 (b := w3.heap.size) (x := .int .i64 (maxI a c)) (y := .int .i64 (maxI b d)) (by first | omega | (simp; done) | (simp; omega)) (by first | assumption | (simp [go_sem, *]; done)) (by first | assumption | (simp [go_sem, *]; done))
            have hB10 : Below w.heap.size w w10 := bel_trans hB9 hb10
            have hl10 := hB10.size
            clear hl9 hB9 f9x4b f9x4a f9x4 f9x3b f9x3a f9x3 f9x2b f9x2a f9x2 f9x1b f9x1a f9x1 f9x0b f9x0a f9x0
            clear hb10
            go_wp2_with fail
            refine (HcO1.out _).mono ?_
            rintro e w11 ⟨rfl, hb11⟩
            obtain ⟨f11x0, f11x0a, f11x0b⟩ := bel_box hb11 (b := w1.heap.size) (x := .int .i64 (a)) (y := .int .i64 (b)) (by first | omega | (simp; done) | (simp; omega)) (by first | assumption | (simp [go_sem, *]; done)) (by first | assumption | (simp [go_sem, *]; done))
            obtain ⟨f11x1, f11x1a, f11x1b⟩ := bel_box hb11 (b := w1.heap.size + 1) (x := .int .i64 (c)) (y := .int .i64 (d)) (by first | omega | (simp; done) | (simp; omega)) (by first | assumption | (simp [go_sem, *]; done)) (by first | assumption | (simp [go_sem, *]; done))
            obtain ⟨f11x2, f11x2a, f11x2b⟩ := bel_box hb11 (b := w2.heap.size) (x := .int .i64 (g)) (y := .int .i64 (h)) (by first | omega | (simp; done) | (simp; omega)) (by first | assumption | (simp [go_sem, *]; done)) (by first | assumption | (simp [go_sem, *]; done))
            obtain ⟨f11x3, f11x3a, f11x3b⟩ := bel_box hb11 (b := w2.heap.size + 1) (x := .int .i64 (i)) (y := .int .i64 (j)) (by first | omega | (simp; done) | (simp; omega)) (by first | assumption | (simp [go_sem, *]; done)) (by first | assumption | (simp [go_sem, *]; done))
            obtain ⟨f11x4, f11x4a, f11x4b⟩ := bel_box hb11 (b := w3.heap.size) (x := .int .i64 (maxI a c)) (y := .int .i64 (maxI b d)) (by first | omega | (simp; done) | (simp; omega)) (by first | assumption | (simp [go_sem, *]; done)) (by first | assumption | (simp [go_sem, *]; done))
            have hB11 : Below w.heap.size w w11 := bel_trans hB10 hb11
            have hl11 := hB11.size
            clear hl10 hB10 f10x4b f10x4a f10x4 f10x3b f10x3a f10x3 f10x2b f10x2a f10x2 f10x1b f10x1a f10x1 f10x0b f10x0a f10x0
            clear hb11
            go_wp2_with fail
            refine (HcO2.out _).mono ?_
            rintro e w12 ⟨rfl, hb12⟩
            obtain ⟨f12x0, f12x0a, f12x0b⟩ := bel_box hb12 (b := w1.heap.size) (x := .int .i64 (a)) (y := .int .i64 (b)) (by first | omega | (simp; done) | (simp; omega)) (by first | assumption | (simp [go_sem, *]; done)) (by first | assumption | (simp [go_sem, *]; done))
            obtain ⟨f12x1, f12x1a, f12x1b⟩ := bel_box hb12 (b := w1.heap.size + 1) (x := .int .i64 (c)) (y := .int .i64 (d)) (by first | omega | (simp; done) | (simp; omega)) (by first | assumption | (simp [go_sem, *]; done)) (by first | assumption | (simp [go_sem, *]; done))
            obtain ⟨f12x2, f12x2a, f12x2b⟩ := bel_box hb12 (b := w2.heap.size) (x := .int .i64 (g)) (y := .int .i64 (h)) (by first | omega | (simp; done) | (simp; omega)) (by first | assumption | (simp [go_sem, *]; done)) (by first | assumption | (simp [go_sem, *]; done))
            obtain ⟨f12x3, f12x3a, f12x3b⟩ := bel_box hb12 (b := w2.heap.size + 1) (x := .int .i64 (i)) (y := .int .i64 (j)) (by first | omega | (simp; done) | (simp; omega)) (by first | assumption | (simp [go_sem, *]; done)) (by first | assumption | (simp [go_sem, *]; done))
            obtain ⟨f12x4, f12x4a, f12x4b⟩ := bel_box hb12 (b := w3.heap.size) (x := .int .i64 (maxI a c)) (y := .int .i64 (maxI b d)) (by first | omega | (simp; done) | (simp; omega)) (by first | assumption | (simp [go_sem, *]; done)) (by first | assumption | (simp [go_sem, *]; done))
            have hB12 : Below w.heap.size w w12 := bel_trans hB11 hb12
            have hl12 := hB12.size
            clear hl11 hB11 f11x4b f11x4a f11x4 f11x3b f11x3a f11x3 f11x2b f11x2a f11x2 f11x1b f11x1a f11x1 f11x0b f11x0a f11x0
            clear hb12
            go_wp2_with fail
            go_ret
            exact ⟨rfl, hB12⟩
          · skip
            go_wp2_with fail
            refine (HcF1.out _).mono ?_
            rintro e w6 ⟨rfl, hb6⟩
            obtain ⟨f6x0, f6x0a, f6x0b⟩ := bel_box hb6 (b := w1.heap.size) (x := .int .i64 (a)) (y := .int .i64 (b)) (by first | omega | (simp; done) | (simp; omega)) (by first | assumption | (simp [go_sem, *]; done)) (by first | assumption | (simp [go_sem, *]; done))
            obtain ⟨f6x1, f6x1a, f6x1b⟩ := bel_box hb6 (b := w1.heap.size + 1) (x := .int .i64 (c)) (y := .int .i64 (d)) (by first | omega | (simp; done) | (simp; omega)) (by first | assumption | (simp [go_sem, *]; done)) (by first | assumption | (simp [go_sem, *]; done))
            obtain ⟨f6x2, f6x2a, f6x2b⟩ := bel_box hb6 (b := w2.heap.size) (x := .int .i64 (g)) (y := .int .i64 (h)) (by first | omega | (simp; done) | (simp; omega)) (by first | assumption | (simp [go_sem, *]; done)) (by first | assumption | (simp [go_sem, *]; done))
            obtain ⟨f6x3, f6x3a, f6x3b⟩ := bel_box hb6 (b := w2.heap.size + 1) (x := .int .i64 (i)) (y := .int .i64 (j)) (by first | omega | (simp; done) | (simp; omega)) (by first | assumption | (simp [go_sem, *]; done)) (by first | assumption | (simp [go_sem, *]; done))
            obtain ⟨f6x4, f6x4a, f6x4b⟩ := bel_box hb6 (b := w3.heap.size) (x := .int .i64 (maxI a c)) (y := .int .i64 (maxI b d)) (by first | omega | (simp; done) | (simp; omega)) (by first | assumption | (simp [go_sem, *]; done)) (by first | assumption | (simp [go_sem, *]; done))
            have hB6 : Below w.heap.size w w6 := bel_trans hB5 hb6
            have hl6 := hB6.size
            clear hl5 hB5 f5x4b f5x4a f5x4 f5x3b f5x3a f5x3 f5x2b f5x2a f5x2 f5x1b f5x1a f5x1 f5x0b f5x0a f5x0
            clear hb6
            go_wp2_with fail
            refine (HcF2.out _).mono ?_
            rintro e w7 ⟨rfl, hb7⟩
            obtain ⟨f7x0, f7x0a, f7x0b⟩ := bel_box hb7 (b := w1.heap.size) (x := .int .i64 (a)) (y := .int .i64 (b)) (by first | omega | (simp; done) | (simp; omega)) (by first | assumption | (simp [go_sem, *]; done)) (by first | assumption | (simp [go_sem, *]; done))
            obtain ⟨f7x1, f7x1a, f7x1b⟩ := bel_box hb7 (b := w1.heap.size + 1) (x := .int .i64 (c)) (y := .int .i64 (d)) (by first | omega | (simp; done) | (simp; omega)) (by first | assumption | (simp [go_sem, *]; done)) (by first | assumption | (simp [go_sem, *]; done))
            obtain ⟨f7x2, f7x2a, f7x2b⟩ := bel_box hb7 (b := w2.heap.size) (x := .int .i64 (g)) (y := .int .i64 (h)) (by first | omega | (simp; done) | (simp; omega)) (by first | assumption | (simp [go_sem, *]; done)) (by first | assumption | (simp [go_sem, *]; done))
            obtain ⟨f7x3, f7x3a, f7x3b⟩ := bel_box hb7 (b := w2.heap.size + 1) (x := .int .i64 (i)) (y := .int .i64 (j)) (by first | omega | (simp; done) | (simp; omega)) (by first | assumption | (simp [go_sem, *]; done)) (by first | assumption | (simp [go_sem, *]; done))
            obtain ⟨f7x4, f7x4a, f7x4b⟩ := bel_box hb7 (b := w3.heap.size) (x := .int .i64 (maxI a c)) (y := .int .i64 (maxI b d)) (by first | omega | (simp; done) | (simp; omega)) (by first | assumption | (simp [go_sem, *]; done)) (by first | assumption | (simp [go_sem, *]; done))
            have hB7 : Below w.heap.size w w7 := bel_trans hB6 hb7
            have hl7 := hB7.size
            clear hl6 hB6 f6x4b f6x4a f6x4 f6x3b f6x3a f6x3 f6x2b f6x2a f6x2 f6x1b f6x1a f6x1 f6x0b f6x0a f6x0
            clear hb7
            go_wp2_with fail
            refine (HcF3.out _).mono ?_
            rintro e w8 ⟨rfl, hb8⟩
            obtain ⟨f8x0, f8x0a, f8x0b⟩ := bel_box hb8 (b := w1.heap.size) (x := .int .i64 (a)) (y := .int .i64 (b)) (by first | omega | (simp; done) | (simp; omega)) (by first | assumption | (simp [go_sem, *]; done)) (by first | assumption | (simp [go_sem, *]; done))
            obtain ⟨f8x1, f8x1a, f8x1b⟩ := bel_box hb8 (b := w1.heap.size + 1) (x := .int .i64 (c)) (y := .int .i64 (d)) (by first | omega | (simp; done) | (simp; omega)) (by first | assumption | (simp [go_sem, *]; done)) (by first | assumption | (simp [go_sem, *]; done))
            obtain ⟨f8x2, f8x2a, f8x2b⟩ := bel_box hb8 (b := w2.heap.size) (x := .int .i64 (g)) (y := .int .i64 (h)) (by first | omega | (simp; done) | (simp; omega)) (by first | assumption | (simp [go_sem, *]; done)) (by first | assumption | (simp [go_sem, *]; done))
            obtain ⟨f8x3, f8x3a, f8x3b⟩ := bel_box hb8 (b := w2.heap.size + 1) (x := .int .i64 (i)) (y := .int .i64 (j)) (by first | omega | (simp; done) | (simp; omega)) (by first | assumption | (simp [go_sem, *]; done)) (by first | assumption | (simp [go_sem, *]; done))
            obtain ⟨f8x4, f8x4a, f8x4b⟩ := bel_box hb8 (b := w3.heap.size) (x := .int .i64 (maxI a c)) (y := .int .i64 (maxI b d)) (by first | omega | (simp; done) | (simp; omega)) (by first | assumption | (simp [go_sem, *]; done)) (by first | assumption | (simp [go_sem, *]; done))
            have hB8 : Below w.heap.size w w8 := bel_trans hB7 hb8
            have hl8 := hB8.size
            clear hl7 hB7 f7x4b f7x4a f7x4 f7x3b f7x3a f7x3 f7x2b f7x2a f7x2 f7x1b f7x1a f7x1 f7x0b f7x0a f7x0
            clear hb8
            go_wp2_with fail
            refine (HcN.out _).mono ?_
            rintro e w9 ⟨rfl, hb9⟩
            obtain ⟨f9x0, f9x0a, f9x0b⟩ := bel_box hb9 (b := w1.heap.size) (x := .int .i64 (a)) (y := .int .i64 (b)) (by first | omega | (simp; done) | (simp; omega)) (by first | assumption | (simp [go_sem, *]; done)) (by first | assumption | (simp [go_sem, *]; done))
            obtain ⟨f9x1, f9x1a, f9x1b⟩ := bel_box hb9 (b := w1.heap.size + 1) (x := .int .i64 (c)) (y := .int .i64 (d)) (by first | omega | (simp; done) | (simp; omega)) (by first | assumption | (simp [go_sem, *]; done)) (by first | assumption | (simp [go_sem, *]; done))
            obtain ⟨f9x2, f9x2a, f9x2b⟩ := bel_box hb9 (b := w2.heap.size) (x := .int .i64 (g)) (y := .int .i64 (h)) (by first | omega | (simp; done) | (simp; omega)) (by first | assumption | (simp [go_sem, *]; done)) (by first | assumption | (simp [go_sem, *]; done))
            obtain ⟨f9x3, f9x3a, f9x3b⟩ := bel_box hb9 (b := w2.heap.size + 1) (x := .int .i64 (i)) (y := .int .i64 (j)) (by first | omega | (simp; done) | (simp; omega)) (by first | assumption | (simp [go_sem, *]; done)) (by first | assumption | (simp [go_sem, *]; done))
            obtain ⟨f9x4, f9x4a, f9x4b⟩ := bel_box hb9 (b := w3.heap.size) (x := .int .i64 (maxI a c)) (y := .int .i64 (maxI b d)) (by first | omega | (simp; done) | (simp; omega)) (by first | assumption | (simp [go_sem, *]; done)) (by first | assumption | (simp [go_sem, *]; done))
            have hB9 : Below w.heap.size w w9 := bel_trans hB8 hb9
            have hl9 := hB9.size
            clear hl8 hB8 f8x4b f8x4a f8x4 f8x3b f8x3a f8x3 f8x2b f8x2a f8x2 f8x1b f8x1a f8x1 f8x0b f8x0a f8x0
            clear hb9
            go_wp2_with fail
            go_region_held3 (fun w' => Below w9.heap.size w9 w' ∧ w'.cell? ⟨w1.heap.size, 0, none⟩ = some (.int .i64 (a)) ∧ w'.cell? ⟨w1.heap.size, 1, none⟩ = some (.int .i64 (b)) ∧ w'.cell? ⟨w2.heap.size, 0, none⟩ = some (.int .i64 (g)) ∧ w'.cell? ⟨w2.heap.size, 1, none⟩ = some (.int .i64 (h)) ∧ w'.cell? ⟨w2.heap.size + 1, 0, none⟩ = some (.int .i64 (i)) ∧ w'.cell? ⟨w2.heap.size + 1, 1, none⟩ = some (.int .i64 (j)))
              (first | (exact ⟨Below.drew (Below.refl _ _), f9x0a, f9x0b, f9x2a, f9x2b, f9x3a, f9x3b⟩) | (refine keepR f9x0 f9x2 f9x3 (by assumption) ?_; assumption))
              (first | (go_at_call 16; refine (HcQ.out _).mono ?_; rintro e wr ⟨rfl, hbr⟩) | (go_at_call 18; refine (HcK.out _).mono ?_; rintro e wr ⟨rfl, hbr⟩))
            rename_i hh
            have hb10 := hh.1
            clear hh
            obtain ⟨f10x0, f10x0a, f10x0b⟩ := bel_box hb10 (b := w1.heap.size) (x := .int .i64 (a)) (y := .int .i64 (b)) (by first | omega | (simp; done) | (simp; omega)) (by first | assumption | (simp [go_sem, *]; done)) (by first | assumption | (simp [go_sem, *]; done))
            obtain ⟨f10x1, f10x1a, f10x1b⟩ := bel_box hb10 (b := w1.heap.size + 1) (x := .int .i64 (c)) (y := .int .i64 (d)) (by first | omega | (simp; done) | (simp; omega)) (by first | assumption | (simp [go_sem, *]; done)) (by first | assumption | (simp [go_sem, *]; done))
            obtain ⟨f10x2, f10x2a, f10x2b⟩ := bel_box hb10 (b := w2.heap.size) (x := .int .i64 (g)) (y := .int .i64 (h)) (by first | omega | (simp; done) | (simp; omega)) (by first | assumption | (simp [go_sem, *]; done)) (by first | assumption | (simp [go_sem, *]; done))
            obtain ⟨f10x3, f10x3a, f10x3b⟩ := bel_box hb10 (b := w2.heap.size + 1) (x := .int .i64 (i)) (y := .int .i64 (j)) (by first | omega | (simp; done) | (simp; omega)) (by first | assumption | (simp [go_sem, *]; done)) (by first | assumption | (simp [go_sem, *]; done))
            obtain ⟨f10x4, f10x4a, f10x4b⟩ := bel_box hb10 (b := w3.heap.size) (x := .int .i64 (maxI a c)) (y := .int .i64 (maxI b d)) (by first | omega | (simp; done) | (simp; omega)) (by first | assumption | (simp [go_sem, *]; done)) (by first | assumption | (simp [go_sem, *]; done))
            have hB10 : Below w.heap.size w wr := bel_trans hB9 hb10
            have hl10 := hB10.size
            clear hl9 hB9 f9x4b f9x4a f9x4 f9x3b f9x3a f9x3 f9x2b f9x2a f9x2 f9x1b f9x1a f9x1 f9x0b f9x0a f9x0
            clear hb10
            go_wp2_with fail
            refine (HcNs.out _).mono ?_
            rintro e w11 ⟨rfl, hb11⟩
            obtain ⟨f11x0, f11x0a, f11x0b⟩ := bel_box hb11 (b := w1.heap.size) (x := .int .i64 (a)) (y := .int .i64 (b)) (by first | omega | (simp; done) | (simp; omega)) (by first | assumption | (simp [go_sem, *]; done)) (by first | assumption | (simp [go_sem, *]; done))
            obtain ⟨f11x1, f11x1a, f11x1b⟩ := bel_box hb11 (b := w1.heap.size + 1) (x := .int .i64 (c)) (y := .int .i64 (d)) (by first | omega | (simp; done) | (simp; omega)) (by first | assumption | (simp [go_sem, *]; done)) (by first | assumption | (simp [go_sem, *]; done))
            obtain ⟨f11x2, f11x2a, f11x2b⟩ := bel_box hb11 (b := w2.heap.size) (x := .int .i64 (g)) (y := .int .i64 (h)) (by first | omega | (simp; done) | (simp; omega)) (by first | assumption | (simp [go_sem, *]; done)) (by first | assumption | (simp [go_sem, *]; done))
            obtain ⟨f11x3, f11x3a, f11x3b⟩ := bel_box hb11 (b := w2.heap.size + 1) (x := .int .i64 (i)) (y := .int .i64 (j)) (by first | omega | (simp; done) | (simp; omega)) (by first | assumption | (simp [go_sem, *]; done)) (by first | assumption | (simp [go_sem, *]; done))
            obtain ⟨f11x4, f11x4a, f11x4b⟩ := bel_box hb11 (b := w3.heap.size) (x := .int .i64 (maxI a c)) (y := .int .i64 (maxI b d)) (by first | omega | (simp; done) | (simp; omega)) (by first | assumption | (simp [go_sem, *]; done)) (by first | assumption | (simp [go_sem, *]; done))
            have hB11 : Below w.heap.size w w11 := bel_trans hB10 hb11
            have hl11 := hB11.size
            clear hl10 hB10 f10x4b f10x4a f10x4 f10x3b f10x3a f10x3 f10x2b f10x2a f10x2 f10x1b f10x1a f10x1 f10x0b f10x0a f10x0
            clear hb11
            go_wp2_with fail
            refine (HcO1.out _).mono ?_
            rintro e w12 ⟨rfl, hb12⟩
            obtain ⟨f12x0, f12x0a, f12x0b⟩ := bel_box hb12 (b := w1.heap.size) (x := .int .i64 (a)) (y := .int .i64 (b)) (by first | omega | (simp; done) | (simp; omega)) (by first | assumption | (simp [go_sem, *]; done)) (by first | assumption | (simp [go_sem, *]; done))
            obtain ⟨f12x1, f12x1a, f12x1b⟩ := bel_box hb12 (b := w1.heap.size + 1) (x := .int .i64 (c)) (y := .int .i64 (d)) (by first | omega | (simp; done) | (simp; omega)) (by first | assumption | (simp [go_sem, *]; done)) (by first | assumption | (simp [go_sem, *]; done))
            obtain ⟨f12x2, f12x2a, f12x2b⟩ := bel_box hb12 (b := w2.heap.size) (x := .int .i64 (g)) (y := .int .i64 (h)) (by first | omega | (simp; done) | (simp; omega)) (by first | assumption | (simp [go_sem, *]; done)) (by first | assumption | (simp [go_sem, *]; done))
            obtain ⟨f12x3, f12x3a, f12x3b⟩ := bel_box hb12 (b := w2.heap.size + 1) (x := .int .i64 (i)) (y := .int .i64 (j)) (by first | omega | (simp; done) | (simp; omega)) (by first | assumption | (simp [go_sem, *]; done)) (by first | assumption | (simp [go_sem, *]; done))
            obtain ⟨f12x4, f12x4a, f12x4b⟩ := bel_box hb12 (b := w3.heap.size) (x := .int .i64 (maxI a c)) (y := .int .i64 (maxI b d)) (by first | omega | (simp; done) | (simp; omega)) (by first | assumption | (simp [go_sem, *]; done)) (by first | assumption | (simp [go_sem, *]; done))
            have hB12 : Below w.heap.size w w12 := bel_trans hB11 hb12
            have hl12 := hB12.size
            clear hl11 hB11 f11x4b f11x4a f11x4 f11x3b f11x3a f11x3 f11x2b f11x2a f11x2 f11x1b f11x1a f11x1 f11x0b f11x0a f11x0
            clear hb12
            go_wp2_with fail
            refine (HcO2.out _).mono ?_
            rintro e w13 ⟨rfl, hb13⟩
            obtain ⟨f13x0, f13x0a, f13x0b⟩ := bel_box hb13 (b := w1.heap.size) (x := .int .i64 (a)) (y := .int .i64 (b)) (by first | omega | (simp; done) | (simp; omega)) (by first | assumption | (simp [go_sem, *]; done)) (by first | assumption | (simp [go_sem, *]; done))
            obtain ⟨f13x1, f13x1a, f13x1b⟩ := bel_box hb13 (b := w1.heap.size + 1) (x := .int .i64 (c)) (y := .int .i64 (d)) (by first | omega | (simp; done) | (simp; omega)) (by first | assumption | (simp [go_sem, *]; done)) (by first | assumption | (simp [go_sem, *]; done))
            obtain ⟨f13x2, f13x2a, f13x2b⟩ := bel_box hb13 (b := w2.heap.size) (x := .int .i64 (g)) (y := .int .i64 (h)) (by first | omega | (simp; done) | (simp; omega)) (by first | assumption | (simp [go_sem, *]; done)) (by first | assumption | (simp [go_sem, *]; done))
            obtain ⟨f13x3, f13x3a, f13x3b⟩ := bel_box hb13 (b := w2.heap.size + 1) (x := .int .i64 (i)) (y := .int .i64 (j)) (by first | omega | (simp; done) | (simp; omega)) (by first | assumption | (simp [go_sem, *]; done)) (by first | assumption | (simp [go_sem, *]; done))
            obtain ⟨f13x4, f13x4a, f13x4b⟩ := bel_box hb13 (b := w3.heap.size) (x := .int .i64 (maxI a c)) (y := .int .i64 (maxI b d)) (by first | omega | (simp; done) | (simp; omega)) (by first | assumption | (simp [go_sem, *]; done)) (by first | assumption | (simp [go_sem, *]; done))
            have hB13 : Below w.heap.size w w13 := bel_trans hB12 hb13
            have hl13 := hB13.size
            clear hl12 hB12 f12x4b f12x4a f12x4 f12x3b f12x3a f12x3 f12x2b f12x2a f12x2 f12x1b f12x1a f12x1 f12x0b f12x0a f12x0
            clear hb13
            go_wp2_with fail
            go_ret
            exact ⟨rfl, hB13⟩
  · by_cases hlen1 : len ≤ 1048576
    · have hlen2 : 1048576 < len2 := by omega
      clear hlen
      go_enter Try.func4, Try.ntmps4
      go_wp2_with fail
      go_ret
      exact ⟨rfl, Below.refl _ _⟩
    · clear hlen
      go_enter Try.func4, Try.ntmps4
      go_wp2_with fail
      go_ret
      exact ⟨rfl, Below.refl _ _⟩

end Go.Proofs.Ythpjejnnagamiaa
