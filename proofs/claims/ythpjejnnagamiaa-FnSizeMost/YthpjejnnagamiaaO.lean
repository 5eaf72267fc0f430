/- The walk of the law FnSizeLess. -/
import Derived.Test.YthpjejnnagamiaaN
namespace Go.Proofs.Ythpjejnnagamiaa
open Go.RowKit

theorem less_no {a b c d : Int} (h : lessOk a b c d = false) : lessC a b c d = 0 ∧ lessM a b c d = 0 := by simp [lessC, lessM, h]
theorem less_yes {a b c d : Int} (h : lessOk a b c d = true) : lessC a b c d = a - c ∧ lessM a b c d = b - d := by simp [lessC, lessM, h]
theorem less_iff {a b c d : Int} : lessOk a b c d = true ↔ (0 ≤ a ∧ a ≤ 10000 ∧ 0 ≤ b ∧ b ≤ 10000) ∧ (0 ≤ c ∧ c ≤ 10000 ∧ 0 ≤ d ∧ d ≤ 10000) ∧ c ≤ a ∧ d ≤ b := by
  simp [lessOk, ok_iff, fit_iff, and_assoc]
theorem add_iff {a b c d : Int} : addOk a b c d = true ↔ (0 ≤ a ∧ a ≤ 10000 ∧ 0 ≤ b ∧ b ≤ 10000) ∧ (0 ≤ c ∧ c ≤ 10000 ∧ 0 ≤ d ∧ d ≤ 10000) ∧ a + c ≤ 10000 ∧ b + d ≤ 10000 := by
  simp only [addOk, Bool.and_eq_true, ok_iff]; omega

/-- Taken from one behind the other, in both orders, and at once. -/
theorem less_all {a b c d g h : Int} (h1 : lessOk a b c d = true) (h2 : lessOk (a - c) (b - d) g h = true) :
    (lessOk a b g h = true ∧ lessC a b g h = a - g ∧ lessM a b g h = b - h) ∧ (lessOk (a - g) (b - h) c d = true ∧ lessC (a - g) (b - h) c d = a - c - g ∧ lessM (a - g) (b - h) c d = b - d - h) ∧
    (addOk c d g h = true ∧ addC c d g h = c + g ∧ addM c d g h = d + h) ∧ (lessOk a b (c + g) (d + h) = true ∧ lessC a b (c + g) (d + h) = a - c - g ∧ lessM a b (c + g) (d + h) = b - d - h) ∧ fitB (a - c - g) (b - d - h) a b = true := by
  have p1 := less_iff.1 h1
  have p2 := less_iff.1 h2
  have q1 : lessOk a b g h = true := less_iff.2 (by omega)
  have q2 : lessOk (a - g) (b - h) c d = true := less_iff.2 (by omega)
  have q3 : addOk c d g h = true := add_iff.2 (by omega)
  have q4 : lessOk a b (c + g) (d + h) = true := less_iff.2 (by omega)
  refine ⟨⟨q1, less_yes q1⟩, ⟨q2, ?_, ?_⟩, ⟨q3, add_yes q3⟩, ⟨q4, ?_, ?_⟩, fit_iff.2 (by omega)⟩
  · rw [(less_yes q2).1]; omega
  · rw [(less_yes q2).2]; omega
  · rw [(less_yes q4).1]; omega
  · rw [(less_yes q4).2]; omega

set_option maxHeartbeats 8000000 in
theorem less_walk (xa : Option Addr) (len cap : Nat) (f : Nat → Int) (xb : Option Addr) (len2 cap2 : Nat) (f2 : Nat → Int) (w : World) (hby : Bytes w xa len cap f) (hby2 : Bytes w xb len2 cap2 f2) :
    Calls Try.prog 5 #[.slice xa len cap, .slice xb len2 cap2] w fun e w' => e = .returned (.bool true) ∧ Below w.heap.size w w' := by
  have hcap := hby.2.1
  have hlc := hby.1
  have hcap2 := hby2.2.1
  have hlc2 := hby2.1
  unfold maxLen at hcap hcap2
  by_cases hlen : len ≤ 1048576 ∧ len2 ≤ 1048576
  · obtain ⟨hlen, hlen2⟩ := hlen
    go_enter Try.func5, Try.ntmps5
    go_wp2_with fail
    refine (draw24_any xa len cap f _ hby).mono ?_
    rintro e w1 ⟨a, b, c, d, rfl, hb1⟩
    have hB1 : Below w.heap.size w w1 := bel_trans (Below.refl _ _) hb1
    have hl1 := hB1.size
    clear hb1
    have hby3 : Bytes ((w1.alloc (.cells #[.int .i64 a, .int .i64 b] 24)).alloc (.cells #[.int .i64 c, .int .i64 d] 24)) xb len2 cap2 f2 := hby2.keep ((hB1.alloc (by omega) _).alloc (by simp; omega) _)
    clear hby hby2
    go_wp2_with fail
    refine (draw24_any xb len2 cap2 f2 _ hby3).mono ?_
    rintro e w2 ⟨g, h, i, j, rfl, hb2⟩
    obtain ⟨f2x0, f2x0a, f2x0b⟩ := bel_box hb2 (b := w1.heap.size) (x := .int .i64 (a)) (y := .int .i64 (b)) (by first | omega | (simp; done) | (simp; omega)) (by first | assumption | (simp [go_sem, *]; done)) (by first | assumption | (simp [go_sem, *]; done))
    obtain ⟨f2x1, f2x1a, f2x1b⟩ := bel_box hb2 (b := w1.heap.size + 1) (x := .int .i64 (c)) (y := .int .i64 (d)) (by first | omega | (simp; done) | (simp; omega)) (by first | assumption | (simp [go_sem, *]; done)) (by first | assumption | (simp [go_sem, *]; done))
    have hB2 : Below w.heap.size w w2 := bel_trans ((hB1.alloc (by first | omega | (simp; done) | (simp; omega)) _).alloc (by first | omega | (simp; done) | (simp; omega)) _) hb2
    have hl2 := hB2.size
    clear hl1 hB1
    clear hb2
    clear hby3
    cases h1 : lessOk a b c d
    · skip
      obtain ⟨e1, e2⟩ := less_no h1
      have cX : ∀ w, Calls Try.prog 15 #[.agg #[.int .i64 (a), .int .i64 (b)], .agg #[.int .i64 (c), .int .i64 (d)]] w fun e w' => e = .returned (.tuple #[.agg #[.int .i64 (0), .int .i64 (0)], .bool (false)]) ∧ Below w.heap.size w w' := fun w => by have := implLess_any a b c d w; rwa [e1, e2, h1] at this
      have cT : ∀ w, Calls Try.prog 25 #[.agg #[.int .i64 (a), .int .i64 (b)], .agg #[.int .i64 (c), .int .i64 (d)]] w fun e w' => e = .returned (.tuple #[.agg #[.int .i64 (0), .int .i64 (0)], .bool (false)]) ∧ Below w.heap.size w w' := fun w => by have := specLess_any a b c d w; rwa [e1, e2, h1] at this
      have cY : ∀ w, Calls Try.prog 15 #[.agg #[.int .i64 (0), .int .i64 (0)], .agg #[.int .i64 (g), .int .i64 (h)]] w fun e w' => e = .returned (.tuple #[.agg #[.int .i64 (lessC 0 0 g h), .int .i64 (lessM 0 0 g h)], .bool (lessOk 0 0 g h)]) ∧ Below w.heap.size w w' := implLess_any 0 0 g h
      have cU : ∀ w, Calls Try.prog 15 #[.agg #[.int .i64 (a), .int .i64 (b)], .agg #[.int .i64 (g), .int .i64 (h)]] w fun e w' => e = .returned (.tuple #[.agg #[.int .i64 (lessC a b g h), .int .i64 (lessM a b g h)], .bool (lessOk a b g h)]) ∧ Below w.heap.size w w' := implLess_any a b g h
      have cV : ∀ w, Calls Try.prog 15 #[.agg #[.int .i64 (lessC a b g h), .int .i64 (lessM a b g h)], .agg #[.int .i64 (c), .int .i64 (d)]] w fun e w' => e = .returned (.tuple #[.agg #[.int .i64 (lessC (lessC a b g h) (lessM a b g h) c d), .int .i64 (lessM (lessC a b g h) (lessM a b g h) c d)], .bool (lessOk (lessC a b g h) (lessM a b g h) c d)]) ∧ Below w.heap.size w w' := implLess_any _ _ c d
      have HcX := hidden cX; clear cX
      have HcT := hidden cT; clear cT
      have HcY := hidden cY; clear cY
      have HcU := hidden cU; clear cU
      have HcV := hidden cV; clear cV
      clear h1 e1 e2
      go_wp2_with fail
      refine (HcX.out _).mono ?_
      rintro e w3 ⟨rfl, hb3⟩
      obtain ⟨f3x0, f3x0a, f3x0b⟩ := bel_box hb3 (b := w1.heap.size) (x := .int .i64 (a)) (y := .int .i64 (b)) (by first | omega | (simp; done) | (simp; omega)) (by first | assumption | (simp [go_sem, *]; done)) (by first | assumption | (simp [go_sem, *]; done))
      obtain ⟨f3x1, f3x1a, f3x1b⟩ := bel_box hb3 (b := w1.heap.size + 1) (x := .int .i64 (c)) (y := .int .i64 (d)) (by first | omega | (simp; done) | (simp; omega)) (by first | assumption | (simp [go_sem, *]; done)) (by first | assumption | (simp [go_sem, *]; done))
      obtain ⟨f3x2, f3x2a, f3x2b⟩ := bel_box hb3 (b := w2.heap.size) (x := .int .i64 (g)) (y := .int .i64 (h)) (by first | omega | (simp; done) | (simp; omega)) (by first | assumption | (simp [go_sem, *]; done)) (by first | assumption | (simp [go_sem, *]; done))
      obtain ⟨f3x3, f3x3a, f3x3b⟩ := bel_box hb3 (b := w2.heap.size + 1) (x := .int .i64 (i)) (y := .int .i64 (j)) (by first | omega | (simp; done) | (simp; omega)) (by first | assumption | (simp [go_sem, *]; done)) (by first | assumption | (simp [go_sem, *]; done))
      have hB3 : Below w.heap.size w w3 := bel_trans ((hB2.alloc (by first | omega | (simp; done) | (simp; omega)) _).alloc (by first | omega | (simp; done) | (simp; omega)) _) hb3
      have hl3 := hB3.size
      clear hl2 hB2 f2x1b f2x1a f2x1 f2x0b f2x0a f2x0
      clear hb3
      go_wp2_with fail
      refine (HcY.out _).mono ?_
      rintro e w4 ⟨rfl, hb4⟩
      obtain ⟨f4x0, f4x0a, f4x0b⟩ := bel_box hb4 (b := w1.heap.size) (x := .int .i64 (a)) (y := .int .i64 (b)) (by first | omega | (simp; done) | (simp; omega)) (by first | assumption | (simp [go_sem, *]; done)) (by first | assumption | (simp [go_sem, *]; done))
      obtain ⟨f4x1, f4x1a, f4x1b⟩ := bel_box hb4 (b := w1.heap.size + 1) (x := .int .i64 (c)) (y := .int .i64 (d)) (by first | omega | (simp; done) | (simp; omega)) (by first | assumption | (simp [go_sem, *]; done)) (by first | assumption | (simp [go_sem, *]; done))
      obtain ⟨f4x2, f4x2a, f4x2b⟩ := bel_box hb4 (b := w2.heap.size) (x := .int .i64 (g)) (y := .int .i64 (h)) (by first | omega | (simp; done) | (simp; omega)) (by first | assumption | (simp [go_sem, *]; done)) (by first | assumption | (simp [go_sem, *]; done))
      obtain ⟨f4x3, f4x3a, f4x3b⟩ := bel_box hb4 (b := w2.heap.size + 1) (x := .int .i64 (i)) (y := .int .i64 (j)) (by first | omega | (simp; done) | (simp; omega)) (by first | assumption | (simp [go_sem, *]; done)) (by first | assumption | (simp [go_sem, *]; done))
      obtain ⟨f4x4, f4x4a, f4x4b⟩ := bel_box hb4 (b := w3.heap.size) (x := .int .i64 (0)) (y := .int .i64 (0)) (by first | omega | (simp; done) | (simp; omega)) (by first | assumption | (simp [go_sem, *]; done)) (by first | assumption | (simp [go_sem, *]; done))
      have hB4 : Below w.heap.size w w4 := bel_trans (hB3.alloc (by first | omega | (simp; done) | (simp; omega)) _) hb4
      have hl4 := hB4.size
      clear hl3 hB3 f3x3b f3x3a f3x3 f3x2b f3x2a f3x2 f3x1b f3x1a f3x1 f3x0b f3x0a f3x0
      clear hb4
      go_wp2_with fail
      refine (HcU.out _).mono ?_
      rintro e w5 ⟨rfl, hb5⟩
      obtain ⟨f5x0, f5x0a, f5x0b⟩ := bel_box hb5 (b := w1.heap.size) (x := .int .i64 (a)) (y := .int .i64 (b)) (by first | omega | (simp; done) | (simp; omega)) (by first | assumption | (simp [go_sem, *]; done)) (by first | assumption | (simp [go_sem, *]; done))
      obtain ⟨f5x1, f5x1a, f5x1b⟩ := bel_box hb5 (b := w1.heap.size + 1) (x := .int .i64 (c)) (y := .int .i64 (d)) (by first | omega | (simp; done) | (simp; omega)) (by first | assumption | (simp [go_sem, *]; done)) (by first | assumption | (simp [go_sem, *]; done))
      obtain ⟨f5x2, f5x2a, f5x2b⟩ := bel_box hb5 (b := w2.heap.size) (x := .int .i64 (g)) (y := .int .i64 (h)) (by first | omega | (simp; done) | (simp; omega)) (by first | assumption | (simp [go_sem, *]; done)) (by first | assumption | (simp [go_sem, *]; done))
      obtain ⟨f5x3, f5x3a, f5x3b⟩ := bel_box hb5 (b := w2.heap.size + 1) (x := .int .i64 (i)) (y := .int .i64 (j)) (by first | omega | (simp; done) | (simp; omega)) (by first | assumption | (simp [go_sem, *]; done)) (by first | assumption | (simp [go_sem, *]; done))
      obtain ⟨f5x4, f5x4a, f5x4b⟩ := bel_box hb5 (b := w3.heap.size) (x := .int .i64 (0)) (y := .int .i64 (0)) (by first | omega | (simp; done) | (simp; omega)) (by first | assumption | (simp [go_sem, *]; done)) (by first | assumption | (simp [go_sem, *]; done))
      obtain ⟨f5x5, f5x5a, f5x5b⟩ := bel_box hb5 (b := w4.heap.size) (x := .int .i64 (lessC 0 0 g h)) (y := .int .i64 (lessM 0 0 g h)) (by first | omega | (simp; done) | (simp; omega)) (by first | assumption | (simp [go_sem, *]; done)) (by first | assumption | (simp [go_sem, *]; done))
      have hB5 : Below w.heap.size w w5 := bel_trans (hB4.alloc (by first | omega | (simp; done) | (simp; omega)) _) hb5
      have hl5 := hB5.size
      clear hl4 hB4 f4x4b f4x4a f4x4 f4x3b f4x3a f4x3 f4x2b f4x2a f4x2 f4x1b f4x1a f4x1 f4x0b f4x0a f4x0
      clear hb5
      go_wp2_with fail
      refine (HcV.out _).mono ?_
      rintro e w6 ⟨rfl, hb6⟩
      obtain ⟨f6x0, f6x0a, f6x0b⟩ := bel_box hb6 (b := w1.heap.size) (x := .int .i64 (a)) (y := .int .i64 (b)) (by first | omega | (simp; done) | (simp; omega)) (by first | assumption | (simp [go_sem, *]; done)) (by first | assumption | (simp [go_sem, *]; done))
      obtain ⟨f6x1, f6x1a, f6x1b⟩ := bel_box hb6 (b := w1.heap.size + 1) (x := .int .i64 (c)) (y := .int .i64 (d)) (by first | omega | (simp; done) | (simp; omega)) (by first | assumption | (simp [go_sem, *]; done)) (by first | assumption | (simp [go_sem, *]; done))
      obtain ⟨f6x2, f6x2a, f6x2b⟩ := bel_box hb6 (b := w2.heap.size) (x := .int .i64 (g)) (y := .int .i64 (h)) (by first | omega | (simp; done) | (simp; omega)) (by first | assumption | (simp [go_sem, *]; done)) (by first | assumption | (simp [go_sem, *]; done))
      obtain ⟨f6x3, f6x3a, f6x3b⟩ := bel_box hb6 (b := w2.heap.size + 1) (x := .int .i64 (i)) (y := .int .i64 (j)) (by first | omega | (simp; done) | (simp; omega)) (by first | assumption | (simp [go_sem, *]; done)) (by first | assumption | (simp [go_sem, *]; done))
      obtain ⟨f6x4, f6x4a, f6x4b⟩ := bel_box hb6 (b := w3.heap.size) (x := .int .i64 (0)) (y := .int .i64 (0)) (by first | omega | (simp; done) | (simp; omega)) (by first | assumption | (simp [go_sem, *]; done)) (by first | assumption | (simp [go_sem, *]; done))
      obtain ⟨f6x5, f6x5a, f6x5b⟩ := bel_box hb6 (b := w4.heap.size) (x := .int .i64 (lessC 0 0 g h)) (y := .int .i64 (lessM 0 0 g h)) (by first | omega | (simp; done) | (simp; omega)) (by first | assumption | (simp [go_sem, *]; done)) (by first | assumption | (simp [go_sem, *]; done))
      obtain ⟨f6x6, f6x6a, f6x6b⟩ := bel_box hb6 (b := w5.heap.size) (x := .int .i64 (lessC a b g h)) (y := .int .i64 (lessM a b g h)) (by first | omega | (simp; done) | (simp; omega)) (by first | assumption | (simp [go_sem, *]; done)) (by first | assumption | (simp [go_sem, *]; done))
      have hB6 : Below w.heap.size w w6 := bel_trans (hB5.alloc (by first | omega | (simp; done) | (simp; omega)) _) hb6
      have hl6 := hB6.size
      clear hl5 hB5 f5x5b f5x5a f5x5 f5x4b f5x4a f5x4 f5x3b f5x3a f5x3 f5x2b f5x2a f5x2 f5x1b f5x1a f5x1 f5x0b f5x0a f5x0
      clear hb6
      go_wp2_with fail
      refine (HcT.out _).mono ?_
      rintro e w7 ⟨rfl, hb7⟩
      obtain ⟨f7x0, f7x0a, f7x0b⟩ := bel_box hb7 (b := w1.heap.size) (x := .int .i64 (a)) (y := .int .i64 (b)) (by first | omega | (simp; done) | (simp; omega)) (by first | assumption | (simp [go_sem, *]; done)) (by first | assumption | (simp [go_sem, *]; done))
      obtain ⟨f7x1, f7x1a, f7x1b⟩ := bel_box hb7 (b := w1.heap.size + 1) (x := .int .i64 (c)) (y := .int .i64 (d)) (by first | omega | (simp; done) | (simp; omega)) (by first | assumption | (simp [go_sem, *]; done)) (by first | assumption | (simp [go_sem, *]; done))
      obtain ⟨f7x2, f7x2a, f7x2b⟩ := bel_box hb7 (b := w2.heap.size) (x := .int .i64 (g)) (y := .int .i64 (h)) (by first | omega | (simp; done) | (simp; omega)) (by first | assumption | (simp [go_sem, *]; done)) (by first | assumption | (simp [go_sem, *]; done))
      obtain ⟨f7x3, f7x3a, f7x3b⟩ := bel_box hb7 (b := w2.heap.size + 1) (x := .int .i64 (i)) (y := .int .i64 (j)) (by first | omega | (simp; done) | (simp; omega)) (by first | assumption | (simp [go_sem, *]; done)) (by first | assumption | (simp [go_sem, *]; done))
      obtain ⟨f7x4, f7x4a, f7x4b⟩ := bel_box hb7 (b := w3.heap.size) (x := .int .i64 (0)) (y := .int .i64 (0)) (by first | omega | (simp; done) | (simp; omega)) (by first | assumption | (simp [go_sem, *]; done)) (by first | assumption | (simp [go_sem, *]; done))
      obtain ⟨f7x5, f7x5a, f7x5b⟩ := bel_box hb7 (b := w4.heap.size) (x := .int .i64 (lessC 0 0 g h)) (y := .int .i64 (lessM 0 0 g h)) (by first | omega | (simp; done) | (simp; omega)) (by first | assumption | (simp [go_sem, *]; done)) (by first | assumption | (simp [go_sem, *]; done))
      obtain ⟨f7x6, f7x6a, f7x6b⟩ := bel_box hb7 (b := w5.heap.size) (x := .int .i64 (lessC a b g h)) (y := .int .i64 (lessM a b g h)) (by first | omega | (simp; done) | (simp; omega)) (by first | assumption | (simp [go_sem, *]; done)) (by first | assumption | (simp [go_sem, *]; done))
      obtain ⟨f7x7, f7x7a, f7x7b⟩ := bel_box hb7 (b := w6.heap.size) (x := .int .i64 (lessC (lessC a b g h) (lessM a b g h) c d)) (y := .int .i64 (lessM (lessC a b g h) (lessM a b g h) c d)) (by first | omega | (simp; done) | (simp; omega)) (by first | assumption | (simp [go_sem, *]; done)) (by first | assumption | (simp [go_sem, *]; done))
      have hB7 : Below w.heap.size w w7 := bel_trans (hB6.alloc (by first | omega | (simp; done) | (simp; omega)) _) hb7
      have hl7 := hB7.size
      clear hl6 hB6 f6x6b f6x6a f6x6 f6x5b f6x5a f6x5 f6x4b f6x4a f6x4 f6x3b f6x3a f6x3 f6x2b f6x2a f6x2 f6x1b f6x1a f6x1 f6x0b f6x0a f6x0
      clear hb7
      go_wp2_with fail
      go_ret
      exact ⟨rfl, (hB7.alloc (by first | omega | (simp; done) | (simp; omega)) _)⟩
    · cases h2 : lessOk (a - c) (b - d) g h
      · skip
        obtain ⟨e1, e2⟩ := less_yes h1
        have cX : ∀ w, Calls Try.prog 15 #[.agg #[.int .i64 (a), .int .i64 (b)], .agg #[.int .i64 (c), .int .i64 (d)]] w fun e w' => e = .returned (.tuple #[.agg #[.int .i64 (a - c), .int .i64 (b - d)], .bool (true)]) ∧ Below w.heap.size w w' := fun w => by have := implLess_any a b c d w; rwa [e1, e2, h1] at this
        have cT : ∀ w, Calls Try.prog 25 #[.agg #[.int .i64 (a), .int .i64 (b)], .agg #[.int .i64 (c), .int .i64 (d)]] w fun e w' => e = .returned (.tuple #[.agg #[.int .i64 (a - c), .int .i64 (b - d)], .bool (true)]) ∧ Below w.heap.size w w' := fun w => by have := specLess_any a b c d w; rwa [e1, e2, h1] at this
        obtain ⟨e3, e4⟩ := less_no h2
        have cY : ∀ w, Calls Try.prog 15 #[.agg #[.int .i64 (a - c), .int .i64 (b - d)], .agg #[.int .i64 (g), .int .i64 (h)]] w fun e w' => e = .returned (.tuple #[.agg #[.int .i64 (0), .int .i64 (0)], .bool (false)]) ∧ Below w.heap.size w w' := fun w => by have := implLess_any (a - c) (b - d) g h w; rwa [e3, e4, h2] at this
        have cU : ∀ w, Calls Try.prog 15 #[.agg #[.int .i64 (a), .int .i64 (b)], .agg #[.int .i64 (g), .int .i64 (h)]] w fun e w' => e = .returned (.tuple #[.agg #[.int .i64 (lessC a b g h), .int .i64 (lessM a b g h)], .bool (lessOk a b g h)]) ∧ Below w.heap.size w w' := implLess_any a b g h
        have cV : ∀ w, Calls Try.prog 15 #[.agg #[.int .i64 (lessC a b g h), .int .i64 (lessM a b g h)], .agg #[.int .i64 (c), .int .i64 (d)]] w fun e w' => e = .returned (.tuple #[.agg #[.int .i64 (lessC (lessC a b g h) (lessM a b g h) c d), .int .i64 (lessM (lessC a b g h) (lessM a b g h) c d)], .bool (lessOk (lessC a b g h) (lessM a b g h) c d)]) ∧ Below w.heap.size w w' := implLess_any _ _ c d
        have HcX := hidden cX; clear cX
        have HcT := hidden cT; clear cT
        have HcY := hidden cY; clear cY
        have HcU := hidden cU; clear cU
        have HcV := hidden cV; clear cV
        clear h1 e1 e2 h2 e3 e4
        go_wp2_with fail
        refine (HcX.out _).mono ?_
        rintro e w3 ⟨rfl, hb3⟩
        obtain ⟨f3x0, f3x0a, f3x0b⟩ := bel_box hb3 (b := w1.heap.size) (x := .int .i64 (a)) (y := .int .i64 (b)) (by first | omega | (simp; done) | (simp; omega)) (by first | assumption | (simp [go_sem, *]; done)) (by first | assumption | (simp [go_sem, *]; done))
        obtain ⟨f3x1, f3x1a, f3x1b⟩ := bel_box hb3 (b := w1.heap.size + 1) (x := .int .i64 (c)) (y := .int .i64 (d)) (by first | omega | (simp; done) | (simp; omega)) (by first | assumption | (simp [go_sem, *]; done)) (by first | assumption | (simp [go_sem, *]; done))
        obtain ⟨f3x2, f3x2a, f3x2b⟩ := bel_box hb3 (b := w2.heap.size) (x := .int .i64 (g)) (y := .int .i64 (h)) (by first | omega | (simp; done) | (simp; omega)) (by first | assumption | (simp [go_sem, *]; done)) (by first | assumption | (simp [go_sem, *]; done))
        obtain ⟨f3x3, f3x3a, f3x3b⟩ := bel_box hb3 (b := w2.heap.size + 1) (x := .int .i64 (i)) (y := .int .i64 (j)) (by first | omega | (simp; done) | (simp; omega)) (by first | assumption | (simp [go_sem, *]; done)) (by first | assumption | (simp [go_sem, *]; done))
        have hB3 : Below w.heap.size w w3 := bel_trans ((hB2.alloc (by first | omega | (simp; done) | (simp; omega)) _).alloc (by first | omega | (simp; done) | (simp; omega)) _) hb3
        have hl3 := hB3.size
        clear hl2 hB2 f2x1b f2x1a f2x1 f2x0b f2x0a f2x0
        clear hb3
        go_wp2_with fail
        refine (HcY.out _).mono ?_
        rintro e w4 ⟨rfl, hb4⟩
        obtain ⟨f4x0, f4x0a, f4x0b⟩ := bel_box hb4 (b := w1.heap.size) (x := .int .i64 (a)) (y := .int .i64 (b)) (by first | omega | (simp; done) | (simp; omega)) (by first | assumption | (simp [go_sem, *]; done)) (by first | assumption | (simp [go_sem, *]; done))
        obtain ⟨f4x1, f4x1a, f4x1b⟩ := bel_box hb4 (b := w1.heap.size + 1) (x := .int .i64 (c)) (y := .int .i64 (d)) (by first | omega | (simp; done) | (simp; omega)) (by first | assumption | (simp [go_sem, *]; done)) (by first | assumption | (simp [go_sem, *]; done))
        obtain ⟨f4x2, f4x2a, f4x2b⟩ := bel_box hb4 (b := w2.heap.size) (x := .int .i64 (g)) (y := .int .i64 (h)) (by first | omega | (simp; done) | (simp; omega)) (by first | assumption | (simp [go_sem, *]; done)) (by first | assumption | (simp [go_sem, *]; done))
        obtain ⟨f4x3, f4x3a, f4x3b⟩ := bel_box hb4 (b := w2.heap.size + 1) (x := .int .i64 (i)) (y := .int .i64 (j)) (by first | omega | (simp; done) | (simp; omega)) (by first | assumption | (simp [go_sem, *]; done)) (by first | assumption | (simp [go_sem, *]; done))
        obtain ⟨f4x4, f4x4a, f4x4b⟩ := bel_box hb4 (b := w3.heap.size) (x := .int .i64 (a - c)) (y := .int .i64 (b - d)) (by first | omega | (simp; done) | (simp; omega)) (by first | assumption | (simp [go_sem, *]; done)) (by first | assumption | (simp [go_sem, *]; done))
        have hB4 : Below w.heap.size w w4 := bel_trans (hB3.alloc (by first | omega | (simp; done) | (simp; omega)) _) hb4
        have hl4 := hB4.size
        clear hl3 hB3 f3x3b f3x3a f3x3 f3x2b f3x2a f3x2 f3x1b f3x1a f3x1 f3x0b f3x0a f3x0
        clear hb4
        go_wp2_with fail
        refine (HcU.out _).mono ?_
        rintro e w5 ⟨rfl, hb5⟩
        obtain ⟨f5x0, f5x0a, f5x0b⟩ := bel_box hb5 (b := w1.heap.size) (x := .int .i64 (a)) (y := .int .i64 (b)) (by first | omega | (simp; done) | (simp; omega)) (by first | assumption | (simp [go_sem, *]; done)) (by first | assumption | (simp [go_sem, *]; done))
        obtain ⟨f5x1, f5x1a, f5x1b⟩ := bel_box hb5 (b := w1.heap.size + 1) (x := .int .i64 (c)) (y := .int .i64 (d)) (by first | omega | (simp; done) | (simp; omega)) (by first | assumption | (simp [go_sem, *]; done)) (by first | assumption | (simp [go_sem, *]; done))
        obtain ⟨f5x2, f5x2a, f5x2b⟩ := bel_box hb5 (b := w2.heap.size) (x := .int .i64 (g)) (y := .int .i64 (h)) (by first | omega | (simp; done) | (simp; omega)) (by first | assumption | (simp [go_sem, *]; done)) (by first | assumption | (simp [go_sem, *]; done))
        obtain ⟨f5x3, f5x3a, f5x3b⟩ := bel_box hb5 (b := w2.heap.size + 1) (x := .int .i64 (i)) (y := .int .i64 (j)) (by first | omega | (simp; done) | (simp; omega)) (by first | assumption | (simp [go_sem, *]; done)) (by first | assumption | (simp [go_sem, *]; done))
        obtain ⟨f5x4, f5x4a, f5x4b⟩ := bel_box hb5 (b := w3.heap.size) (x := .int .i64 (a - c)) (y := .int .i64 (b - d)) (by first | omega | (simp; done) | (simp; omega)) (by first | assumption | (simp [go_sem, *]; done)) (by first | assumption | (simp [go_sem, *]; done))
        obtain ⟨f5x5, f5x5a, f5x5b⟩ := bel_box hb5 (b := w4.heap.size) (x := .int .i64 (0)) (y := .int .i64 (0)) (by first | omega | (simp; done) | (simp; omega)) (by first | assumption | (simp [go_sem, *]; done)) (by first | assumption | (simp [go_sem, *]; done))
        have hB5 : Below w.heap.size w w5 := bel_trans (hB4.alloc (by first | omega | (simp; done) | (simp; omega)) _) hb5
        have hl5 := hB5.size
        clear hl4 hB4 f4x4b f4x4a f4x4 f4x3b f4x3a f4x3 f4x2b f4x2a f4x2 f4x1b f4x1a f4x1 f4x0b f4x0a f4x0
        clear hb5
        go_wp2_with fail
        refine (HcV.out _).mono ?_
        rintro e w6 ⟨rfl, hb6⟩
        obtain ⟨f6x0, f6x0a, f6x0b⟩ := bel_box hb6 (b := w1.heap.size) (x := .int .i64 (a)) (y := .int .i64 (b)) (by first | omega | (simp; done) | (simp; omega)) (by first | assumption | (simp [go_sem, *]; done)) (by first | assumption | (simp [go_sem, *]; done))
        obtain ⟨f6x1, f6x1a, f6x1b⟩ := bel_box hb6 (b := w1.heap.size + 1) (x := .int .i64 (c)) (y := .int .i64 (d)) (by first | omega | (simp; done) | (simp; omega)) (by first | assumption | (simp [go_sem, *]; done)) (by first | assumption | (simp [go_sem, *]; done))
        obtain ⟨f6x2, f6x2a, f6x2b⟩ := bel_box hb6 (b := w2.heap.size) (x := .int .i64 (g)) (y := .int .i64 (h)) (by first | omega | (simp; done) | (simp; omega)) (by first | assumption | (simp [go_sem, *]; done)) (by first | assumption | (simp [go_sem, *]; done))
        obtain ⟨f6x3, f6x3a, f6x3b⟩ := bel_box hb6 (b := w2.heap.size + 1) (x := .int .i64 (i)) (y := .int .i64 (j)) (by first | omega | (simp; done) | (simp; omega)) (by first | assumption | (simp [go_sem, *]; done)) (by first | assumption | (simp [go_sem, *]; done))
        obtain ⟨f6x4, f6x4a, f6x4b⟩ := bel_box hb6 (b := w3.heap.size) (x := .int .i64 (a - c)) (y := .int .i64 (b - d)) (by first | omega | (simp; done) | (simp; omega)) (by first | assumption | (simp [go_sem, *]; done)) (by first | assumption | (simp [go_sem, *]; done))
        obtain ⟨f6x5, f6x5a, f6x5b⟩ := bel_box hb6 (b := w4.heap.size) (x := .int .i64 (0)) (y := .int .i64 (0)) (by first | omega | (simp; done) | (simp; omega)) (by first | assumption | (simp [go_sem, *]; done)) (by first | assumption | (simp [go_sem, *]; done))
        obtain ⟨f6x6, f6x6a, f6x6b⟩ := bel_box hb6 (b := w5.heap.size) (x := .int .i64 (lessC a b g h)) (y := .int .i64 (lessM a b g h)) (by first | omega | (simp; done) | (simp; omega)) (by first | assumption | (simp [go_sem, *]; done)) (by first | assumption | (simp [go_sem, *]; done))
        have hB6 : Below w.heap.size w w6 := bel_trans (hB5.alloc (by first | omega | (simp; done) | (simp; omega)) _) hb6
        have hl6 := hB6.size
        clear hl5 hB5 f5x5b f5x5a f5x5 f5x4b f5x4a f5x4 f5x3b f5x3a f5x3 f5x2b f5x2a f5x2 f5x1b f5x1a f5x1 f5x0b f5x0a f5x0
        clear hb6
        go_wp2_with fail
        refine (HcT.out _).mono ?_
        rintro e w7 ⟨rfl, hb7⟩
        obtain ⟨f7x0, f7x0a, f7x0b⟩ := bel_box hb7 (b := w1.heap.size) (x := .int .i64 (a)) (y := .int .i64 (b)) (by first | omega | (simp; done) | (simp; omega)) (by first | assumption | (simp [go_sem, *]; done)) (by first | assumption | (simp [go_sem, *]; done))
        obtain ⟨f7x1, f7x1a, f7x1b⟩ := bel_box hb7 (b := w1.heap.size + 1) (x := .int .i64 (c)) (y := .int .i64 (d)) (by first | omega | (simp; done) | (simp; omega)) (by first | assumption | (simp [go_sem, *]; done)) (by first | assumption | (simp [go_sem, *]; done))
        obtain ⟨f7x2, f7x2a, f7x2b⟩ := bel_box hb7 (b := w2.heap.size) (x := .int .i64 (g)) (y := .int .i64 (h)) (by first | omega | (simp; done) | (simp; omega)) (by first | assumption | (simp [go_sem, *]; done)) (by first | assumption | (simp [go_sem, *]; done))
        obtain ⟨f7x3, f7x3a, f7x3b⟩ := bel_box hb7 (b := w2.heap.size + 1) (x := .int .i64 (i)) (y := .int .i64 (j)) (by first | omega | (simp; done) | (simp; omega)) (by first | assumption | (simp [go_sem, *]; done)) (by first | assumption | (simp [go_sem, *]; done))
        obtain ⟨f7x4, f7x4a, f7x4b⟩ := bel_box hb7 (b := w3.heap.size) (x := .int .i64 (a - c)) (y := .int .i64 (b - d)) (by first | omega | (simp; done) | (simp; omega)) (by first | assumption | (simp [go_sem, *]; done)) (by first | assumption | (simp [go_sem, *]; done))
        obtain ⟨f7x5, f7x5a, f7x5b⟩ := bel_box hb7 (b := w4.heap.size) (x := .int .i64 (0)) (y := .int .i64 (0)) (by first | omega | (simp; done) | (simp; omega)) (by first | assumption | (simp [go_sem, *]; done)) (by first | assumption | (simp [go_sem, *]; done))
        obtain ⟨f7x6, f7x6a, f7x6b⟩ := bel_box hb7 (b := w5.heap.size) (x := .int .i64 (lessC a b g h)) (y := .int .i64 (lessM a b g h)) (by first | omega | (simp; done) | (simp; omega)) (by first | assumption | (simp [go_sem, *]; done)) (by first | assumption | (simp [go_sem, *]; done))
        obtain ⟨f7x7, f7x7a, f7x7b⟩ := bel_box hb7 (b := w6.heap.size) (x := .int .i64 (lessC (lessC a b g h) (lessM a b g h) c d)) (y := .int .i64 (lessM (lessC a b g h) (lessM a b g h) c d)) (by first | omega | (simp; done) | (simp; omega)) (by first | assumption | (simp [go_sem, *]; done)) (by first | assumption | (simp [go_sem, *]; done))
        have hB7 : Below w.heap.size w w7 := bel_trans (hB6.alloc (by first | omega | (simp; done) | (simp; omega)) _) hb7
        have hl7 := hB7.size
        clear hl6 hB6 f6x6b f6x6a f6x6 f6x5b f6x5a f6x5 f6x4b f6x4a f6x4 f6x3b f6x3a f6x3 f6x2b f6x2a f6x2 f6x1b f6x1a f6x1 f6x0b f6x0a f6x0
        clear hb7
        go_wp2_with fail
        go_ret
        exact ⟨rfl, (hB7.alloc (by first | omega | (simp; done) | (simp; omega)) _)⟩
      · skip
        obtain ⟨e1, e2⟩ := less_yes h1
        have cX : ∀ w, Calls Try.prog 15 #[.agg #[.int .i64 (a), .int .i64 (b)], .agg #[.int .i64 (c), .int .i64 (d)]] w fun e w' => e = .returned (.tuple #[.agg #[.int .i64 (a - c), .int .i64 (b - d)], .bool (true)]) ∧ Below w.heap.size w w' := fun w => by have := implLess_any a b c d w; rwa [e1, e2, h1] at this
        have cT : ∀ w, Calls Try.prog 25 #[.agg #[.int .i64 (a), .int .i64 (b)], .agg #[.int .i64 (c), .int .i64 (d)]] w fun e w' => e = .returned (.tuple #[.agg #[.int .i64 (a - c), .int .i64 (b - d)], .bool (true)]) ∧ Below w.heap.size w w' := fun w => by have := specLess_any a b c d w; rwa [e1, e2, h1] at this
        obtain ⟨e3, e4⟩ := less_yes h2
        have cY : ∀ w, Calls Try.prog 15 #[.agg #[.int .i64 (a - c), .int .i64 (b - d)], .agg #[.int .i64 (g), .int .i64 (h)]] w fun e w' => e = .returned (.tuple #[.agg #[.int .i64 (a - c - g), .int .i64 (b - d - h)], .bool (true)]) ∧ Below w.heap.size w w' := fun w => by have := implLess_any (a - c) (b - d) g h w; rwa [e3, e4, h2] at this
        obtain ⟨⟨r1, r2, r3⟩, ⟨s1, s2, s3⟩, ⟨t1, t2, t3⟩, ⟨u1, u2, u3⟩, ff⟩ := less_all h1 h2
        have cU : ∀ w, Calls Try.prog 15 #[.agg #[.int .i64 (a), .int .i64 (b)], .agg #[.int .i64 (g), .int .i64 (h)]] w fun e w' => e = .returned (.tuple #[.agg #[.int .i64 (a - g), .int .i64 (b - h)], .bool (true)]) ∧ Below w.heap.size w w' := fun w => by have := implLess_any a b g h w; rwa [r1, r2, r3] at this
        have cV : ∀ w, Calls Try.prog 15 #[.agg #[.int .i64 (a - g), .int .i64 (b - h)], .agg #[.int .i64 (c), .int .i64 (d)]] w fun e w' => e = .returned (.tuple #[.agg #[.int .i64 (a - c - g), .int .i64 (b - d - h)], .bool (true)]) ∧ Below w.heap.size w w' := fun w => by have := implLess_any (a - g) (b - h) c d w; rwa [s1, s2, s3] at this
        have cS : ∀ w, Calls Try.prog 13 #[.agg #[.int .i64 (c), .int .i64 (d)], .agg #[.int .i64 (g), .int .i64 (h)]] w fun e w' => e = .returned (.tuple #[.agg #[.int .i64 (c + g), .int .i64 (d + h)], .bool (true)]) ∧ Below w.heap.size w w' := fun w => by have := implAdd_any c d g h w; rwa [t1, t2, t3] at this
        have cZ : ∀ w, Calls Try.prog 15 #[.agg #[.int .i64 (a), .int .i64 (b)], .agg #[.int .i64 (c + g), .int .i64 (d + h)]] w fun e w' => e = .returned (.tuple #[.agg #[.int .i64 (a - c - g), .int .i64 (b - d - h)], .bool (true)]) ∧ Below w.heap.size w w' := fun w => by have := implLess_any a b (c + g) (d + h) w; rwa [u1, u2, u3] at this
        have cF : ∀ w, Calls Try.prog 17 #[.agg #[.int .i64 (a - c - g), .int .i64 (b - d - h)], .agg #[.int .i64 (a), .int .i64 (b)]] w fun e w' => e = .returned (.bool true) ∧ Below w.heap.size w w' := fun w => by have := implFits_any (a - c - g) (b - d - h) a b w; rwa [ff] at this
        have HcX := hidden cX; clear cX
        have HcT := hidden cT; clear cT
        have HcY := hidden cY; clear cY
        have HcU := hidden cU; clear cU
        have HcV := hidden cV; clear cV
        have HcS := hidden cS; clear cS
        have HcZ := hidden cZ; clear cZ
        have HcF := hidden cF; clear cF
        clear h1 h2 e1 e2 e3 e4 r1 r2 r3 s1 s2 s3 t1 t2 t3 u1 u2 u3 ff
        go_wp2_with fail
        refine (HcX.out _).mono ?_
        rintro e w3 ⟨rfl, hb3⟩
        obtain ⟨f3x0, f3x0a, f3x0b⟩ := bel_box hb3 (b := w1.heap.size) (x := .int .i64 (a)) (y := .int .i64 (b)) (by first | omega | (simp; done) | (simp; omega)) (by first | assumption | (simp [go_sem, *]; done)) (by first | assumption | (simp [go_sem, *]; done))
        obtain ⟨f3x1, f3x1a, f3x1b⟩ := bel_box hb3 (b := w1.heap.size + 1) (x := .int .i64 (c)) (y := .int .i64 (d)) (by first | omega | (simp; done) | (simp; omega)) (by first | assumption | (simp [go_sem, *]; done)) (by first | assumption | (simp [go_sem, *]; done))
        obtain ⟨f3x2, f3x2a, f3x2b⟩ := bel_box hb3 (b := w2.heap.size) (x := .int .i64 (g)) (y := .int .i64 (h)) (by first | omega | (simp; done) | (simp; omega)) (by first | assumption | (simp [go_sem, *]; done)) (by first | assumption | (simp [go_sem, *]; done))
        obtain ⟨f3x3, f3x3a, f3x3b⟩ := bel_box hb3 (b := w2.heap.size + 1) (x := .int .i64 (i)) (y := .int .i64 (j)) (by first | omega | (simp; done) | (simp; omega)) (by first | assumption | (simp [go_sem, *]; done)) (by first | assumption | (simp [go_sem, *]; done))
        have hB3 : Below w.heap.size w w3 := bel_trans ((hB2.alloc (by first | omega | (simp; done) | (simp; omega)) _).alloc (by first | omega | (simp; done) | (simp; omega)) _) hb3
        have hl3 := hB3.size
        clear hl2 hB2 f2x1b f2x1a f2x1 f2x0b f2x0a f2x0
        clear hb3
        go_wp2_with fail
        refine (HcY.out _).mono ?_
        rintro e w4 ⟨rfl, hb4⟩
        obtain ⟨f4x0, f4x0a, f4x0b⟩ := bel_box hb4 (b := w1.heap.size) (x := .int .i64 (a)) (y := .int .i64 (b)) (by first | omega | (simp; done) | (simp; omega)) (by first | assumption | (simp [go_sem, *]; done)) (by first | assumption | (simp [go_sem, *]; done))
        obtain ⟨f4x1, f4x1a, f4x1b⟩ := bel_box hb4 (b := w1.heap.size + 1) (x := .int .i64 (c)) (y := .int .i64 (d)) (by first | omega | (simp; done) | (simp; omega)) (by first | assumption | (simp [go_sem, *]; done)) (by first | assumption | (simp [go_sem, *]; done))
        obtain ⟨f4x2, f4x2a, f4x2b⟩ := bel_box hb4 (b := w2.heap.size) (x := .int .i64 (g)) (y := .int .i64 (h)) (by first | omega | (simp; done) | (simp; omega)) (by first | assumption | (simp [go_sem, *]; done)) (by first | assumption | (simp [go_sem, *]; done))
        obtain ⟨f4x3, f4x3a, f4x3b⟩ := bel_box hb4 (b := w2.heap.size + 1) (x := .int .i64 (i)) (y := .int .i64 (j)) (by first | omega | (simp; done) | (simp; omega)) (by first | assumption | (simp [go_sem, *]; done)) (by first | assumption | (simp [go_sem, *]; done))
        obtain ⟨f4x4, f4x4a, f4x4b⟩ := bel_box hb4 (b := w3.heap.size) (x := .int .i64 (a - c)) (y := .int .i64 (b - d)) (by first | omega | (simp; done) | (simp; omega)) (by first | assumption | (simp [go_sem, *]; done)) (by first | assumption | (simp [go_sem, *]; done))
        have hB4 : Below w.heap.size w w4 := bel_trans (hB3.alloc (by first | omega | (simp; done) | (simp; omega)) _) hb4
        have hl4 := hB4.size
        clear hl3 hB3 f3x3b f3x3a f3x3 f3x2b f3x2a f3x2 f3x1b f3x1a f3x1 f3x0b f3x0a f3x0
        clear hb4
        go_wp2_with fail
        refine (HcU.out _).mono ?_
        rintro e w5 ⟨rfl, hb5⟩
        obtain ⟨f5x0, f5x0a, f5x0b⟩ := bel_box hb5 (b := w1.heap.size) (x := .int .i64 (a)) (y := .int .i64 (b)) (by first | omega | (simp; done) | (simp; omega)) (by first | assumption | (simp [go_sem, *]; done)) (by first | assumption | (simp [go_sem, *]; done))
        obtain ⟨f5x1, f5x1a, f5x1b⟩ := bel_box hb5 (b := w1.heap.size + 1) (x := .int .i64 (c)) (y := .int .i64 (d)) (by first | omega | (simp; done) | (simp; omega)) (by first | assumption | (simp [go_sem, *]; done)) (by first | assumption | (simp [go_sem, *]; done))
        obtain ⟨f5x2, f5x2a, f5x2b⟩ := bel_box hb5 (b := w2.heap.size) (x := .int .i64 (g)) (y := .int .i64 (h)) (by first | omega | (simp; done) | (simp; omega)) (by first | assumption | (simp [go_sem, *]; done)) (by first | assumption | (simp [go_sem, *]; done))
        obtain ⟨f5x3, f5x3a, f5x3b⟩ := bel_box hb5 (b := w2.heap.size + 1) (x := .int .i64 (i)) (y := .int .i64 (j)) (by first | omega | (simp; done) | (simp; omega)) (by first | assumption | (simp [go_sem, *]; done)) (by first | assumption | (simp [go_sem, *]; done))
        obtain ⟨f5x4, f5x4a, f5x4b⟩ := bel_box hb5 (b := w3.heap.size) (x := .int .i64 (a - c)) (y := .int .i64 (b - d)) (by first | omega | (simp; done) | (simp; omega)) (by first | assumption | (simp [go_sem, *]; done)) (by first | assumption | (simp [go_sem, *]; done))
        obtain ⟨f5x5, f5x5a, f5x5b⟩ := bel_box hb5 (b := w4.heap.size) (x := .int .i64 (a - c - g)) (y := .int .i64 (b - d - h)) (by first | omega | (simp; done) | (simp; omega)) (by first | assumption | (simp [go_sem, *]; done)) (by first | assumption | (simp [go_sem, *]; done))
        have hB5 : Below w.heap.size w w5 := bel_trans (hB4.alloc (by first | omega | (simp; done) | (simp; omega)) _) hb5
        have hl5 := hB5.size
        clear hl4 hB4 f4x4b f4x4a f4x4 f4x3b f4x3a f4x3 f4x2b f4x2a f4x2 f4x1b f4x1a f4x1 f4x0b f4x0a f4x0
        clear hb5
        go_wp2_with fail
        refine (HcV.out _).mono ?_
        rintro e w6 ⟨rfl, hb6⟩
        obtain ⟨f6x0, f6x0a, f6x0b⟩ := bel_box hb6 (b := w1.heap.size) (x := .int .i64 (a)) (y := .int .i64 (b)) (by first | omega | (simp; done) | (simp; omega)) (by first | assumption | (simp [go_sem, *]; done)) (by first | assumption | (simp [go_sem, *]; done))
        obtain ⟨f6x1, f6x1a, f6x1b⟩ := bel_box hb6 (b := w1.heap.size + 1) (x := .int .i64 (c)) (y := .int .i64 (d)) (by first | omega | (simp; done) | (simp; omega)) (by first | assumption | (simp [go_sem, *]; done)) (by first | assumption | (simp [go_sem, *]; done))
        obtain ⟨f6x2, f6x2a, f6x2b⟩ := bel_box hb6 (b := w2.heap.size) (x := .int .i64 (g)) (y := .int .i64 (h)) (by first | omega | (simp; done) | (simp; omega)) (by first | assumption | (simp [go_sem, *]; done)) (by first | assumption | (simp [go_sem, *]; done))
        obtain ⟨f6x3, f6x3a, f6x3b⟩ := bel_box hb6 (b := w2.heap.size + 1) (x := .int .i64 (i)) (y := .int .i64 (j)) (by first | omega | (simp; done) | (simp; omega)) (by first | assumption | (simp [go_sem, *]; done)) (by first | assumption | (simp [go_sem, *]; done))
        obtain ⟨f6x4, f6x4a, f6x4b⟩ := bel_box hb6 (b := w3.heap.size) (x := .int .i64 (a - c)) (y := .int .i64 (b - d)) (by first | omega | (simp; done) | (simp; omega)) (by first | assumption | (simp [go_sem, *]; done)) (by first | assumption | (simp [go_sem, *]; done))
        obtain ⟨f6x5, f6x5a, f6x5b⟩ := bel_box hb6 (b := w4.heap.size) (x := .int .i64 (a - c - g)) (y := .int .i64 (b - d - h)) (by first | omega | (simp; done) | (simp; omega)) (by first | assumption | (simp [go_sem, *]; done)) (by first | assumption | (simp [go_sem, *]; done))
        obtain ⟨f6x6, f6x6a, f6x6b⟩ := bel_box hb6 (b := w5.heap.size) (x := .int .i64 (a - g)) (y := .int .i64 (b - h)) (by first | omega | (simp; done) | (simp; omega)) (by first | assumption | (simp [go_sem, *]; done)) (by first | assumption | (simp [go_sem, *]; done))
        have hB6 : Below w.heap.size w w6 := bel_trans (hB5.alloc (by first | omega | (simp; done) | (simp; omega)) _) hb6
        have hl6 := hB6.size
        clear hl5 hB5 f5x5b f5x5a f5x5 f5x4b f5x4a f5x4 f5x3b f5x3a f5x3 f5x2b f5x2a f5x2 f5x1b f5x1a f5x1 f5x0b f5x0a f5x0
        clear hb6
        go_wp2_with fail
        refine (HcT.out _).mono ?_
        rintro e w7 ⟨rfl, hb7⟩
        obtain ⟨f7x0, f7x0a, f7x0b⟩ := bel_box hb7 (b := w1.heap.size) (x := .int .i64 (a)) (y := .int .i64 (b)) (by first | omega | (simp; done) | (simp; omega)) (by first | assumption | (simp [go_sem, *]; done)) (by first | assumption | (simp [go_sem, *]; done))
        obtain ⟨f7x1, f7x1a, f7x1b⟩ := bel_box hb7 (b := w1.heap.size + 1) (x := .int .i64 (c)) (y := .int .i64 (d)) (by first | omega | (simp; done) | (simp; omega)) (by first | assumption | (simp [go_sem, *]; done)) (by first | assumption | (simp [go_sem, *]; done))
        obtain ⟨f7x2, f7x2a, f7x2b⟩ := bel_box hb7 (b := w2.heap.size) (x := .int .i64 (g)) (y := .int .i64 (h)) (by first | omega | (simp; done) | (simp; omega)) (by first | assumption | (simp [go_sem, *]; done)) (by first | assumption | (simp [go_sem, *]; done))
        obtain ⟨f7x3, f7x3a, f7x3b⟩ := bel_box hb7 (b := w2.heap.size + 1) (x := .int .i64 (i)) (y := .int .i64 (j)) (by first | omega | (simp; done) | (simp; omega)) (by first | assumption | (simp [go_sem, *]; done)) (by first | assumption | (simp [go_sem, *]; done))
        obtain ⟨f7x4, f7x4a, f7x4b⟩ := bel_box hb7 (b := w3.heap.size) (x := .int .i64 (a - c)) (y := .int .i64 (b - d)) (by first | omega | (simp; done) | (simp; omega)) (by first | assumption | (simp [go_sem, *]; done)) (by first | assumption | (simp [go_sem, *]; done))
        obtain ⟨f7x5, f7x5a, f7x5b⟩ := bel_box hb7 (b := w4.heap.size) (x := .int .i64 (a - c - g)) (y := .int .i64 (b - d - h)) (by first | omega | (simp; done) | (simp; omega)) (by first | assumption | (simp [go_sem, *]; done)) (by first | assumption | (simp [go_sem, *]; done))
        obtain ⟨f7x6, f7x6a, f7x6b⟩ := bel_box hb7 (b := w5.heap.size) (x := .int .i64 (a - g)) (y := .int .i64 (b - h)) (by first | omega | (simp; done) | (simp; omega)) (by first | assumption | (simp [go_sem, *]; done)) (by first | assumption | (simp [go_sem, *]; done))
        obtain ⟨f7x7, f7x7a, f7x7b⟩ := bel_box hb7 (b := w6.heap.size) (x := .int .i64 (a - c - g)) (y := .int .i64 (b - d - h)) (by first | omega | (simp; done) | (simp; omega)) (by first | assumption | (simp [go_sem, *]; done)) (by first | assumption | (simp [go_sem, *]; done))
        have hB7 : Below w.heap.size w w7 := bel_trans (hB6.alloc (by first | omega | (simp; done) | (simp; omega)) _) hb7
        have hl7 := hB7.size
        clear hl6 hB6 f6x6b f6x6a f6x6 f6x5b f6x5a f6x5 f6x4b f6x4a f6x4 f6x3b f6x3a f6x3 f6x2b f6x2a f6x2 f6x1b f6x1a f6x1 f6x0b f6x0a f6x0
        clear hb7
        go_wp2_with fail
        refine (HcS.out _).mono ?_
        rintro e w8 ⟨rfl, hb8⟩
        obtain ⟨f8x0, f8x0a, f8x0b⟩ := bel_box hb8 (b := w1.heap.size) (x := .int .i64 (a)) (y := .int .i64 (b)) (by first | omega | (simp; done) | (simp; omega)) (by first | assumption | (simp [go_sem, *]; done)) (by first | assumption | (simp [go_sem, *]; done))
        obtain ⟨f8x1, f8x1a, f8x1b⟩ := bel_box hb8 (b := w1.heap.size + 1) (x := .int .i64 (c)) (y := .int .i64 (d)) (by first | omega | (simp; done) | (simp; omega)) (by first | assumption | (simp [go_sem, *]; done)) (by first | assumption | (simp [go_sem, *]; done))
        obtain ⟨f8x2, f8x2a, f8x2b⟩ := bel_box hb8 (b := w2.heap.size) (x := .int .i64 (g)) (y := .int .i64 (h)) (by first | omega | (simp; done) | (simp; omega)) (by first | assumption | (simp [go_sem, *]; done)) (by first | assumption | (simp [go_sem, *]; done))
        obtain ⟨f8x3, f8x3a, f8x3b⟩ := bel_box hb8 (b := w2.heap.size + 1) (x := .int .i64 (i)) (y := .int .i64 (j)) (by first | omega | (simp; done) | (simp; omega)) (by first | assumption | (simp [go_sem, *]; done)) (by first | assumption | (simp [go_sem, *]; done))
        obtain ⟨f8x4, f8x4a, f8x4b⟩ := bel_box hb8 (b := w3.heap.size) (x := .int .i64 (a - c)) (y := .int .i64 (b - d)) (by first | omega | (simp; done) | (simp; omega)) (by first | assumption | (simp [go_sem, *]; done)) (by first | assumption | (simp [go_sem, *]; done))
        obtain ⟨f8x5, f8x5a, f8x5b⟩ := bel_box hb8 (b := w4.heap.size) (x := .int .i64 (a - c - g)) (y := .int .i64 (b - d - h)) (by first | omega | (simp; done) | (simp; omega)) (by first | assumption | (simp [go_sem, *]; done)) (by first | assumption | (simp [go_sem, *]; done))
        obtain ⟨f8x6, f8x6a, f8x6b⟩ := bel_box hb8 (b := w5.heap.size) (x := .int .i64 (a - g)) (y := .int .i64 (b - h)) (by first | omega | (simp; done) | (simp; omega)) (by first | assumption | (simp [go_sem, *]; done)) (by first | assumption | (simp [go_sem, *]; done))
        obtain ⟨f8x7, f8x7a, f8x7b⟩ := bel_box hb8 (b := w6.heap.size) (x := .int .i64 (a - c - g)) (y := .int .i64 (b - d - h)) (by first | omega | (simp; done) | (simp; omega)) (by first | assumption | (simp [go_sem, *]; done)) (by first | assumption | (simp [go_sem, *]; done))
        obtain ⟨f8x8, f8x8a, f8x8b⟩ := bel_box hb8 (b := w7.heap.size) (x := .int .i64 (a - c)) (y := .int .i64 (b - d)) (by first | omega | (simp; done) | (simp; omega)) (by first | assumption | (simp [go_sem, *]; done)) (by first | assumption | (simp [go_sem, *]; done))
        have hB8 : Below w.heap.size w w8 := bel_trans (hB7.alloc (by first | omega | (simp; done) | (simp; omega)) _) hb8
        have hl8 := hB8.size
        clear hl7 hB7 f7x7b f7x7a f7x7 f7x6b f7x6a f7x6 f7x5b f7x5a f7x5 f7x4b f7x4a f7x4 f7x3b f7x3a f7x3 f7x2b f7x2a f7x2 f7x1b f7x1a f7x1 f7x0b f7x0a f7x0
        clear hb8
        go_wp2_with fail
        refine (HcZ.out _).mono ?_
        rintro e w9 ⟨rfl, hb9⟩
        obtain ⟨f9x0, f9x0a, f9x0b⟩ := bel_box hb9 (b := w1.heap.size) (x := .int .i64 (a)) (y := .int .i64 (b)) (by first | omega | (simp; done) | (simp; omega)) (by first | assumption | (simp [go_sem, *]; done)) (by first | assumption | (simp [go_sem, *]; done))
        obtain ⟨f9x1, f9x1a, f9x1b⟩ := bel_box hb9 (b := w1.heap.size + 1) (x := .int .i64 (c)) (y := .int .i64 (d)) (by first | omega | (simp; done) | (simp; omega)) (by first | assumption | (simp [go_sem, *]; done)) (by first | assumption | (simp [go_sem, *]; done))
        obtain ⟨f9x2, f9x2a, f9x2b⟩ := bel_box hb9 (b := w2.heap.size) (x := .int .i64 (g)) (y := .int .i64 (h)) (by first | omega | (simp; done) | (simp; omega)) (by first | assumption | (simp [go_sem, *]; done)) (by first | assumption | (simp [go_sem, *]; done))
        obtain ⟨f9x3, f9x3a, f9x3b⟩ := bel_box hb9 (b := w2.heap.size + 1) (x := .int .i64 (i)) (y := .int .i64 (j)) (by first | omega | (simp; done) | (simp; omega)) (by first | assumption | (simp [go_sem, *]; done)) (by first | assumption | (simp [go_sem, *]; done))
        obtain ⟨f9x4, f9x4a, f9x4b⟩ := bel_box hb9 (b := w3.heap.size) (x := .int .i64 (a - c)) (y := .int .i64 (b - d)) (by first | omega | (simp; done) | (simp; omega)) (by first | assumption | (simp [go_sem, *]; done)) (by first | assumption | (simp [go_sem, *]; done))
        obtain ⟨f9x5, f9x5a, f9x5b⟩ := bel_box hb9 (b := w4.heap.size) (x := .int .i64 (a - c - g)) (y := .int .i64 (b - d - h)) (by first | omega | (simp; done) | (simp; omega)) (by first | assumption | (simp [go_sem, *]; done)) (by first | assumption | (simp [go_sem, *]; done))
        obtain ⟨f9x6, f9x6a, f9x6b⟩ := bel_box hb9 (b := w5.heap.size) (x := .int .i64 (a - g)) (y := .int .i64 (b - h)) (by first | omega | (simp; done) | (simp; omega)) (by first | assumption | (simp [go_sem, *]; done)) (by first | assumption | (simp [go_sem, *]; done))
        obtain ⟨f9x7, f9x7a, f9x7b⟩ := bel_box hb9 (b := w6.heap.size) (x := .int .i64 (a - c - g)) (y := .int .i64 (b - d - h)) (by first | omega | (simp; done) | (simp; omega)) (by first | assumption | (simp [go_sem, *]; done)) (by first | assumption | (simp [go_sem, *]; done))
        obtain ⟨f9x8, f9x8a, f9x8b⟩ := bel_box hb9 (b := w7.heap.size) (x := .int .i64 (a - c)) (y := .int .i64 (b - d)) (by first | omega | (simp; done) | (simp; omega)) (by first | assumption | (simp [go_sem, *]; done)) (by first | assumption | (simp [go_sem, *]; done))
        obtain ⟨f9x9, f9x9a, f9x9b⟩ := bel_box hb9 (b := w8.heap.size) (x := .int .i64 (c + g)) (y := .int .i64 (d + h)) (by first | omega | (simp; done) | (simp; omega)) (by first | assumption | (simp [go_sem, *]; done)) (by first | assumption | (simp [go_sem, *]; done))
        have hB9 : Below w.heap.size w w9 := bel_trans (hB8.alloc (by first | omega | (simp; done) | (simp; omega)) _) hb9
        have hl9 := hB9.size
        clear hl8 hB8 f8x8b f8x8a f8x8 f8x7b f8x7a f8x7 f8x6b f8x6a f8x6 f8x5b f8x5a f8x5 f8x4b f8x4a f8x4 f8x3b f8x3a f8x3 f8x2b f8x2a f8x2 f8x1b f8x1a f8x1 f8x0b f8x0a f8x0
        clear hb9
        go_wp2_with fail
        refine (HcF.out _).mono ?_
        rintro e w10 ⟨rfl, hb10⟩
        obtain ⟨f10x0, f10x0a, f10x0b⟩ := bel_box hb10 (b := w1.heap.size) (x := .int .i64 (a)) (y := .int .i64 (b)) (by first | omega | (simp; done) | (simp; omega)) (by first | assumption | (simp [go_sem, *]; done)) (by first | assumption | (simp [go_sem, *]; done))
        obtain ⟨f10x1, f10x1a, f10x1b⟩ := bel_box hb10 (b := w1.heap.size + 1) (x := .int .i64 (c)) (y := .int .i64 (d)) (by first | omega | (simp; done) | (simp; omega)) (by first | assumption | (simp [go_sem, *]; done)) (by first | assumption | (simp [go_sem, *]; done))
        obtain ⟨f10x2, f10x2a, f10x2b⟩ := bel_box hb10 (b := w2.heap.size) (x := .int .i64 (g)) (y := .int .i64 (h)) (by first | omega | (simp; done) | (simp; omega)) (by first | assumption | (simp [go_sem, *]; done)) (by first | assumption | (simp [go_sem, *]; done))
        obtain ⟨f10x3, f10x3a, f10x3b⟩ := bel_box hb10 (b := w2.heap.size + 1) (x := .int .i64 (i)) (y := .int .i64 (j)) (by first | omega | (simp; done) | (simp; omega)) (by first | assumption | (simp [go_sem, *]; done)) (by first | assumption | (simp [go_sem, *]; done))
        obtain ⟨f10x4, f10x4a, f10x4b⟩ := bel_box hb10 (b := w3.heap.size) (x := .int .i64 (a - c)) (y := .int .i64 (b - d)) (by first | omega | (simp; done) | (simp; omega)) (by first | assumption | (simp [go_sem, *]; done)) (by first | assumption | (simp [go_sem, *]; done))
        obtain ⟨f10x5, f10x5a, f10x5b⟩ := bel_box hb10 (b := w4.heap.size) (x := .int .i64 (a - c - g)) (y := .int .i64 (b - d - h)) (by first | omega | (simp; done) | (simp; omega)) (by first | assumption | (simp [go_sem, *]; done)) (by first | assumption | (simp [go_sem, *]; done))
        obtain ⟨f10x6, f10x6a, f10x6b⟩ := bel_box hb10 (b := w5.heap.size) (x := .int .i64 (a - g)) (y := .int .i64 (b - h)) (by first | omega | (simp; done) | (simp; omega)) (by first | assumption | (simp [go_sem, *]; done)) (by first | assumption | (simp [go_sem, *]; done))
        obtain ⟨f10x7, f10x7a, f10x7b⟩ := bel_box hb10 (b := w6.heap.size) (x := .int .i64 (a - c - g)) (y := .int .i64 (b - d - h)) (by first | omega | (simp; done) | (simp; omega)) (by first | assumption | (simp [go_sem, *]; done)) (by first | assumption | (simp [go_sem, *]; done))
        obtain ⟨f10x8, f10x8a, f10x8b⟩ := bel_box hb10 (b := w7.heap.size) (x := .int .i64 (a - c)) (y := .int .i64 (b - d)) (by first | omega | (simp; done) | (simp; omega)) (by first | assumption | (simp [go_sem, *]; done)) (by first | assumption | (simp [go_sem, *]; done))
        obtain ⟨f10x9, f10x9a, f10x9b⟩ := bel_box hb10 (b := w8.heap.size) (x := .int .i64 (c + g)) (y := .int .i64 (d + h)) (by first | omega | (simp; done) | (simp; omega)) (by first | assumption | (simp [go_sem, *]; done)) (by first | assumption | (simp [go_sem, *]; done))
        obtain ⟨f10x10, f10x10a, f10x10b⟩ := bel_box hb10 (b := w9.heap.size) (x := .int .i64 (a - c - g)) (y := .int .i64 (b - d - h)) (by first | omega | (simp; done) | (simp; omega)) (by first | assumption | (simp [go_sem, *]; done)) (by first | assumption | (simp [go_sem, *]; done))
        have hB10 : Below w.heap.size w w10 := bel_trans (hB9.alloc (by first | omega | (simp; done) | (simp; omega)) _) hb10
        have hl10 := hB10.size
        clear hl9 hB9 f9x9b f9x9a f9x9 f9x8b f9x8a f9x8 f9x7b f9x7a f9x7 f9x6b f9x6a f9x6 f9x5b f9x5a f9x5 f9x4b f9x4a f9x4 f9x3b f9x3a f9x3 f9x2b f9x2a f9x2 f9x1b f9x1a f9x1 f9x0b f9x0a f9x0
        clear hb10
        go_wp2_with fail
        go_ret
        exact ⟨rfl, hB10⟩
  · by_cases hlen1 : len ≤ 1048576
    · have hlen2 : 1048576 < len2 := by omega
      clear hlen
      go_enter Try.func5, Try.ntmps5
      go_wp2_with fail
      go_ret
      exact ⟨rfl, Below.refl _ _⟩
    · clear hlen
      go_enter Try.func5, Try.ntmps5
      go_wp2_with fail
      go_ret
      exact ⟨rfl, Below.refl _ _⟩

end Go.Proofs.Ythpjejnnagamiaa
