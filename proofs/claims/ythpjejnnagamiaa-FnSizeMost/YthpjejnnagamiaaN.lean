/- The walk of the law FnSize behind its draw. -/
import Derived.Test.YthpjejnnagamiaaM
namespace Go.Proofs.Ythpjejnnagamiaa
open Go.RowKit

theorem hidden {p : Prop} (h : p) : Hid p := h

set_option maxHeartbeats 8000000 in
theorem size_walk (xa : Option Addr) (len cap : Nat) (f : Nat → Int) (w : World) (hby : Bytes w xa len cap f) :
    Calls Try.prog 3 #[.slice xa len cap] w fun e w' => e = .returned (.bool true) ∧ Below w.heap.size w w' := by
  have hcap := hby.2.1
  have hlc := hby.1
  unfold maxLen at hcap
  by_cases hlen : len ≤ 1048576
  · go_enter Try.func3, Try.ntmps3
    go_wp2_with fail
    refine (draw12_any xa len cap f _ hby).mono ?_
    rintro e w1 ⟨a, b, c, d, rfl, hB1⟩
    have hl1 := hB1.size
    clear hby
    cases h1 : okB a b
    · skip
      have h4 : addOk a b c d = false := addOk_left h1
      obtain ⟨e1, e2⟩ := add_no h4
      have cAdd : ∀ w, Calls Try.prog 13 #[.agg #[.int .i64 (a), .int .i64 (b)], .agg #[.int .i64 (c), .int .i64 (d)]] w fun e w' => e = .returned (.tuple #[.agg #[.int .i64 (0), .int .i64 (0)], .bool false]) ∧ Below w.heap.size w w' := fun w => by have := implAdd_any a b c d w; rwa [e1, e2, h4] at this
      have cAddS : ∀ w, Calls Try.prog 14 #[.agg #[.int .i64 (a), .int .i64 (b)], .agg #[.int .i64 (c), .int .i64 (d)]] w fun e w' => e = .returned (.tuple #[.agg #[.int .i64 (0), .int .i64 (0)], .bool false]) ∧ Below w.heap.size w w' := fun w => by have := specAdd_any a b c d w; rwa [e1, e2, h4] at this
      have cLess : ∀ w, Calls Try.prog 15 #[.agg #[.int .i64 (0), .int .i64 (0)], .agg #[.int .i64 (c), .int .i64 (d)]] w fun e w' => e = .returned (.tuple #[.agg #[.int .i64 (lessC 0 0 c d), .int .i64 (lessM 0 0 c d)], .bool (lessOk 0 0 c d)]) ∧ Below w.heap.size w w' := implLess_any 0 0 c d
      have cMost : ∀ w, Calls Try.prog 16 #[.agg #[.int .i64 (a), .int .i64 (b)], .agg #[.int .i64 (c), .int .i64 (d)]] w fun e w' => e = .returned (.agg #[.int .i64 (maxI a c), .int .i64 (maxI b d)]) ∧ Below w.heap.size w w' := implMost_any a b c d
      have cFa : ∀ w, Calls Try.prog 17 #[.agg #[.int .i64 (a), .int .i64 (b)], .agg #[.int .i64 (maxI a c), .int .i64 (maxI b d)]] w fun e w' => e = .returned (.bool true) ∧ Below w.heap.size w w' := fun w => by have := implFits_any a b (maxI a c) (maxI b d) w; rwa [(fit_most a b c d).1] at this
      have cFc : ∀ w, Calls Try.prog 17 #[.agg #[.int .i64 (c), .int .i64 (d)], .agg #[.int .i64 (maxI a c), .int .i64 (maxI b d)]] w fun e w' => e = .returned (.bool true) ∧ Below w.heap.size w w' := fun w => by have := implFits_any c d (maxI a c) (maxI b d) w; rwa [(fit_most a b c d).2] at this
      have cSl : ∀ w, Calls Try.prog 18 #[.agg #[.int .i64 (a), .int .i64 (b)], .agg #[.int .i64 (c), .int .i64 (d)]] w fun e w' => e = .returned (.int .i64 0) ∧ Below w.heap.size w w' := fun w => by have := implSlots_any a b c d w; rwa [slots_left h1] at this
      have cSlS : ∀ w, Calls Try.prog 19 #[.agg #[.int .i64 (a), .int .i64 (b)], .agg #[.int .i64 (c), .int .i64 (d)]] w fun e w' => e = .returned (.int .i64 0) ∧ Below w.heap.size w w' := fun w => by have := specSlots_any a b c d w; rwa [slots_left h1] at this
      have cOk : ∀ w, Calls Try.prog 20 #[.agg #[.int .i64 (a), .int .i64 (b)]] w fun e w' => e = .returned (.bool false) ∧ Below w.heap.size w w' := fun w => by have := specOk_any a b w; rwa [h1] at this
      have hmx : ((maxI a c != a) = false) ∨ ((maxI a c != a) = true ∧ (maxI a c != c) = false) := by have := maxI_l a c; simp; omega
      have HcAdd := hidden cAdd; clear cAdd
      have HcAddS := hidden cAddS; clear cAddS
      have HcLess := hidden cLess; clear cLess
      have HcMost := hidden cMost; clear cMost
      have HcFa := hidden cFa; clear cFa
      have HcFc := hidden cFc; clear cFc
      have HcSl := hidden cSl; clear cSl
      have HcSlS := hidden cSlS; clear cSlS
      have HcOk := hidden cOk; clear cOk
      clear h1 h4 e1 e2
      go_wp2_with fail
      refine (HcAdd.out _).mono ?_
      rintro e w2 ⟨rfl, hb2⟩
      obtain ⟨f2x0, f2x0a, f2x0b⟩ := bel_box hb2 (b := w1.heap.size) (x := .int .i64 (a)) (y := .int .i64 (b)) (by first | omega | (simp; done) | (simp; omega)) (by first | assumption | (simp [go_sem, *]; done)) (by first | assumption | (simp [go_sem, *]; done))
      obtain ⟨f2x1, f2x1a, f2x1b⟩ := bel_box hb2 (b := w1.heap.size + 1) (x := .int .i64 (c)) (y := .int .i64 (d)) (by first | omega | (simp; done) | (simp; omega)) (by first | assumption | (simp [go_sem, *]; done)) (by first | assumption | (simp [go_sem, *]; done))
      have hB2 : Below w.heap.size w w2 := bel_trans ((hB1.alloc (by first | omega | (simp; done) | (simp; omega)) _).alloc (by first | omega | (simp; done) | (simp; omega)) _) hb2
      have hl2 := hB2.size
      clear hl1 hB1
      clear hb2
      go_wp2_with fail
      refine (HcAddS.out _).mono ?_
      rintro e w3 ⟨rfl, hb3⟩
      obtain ⟨f3x0, f3x0a, f3x0b⟩ := bel_box hb3 (b := w1.heap.size) (x := .int .i64 (a)) (y := .int .i64 (b)) (by first | omega | (simp; done) | (simp; omega)) (by first | assumption | (simp [go_sem, *]; done)) (by first | assumption | (simp [go_sem, *]; done))
      obtain ⟨f3x1, f3x1a, f3x1b⟩ := bel_box hb3 (b := w1.heap.size + 1) (x := .int .i64 (c)) (y := .int .i64 (d)) (by first | omega | (simp; done) | (simp; omega)) (by first | assumption | (simp [go_sem, *]; done)) (by first | assumption | (simp [go_sem, *]; done))
      obtain ⟨f3x2, f3x2a, f3x2b⟩ := bel_box hb3 (b := w2.heap.size) (x := .int .i64 (0)) (y := .int .i64 (0)) (by first | omega | (simp; done) | (simp; omega)) (by first | assumption | (simp [go_sem, *]; done)) (by first | assumption | (simp [go_sem, *]; done))
      have hB3 : Below w.heap.size w w3 := bel_trans (hB2.alloc (by first | omega | (simp; done) | (simp; omega)) _) hb3
      have hl3 := hB3.size
      clear hl2 hB2 f2x1b f2x1a f2x1 f2x0b f2x0a f2x0
      clear hb3
      go_wp2_with fail
      refine (HcLess.out _).mono ?_
      rintro e w4 ⟨rfl, hb4⟩
      obtain ⟨f4x0, f4x0a, f4x0b⟩ := bel_box hb4 (b := w1.heap.size) (x := .int .i64 (a)) (y := .int .i64 (b)) (by first | omega | (simp; done) | (simp; omega)) (by first | assumption | (simp [go_sem, *]; done)) (by first | assumption | (simp [go_sem, *]; done))
      obtain ⟨f4x1, f4x1a, f4x1b⟩ := bel_box hb4 (b := w1.heap.size + 1) (x := .int .i64 (c)) (y := .int .i64 (d)) (by first | omega | (simp; done) | (simp; omega)) (by first | assumption | (simp [go_sem, *]; done)) (by first | assumption | (simp [go_sem, *]; done))
      obtain ⟨f4x2, f4x2a, f4x2b⟩ := bel_box hb4 (b := w2.heap.size) (x := .int .i64 (0)) (y := .int .i64 (0)) (by first | omega | (simp; done) | (simp; omega)) (by first | assumption | (simp [go_sem, *]; done)) (by first | assumption | (simp [go_sem, *]; done))
      obtain ⟨f4x3, f4x3a, f4x3b⟩ := bel_box hb4 (b := w3.heap.size) (x := .int .i64 (0)) (y := .int .i64 (0)) (by first | omega | (simp; done) | (simp; omega)) (by first | assumption | (simp [go_sem, *]; done)) (by first | assumption | (simp [go_sem, *]; done))
      have hB4 : Below w.heap.size w w4 := bel_trans (hB3.alloc (by first | omega | (simp; done) | (simp; omega)) _) hb4
      have hl4 := hB4.size
      clear hl3 hB3 f3x2b f3x2a f3x2 f3x1b f3x1a f3x1 f3x0b f3x0a f3x0
      clear hb4
      go_wp2_with fail
      refine (HcMost.out _).mono ?_
      rintro e w5 ⟨rfl, hb5⟩
      obtain ⟨f5x0, f5x0a, f5x0b⟩ := bel_box hb5 (b := w1.heap.size) (x := .int .i64 (a)) (y := .int .i64 (b)) (by first | omega | (simp; done) | (simp; omega)) (by first | assumption | (simp [go_sem, *]; done)) (by first | assumption | (simp [go_sem, *]; done))
      obtain ⟨f5x1, f5x1a, f5x1b⟩ := bel_box hb5 (b := w1.heap.size + 1) (x := .int .i64 (c)) (y := .int .i64 (d)) (by first | omega | (simp; done) | (simp; omega)) (by first | assumption | (simp [go_sem, *]; done)) (by first | assumption | (simp [go_sem, *]; done))
      obtain ⟨f5x2, f5x2a, f5x2b⟩ := bel_box hb5 (b := w2.heap.size) (x := .int .i64 (0)) (y := .int .i64 (0)) (by first | omega | (simp; done) | (simp; omega)) (by first | assumption | (simp [go_sem, *]; done)) (by first | assumption | (simp [go_sem, *]; done))
      obtain ⟨f5x3, f5x3a, f5x3b⟩ := bel_box hb5 (b := w3.heap.size) (x := .int .i64 (0)) (y := .int .i64 (0)) (by first | omega | (simp; done) | (simp; omega)) (by first | assumption | (simp [go_sem, *]; done)) (by first | assumption | (simp [go_sem, *]; done))
      obtain ⟨f5x4, f5x4a, f5x4b⟩ := bel_box hb5 (b := w4.heap.size) (x := .int .i64 (lessC 0 0 c d)) (y := .int .i64 (lessM 0 0 c d)) (by first | omega | (simp; done) | (simp; omega)) (by first | assumption | (simp [go_sem, *]; done)) (by first | assumption | (simp [go_sem, *]; done))
      have hB5 : Below w.heap.size w w5 := bel_trans (hB4.alloc (by first | omega | (simp; done) | (simp; omega)) _) hb5
      have hl5 := hB5.size
      clear hl4 hB4 f4x3b f4x3a f4x3 f4x2b f4x2a f4x2 f4x1b f4x1a f4x1 f4x0b f4x0a f4x0
      clear hb5
      go_wp2_with fail
      refine (HcFa.out _).mono ?_
      rintro e w6 ⟨rfl, hb6⟩
      obtain ⟨f6x0, f6x0a, f6x0b⟩ := bel_box hb6 (b := w1.heap.size) (x := .int .i64 (a)) (y := .int .i64 (b)) (by first | omega | (simp; done) | (simp; omega)) (by first | assumption | (simp [go_sem, *]; done)) (by first | assumption | (simp [go_sem, *]; done))
      obtain ⟨f6x1, f6x1a, f6x1b⟩ := bel_box hb6 (b := w1.heap.size + 1) (x := .int .i64 (c)) (y := .int .i64 (d)) (by first | omega | (simp; done) | (simp; omega)) (by first | assumption | (simp [go_sem, *]; done)) (by first | assumption | (simp [go_sem, *]; done))
      obtain ⟨f6x2, f6x2a, f6x2b⟩ := bel_box hb6 (b := w2.heap.size) (x := .int .i64 (0)) (y := .int .i64 (0)) (by first | omega | (simp; done) | (simp; omega)) (by first | assumption | (simp [go_sem, *]; done)) (by first | assumption | (simp [go_sem, *]; done))
      obtain ⟨f6x3, f6x3a, f6x3b⟩ := bel_box hb6 (b := w3.heap.size) (x := .int .i64 (0)) (y := .int .i64 (0)) (by first | omega | (simp; done) | (simp; omega)) (by first | assumption | (simp [go_sem, *]; done)) (by first | assumption | (simp [go_sem, *]; done))
      obtain ⟨f6x4, f6x4a, f6x4b⟩ := bel_box hb6 (b := w4.heap.size) (x := .int .i64 (lessC 0 0 c d)) (y := .int .i64 (lessM 0 0 c d)) (by first | omega | (simp; done) | (simp; omega)) (by first | assumption | (simp [go_sem, *]; done)) (by first | assumption | (simp [go_sem, *]; done))
      obtain ⟨f6x5, f6x5a, f6x5b⟩ := bel_box hb6 (b := w5.heap.size) (x := .int .i64 (maxI a c)) (y := .int .i64 (maxI b d)) (by first | omega | (simp; done) | (simp; omega)) (by first | assumption | (simp [go_sem, *]; done)) (by first | assumption | (simp [go_sem, *]; done))
      have hB6 : Below w.heap.size w w6 := bel_trans (hB5.alloc (by first | omega | (simp; done) | (simp; omega)) _) hb6
      have hl6 := hB6.size
      clear hl5 hB5 f5x4b f5x4a f5x4 f5x3b f5x3a f5x3 f5x2b f5x2a f5x2 f5x1b f5x1a f5x1 f5x0b f5x0a f5x0
      clear hb6
      rcases hmx with hm1 | ⟨hm1, hm2⟩
      all_goals (
        go_wp2_with fail
        refine (HcFc.out _).mono ?_
        rintro e w7 ⟨rfl, hb7⟩
        obtain ⟨f7x0, f7x0a, f7x0b⟩ := bel_box hb7 (b := w1.heap.size) (x := .int .i64 (a)) (y := .int .i64 (b)) (by first | omega | (simp; done) | (simp; omega)) (by first | assumption | (simp [go_sem, *]; done)) (by first | assumption | (simp [go_sem, *]; done))
        obtain ⟨f7x1, f7x1a, f7x1b⟩ := bel_box hb7 (b := w1.heap.size + 1) (x := .int .i64 (c)) (y := .int .i64 (d)) (by first | omega | (simp; done) | (simp; omega)) (by first | assumption | (simp [go_sem, *]; done)) (by first | assumption | (simp [go_sem, *]; done))
        obtain ⟨f7x2, f7x2a, f7x2b⟩ := bel_box hb7 (b := w2.heap.size) (x := .int .i64 (0)) (y := .int .i64 (0)) (by first | omega | (simp; done) | (simp; omega)) (by first | assumption | (simp [go_sem, *]; done)) (by first | assumption | (simp [go_sem, *]; done))
        obtain ⟨f7x3, f7x3a, f7x3b⟩ := bel_box hb7 (b := w3.heap.size) (x := .int .i64 (0)) (y := .int .i64 (0)) (by first | omega | (simp; done) | (simp; omega)) (by first | assumption | (simp [go_sem, *]; done)) (by first | assumption | (simp [go_sem, *]; done))
        obtain ⟨f7x4, f7x4a, f7x4b⟩ := bel_box hb7 (b := w4.heap.size) (x := .int .i64 (lessC 0 0 c d)) (y := .int .i64 (lessM 0 0 c d)) (by first | omega | (simp; done) | (simp; omega)) (by first | assumption | (simp [go_sem, *]; done)) (by first | assumption | (simp [go_sem, *]; done))
        obtain ⟨f7x5, f7x5a, f7x5b⟩ := bel_box hb7 (b := w5.heap.size) (x := .int .i64 (maxI a c)) (y := .int .i64 (maxI b d)) (by first | omega | (simp; done) | (simp; omega)) (by first | assumption | (simp [go_sem, *]; done)) (by first | assumption | (simp [go_sem, *]; done))
        have hB7 : Below w.heap.size w w7 := bel_trans hB6 hb7
        have hl7 := hB7.size
        clear hl6 hB6 f6x5b f6x5a f6x5 f6x4b f6x4a f6x4 f6x3b f6x3a f6x3 f6x2b f6x2a f6x2 f6x1b f6x1a f6x1 f6x0b f6x0a f6x0
        clear hb7
        go_wp2_with fail
        refine (HcSl.out _).mono ?_
        rintro e w8 ⟨rfl, hb8⟩
        obtain ⟨f8x0, f8x0a, f8x0b⟩ := bel_box hb8 (b := w1.heap.size) (x := .int .i64 (a)) (y := .int .i64 (b)) (by first | omega | (simp; done) | (simp; omega)) (by first | assumption | (simp [go_sem, *]; done)) (by first | assumption | (simp [go_sem, *]; done))
        obtain ⟨f8x1, f8x1a, f8x1b⟩ := bel_box hb8 (b := w1.heap.size + 1) (x := .int .i64 (c)) (y := .int .i64 (d)) (by first | omega | (simp; done) | (simp; omega)) (by first | assumption | (simp [go_sem, *]; done)) (by first | assumption | (simp [go_sem, *]; done))
        obtain ⟨f8x2, f8x2a, f8x2b⟩ := bel_box hb8 (b := w2.heap.size) (x := .int .i64 (0)) (y := .int .i64 (0)) (by first | omega | (simp; done) | (simp; omega)) (by first | assumption | (simp [go_sem, *]; done)) (by first | assumption | (simp [go_sem, *]; done))
        obtain ⟨f8x3, f8x3a, f8x3b⟩ := bel_box hb8 (b := w3.heap.size) (x := .int .i64 (0)) (y := .int .i64 (0)) (by first | omega | (simp; done) | (simp; omega)) (by first | assumption | (simp [go_sem, *]; done)) (by first | assumption | (simp [go_sem, *]; done))
        obtain ⟨f8x4, f8x4a, f8x4b⟩ := bel_box hb8 (b := w4.heap.size) (x := .int .i64 (lessC 0 0 c d)) (y := .int .i64 (lessM 0 0 c d)) (by first | omega | (simp; done) | (simp; omega)) (by first | assumption | (simp [go_sem, *]; done)) (by first | assumption | (simp [go_sem, *]; done))
        obtain ⟨f8x5, f8x5a, f8x5b⟩ := bel_box hb8 (b := w5.heap.size) (x := .int .i64 (maxI a c)) (y := .int .i64 (maxI b d)) (by first | omega | (simp; done) | (simp; omega)) (by first | assumption | (simp [go_sem, *]; done)) (by first | assumption | (simp [go_sem, *]; done))
        have hB8 : Below w.heap.size w w8 := bel_trans hB7 hb8
        have hl8 := hB8.size
        clear hl7 hB7 f7x5b f7x5a f7x5 f7x4b f7x4a f7x4 f7x3b f7x3a f7x3 f7x2b f7x2a f7x2 f7x1b f7x1a f7x1 f7x0b f7x0a f7x0
        clear hb8
        go_wp2_with fail
        refine (HcSlS.out _).mono ?_
        rintro e w9 ⟨rfl, hb9⟩
        obtain ⟨f9x0, f9x0a, f9x0b⟩ := bel_box hb9 (b := w1.heap.size) (x := .int .i64 (a)) (y := .int .i64 (b)) (by first | omega | (simp; done) | (simp; omega)) (by first | assumption | (simp [go_sem, *]; done)) (by first | assumption | (simp [go_sem, *]; done))
        obtain ⟨f9x1, f9x1a, f9x1b⟩ := bel_box hb9 (b := w1.heap.size + 1) (x := .int .i64 (c)) (y := .int .i64 (d)) (by first | omega | (simp; done) | (simp; omega)) (by first | assumption | (simp [go_sem, *]; done)) (by first | assumption | (simp [go_sem, *]; done))
        obtain ⟨f9x2, f9x2a, f9x2b⟩ := bel_box hb9 (b := w2.heap.size) (x := .int .i64 (0)) (y := .int .i64 (0)) (by first | omega | (simp; done) | (simp; omega)) (by first | assumption | (simp [go_sem, *]; done)) (by first | assumption | (simp [go_sem, *]; done))
        obtain ⟨f9x3, f9x3a, f9x3b⟩ := bel_box hb9 (b := w3.heap.size) (x := .int .i64 (0)) (y := .int .i64 (0)) (by first | omega | (simp; done) | (simp; omega)) (by first | assumption | (simp [go_sem, *]; done)) (by first | assumption | (simp [go_sem, *]; done))
        obtain ⟨f9x4, f9x4a, f9x4b⟩ := bel_box hb9 (b := w4.heap.size) (x := .int .i64 (lessC 0 0 c d)) (y := .int .i64 (lessM 0 0 c d)) (by first | omega | (simp; done) | (simp; omega)) (by first | assumption | (simp [go_sem, *]; done)) (by first | assumption | (simp [go_sem, *]; done))
        obtain ⟨f9x5, f9x5a, f9x5b⟩ := bel_box hb9 (b := w5.heap.size) (x := .int .i64 (maxI a c)) (y := .int .i64 (maxI b d)) (by first | omega | (simp; done) | (simp; omega)) (by first | assumption | (simp [go_sem, *]; done)) (by first | assumption | (simp [go_sem, *]; done))
        have hB9 : Below w.heap.size w w9 := bel_trans hB8 hb9
        have hl9 := hB9.size
        clear hl8 hB8 f8x5b f8x5a f8x5 f8x4b f8x4a f8x4 f8x3b f8x3a f8x3 f8x2b f8x2a f8x2 f8x1b f8x1a f8x1 f8x0b f8x0a f8x0
        clear hb9
        go_wp2_with fail
        refine (HcOk.out _).mono ?_
        rintro e w10 ⟨rfl, hb10⟩
        obtain ⟨f10x0, f10x0a, f10x0b⟩ := bel_box hb10 (b := w1.heap.size) (x := .int .i64 (a)) (y := .int .i64 (b)) (by first | omega | (simp; done) | (simp; omega)) (by first | assumption | (simp [go_sem, *]; done)) (by first | assumption | (simp [go_sem, *]; done))
        obtain ⟨f10x1, f10x1a, f10x1b⟩ := bel_box hb10 (b := w1.heap.size + 1) (x := .int .i64 (c)) (y := .int .i64 (d)) (by first | omega | (simp; done) | (simp; omega)) (by first | assumption | (simp [go_sem, *]; done)) (by first | assumption | (simp [go_sem, *]; done))
        obtain ⟨f10x2, f10x2a, f10x2b⟩ := bel_box hb10 (b := w2.heap.size) (x := .int .i64 (0)) (y := .int .i64 (0)) (by first | omega | (simp; done) | (simp; omega)) (by first | assumption | (simp [go_sem, *]; done)) (by first | assumption | (simp [go_sem, *]; done))
        obtain ⟨f10x3, f10x3a, f10x3b⟩ := bel_box hb10 (b := w3.heap.size) (x := .int .i64 (0)) (y := .int .i64 (0)) (by first | omega | (simp; done) | (simp; omega)) (by first | assumption | (simp [go_sem, *]; done)) (by first | assumption | (simp [go_sem, *]; done))
        obtain ⟨f10x4, f10x4a, f10x4b⟩ := bel_box hb10 (b := w4.heap.size) (x := .int .i64 (lessC 0 0 c d)) (y := .int .i64 (lessM 0 0 c d)) (by first | omega | (simp; done) | (simp; omega)) (by first | assumption | (simp [go_sem, *]; done)) (by first | assumption | (simp [go_sem, *]; done))
        obtain ⟨f10x5, f10x5a, f10x5b⟩ := bel_box hb10 (b := w5.heap.size) (x := .int .i64 (maxI a c)) (y := .int .i64 (maxI b d)) (by first | omega | (simp; done) | (simp; omega)) (by first | assumption | (simp [go_sem, *]; done)) (by first | assumption | (simp [go_sem, *]; done))
        have hB10 : Below w.heap.size w w10 := bel_trans hB9 hb10
        have hl10 := hB10.size
        clear hl9 hB9 f9x5b f9x5a f9x5 f9x4b f9x4a f9x4 f9x3b f9x3a f9x3 f9x2b f9x2a f9x2 f9x1b f9x1a f9x1 f9x0b f9x0a f9x0
        clear hb10
        go_wp2_with fail
        go_ret
        exact ⟨rfl, hB10⟩)
    · cases h2 : okB c d
      · skip
        have h4 : addOk a b c d = false := addOk_right h2
        obtain ⟨e1, e2⟩ := add_no h4
        have cAdd : ∀ w, Calls Try.prog 13 #[.agg #[.int .i64 (a), .int .i64 (b)], .agg #[.int .i64 (c), .int .i64 (d)]] w fun e w' => e = .returned (.tuple #[.agg #[.int .i64 (0), .int .i64 (0)], .bool false]) ∧ Below w.heap.size w w' := fun w => by have := implAdd_any a b c d w; rwa [e1, e2, h4] at this
        have cAddS : ∀ w, Calls Try.prog 14 #[.agg #[.int .i64 (a), .int .i64 (b)], .agg #[.int .i64 (c), .int .i64 (d)]] w fun e w' => e = .returned (.tuple #[.agg #[.int .i64 (0), .int .i64 (0)], .bool false]) ∧ Below w.heap.size w w' := fun w => by have := specAdd_any a b c d w; rwa [e1, e2, h4] at this
        have cLess : ∀ w, Calls Try.prog 15 #[.agg #[.int .i64 (0), .int .i64 (0)], .agg #[.int .i64 (c), .int .i64 (d)]] w fun e w' => e = .returned (.tuple #[.agg #[.int .i64 (lessC 0 0 c d), .int .i64 (lessM 0 0 c d)], .bool (lessOk 0 0 c d)]) ∧ Below w.heap.size w w' := implLess_any 0 0 c d
        have cMost : ∀ w, Calls Try.prog 16 #[.agg #[.int .i64 (a), .int .i64 (b)], .agg #[.int .i64 (c), .int .i64 (d)]] w fun e w' => e = .returned (.agg #[.int .i64 (maxI a c), .int .i64 (maxI b d)]) ∧ Below w.heap.size w w' := implMost_any a b c d
        have cFa : ∀ w, Calls Try.prog 17 #[.agg #[.int .i64 (a), .int .i64 (b)], .agg #[.int .i64 (maxI a c), .int .i64 (maxI b d)]] w fun e w' => e = .returned (.bool true) ∧ Below w.heap.size w w' := fun w => by have := implFits_any a b (maxI a c) (maxI b d) w; rwa [(fit_most a b c d).1] at this
        have cFc : ∀ w, Calls Try.prog 17 #[.agg #[.int .i64 (c), .int .i64 (d)], .agg #[.int .i64 (maxI a c), .int .i64 (maxI b d)]] w fun e w' => e = .returned (.bool true) ∧ Below w.heap.size w w' := fun w => by have := implFits_any c d (maxI a c) (maxI b d) w; rwa [(fit_most a b c d).2] at this
        have cSl : ∀ w, Calls Try.prog 18 #[.agg #[.int .i64 (a), .int .i64 (b)], .agg #[.int .i64 (c), .int .i64 (d)]] w fun e w' => e = .returned (.int .i64 0) ∧ Below w.heap.size w w' := fun w => by have := implSlots_any a b c d w; rwa [slots_right h2] at this
        have cSlS : ∀ w, Calls Try.prog 19 #[.agg #[.int .i64 (a), .int .i64 (b)], .agg #[.int .i64 (c), .int .i64 (d)]] w fun e w' => e = .returned (.int .i64 0) ∧ Below w.heap.size w w' := fun w => by have := specSlots_any a b c d w; rwa [slots_right h2] at this
        have cOk : ∀ w, Calls Try.prog 20 #[.agg #[.int .i64 (a), .int .i64 (b)]] w fun e w' => e = .returned (.bool true) ∧ Below w.heap.size w w' := fun w => by have := specOk_any a b w; rwa [h1] at this
        have cOk2 : ∀ w, Calls Try.prog 20 #[.agg #[.int .i64 (c), .int .i64 (d)]] w fun e w' => e = .returned (.bool false) ∧ Below w.heap.size w w' := fun w => by have := specOk_any c d w; rwa [h2] at this
        have hmx : ((maxI a c != a) = false) ∨ ((maxI a c != a) = true ∧ (maxI a c != c) = false) := by have := maxI_l a c; simp; omega
        have HcAdd := hidden cAdd; clear cAdd
        have HcAddS := hidden cAddS; clear cAddS
        have HcLess := hidden cLess; clear cLess
        have HcMost := hidden cMost; clear cMost
        have HcFa := hidden cFa; clear cFa
        have HcFc := hidden cFc; clear cFc
        have HcSl := hidden cSl; clear cSl
        have HcSlS := hidden cSlS; clear cSlS
        have HcOk := hidden cOk; clear cOk
        have HcOk2 := hidden cOk2; clear cOk2
        clear h1 h4 e1 e2 h2
        go_wp2_with fail
        refine (HcAdd.out _).mono ?_
        rintro e w2 ⟨rfl, hb2⟩
        obtain ⟨f2x0, f2x0a, f2x0b⟩ := bel_box hb2 (b := w1.heap.size) (x := .int .i64 (a)) (y := .int .i64 (b)) (by first | omega | (simp; done) | (simp; omega)) (by first | assumption | (simp [go_sem, *]; done)) (by first | assumption | (simp [go_sem, *]; done))
        obtain ⟨f2x1, f2x1a, f2x1b⟩ := bel_box hb2 (b := w1.heap.size + 1) (x := .int .i64 (c)) (y := .int .i64 (d)) (by first | omega | (simp; done) | (simp; omega)) (by first | assumption | (simp [go_sem, *]; done)) (by first | assumption | (simp [go_sem, *]; done))
        have hB2 : Below w.heap.size w w2 := bel_trans ((hB1.alloc (by first | omega | (simp; done) | (simp; omega)) _).alloc (by first | omega | (simp; done) | (simp; omega)) _) hb2
        have hl2 := hB2.size
        clear hl1 hB1
        clear hb2
        go_wp2_with fail
        refine (HcAddS.out _).mono ?_
        rintro e w3 ⟨rfl, hb3⟩
        obtain ⟨f3x0, f3x0a, f3x0b⟩ := bel_box hb3 (b := w1.heap.size) (x := .int .i64 (a)) (y := .int .i64 (b)) (by first | omega | (simp; done) | (simp; omega)) (by first | assumption | (simp [go_sem, *]; done)) (by first | assumption | (simp [go_sem, *]; done))
        obtain ⟨f3x1, f3x1a, f3x1b⟩ := bel_box hb3 (b := w1.heap.size + 1) (x := .int .i64 (c)) (y := .int .i64 (d)) (by first | omega | (simp; done) | (simp; omega)) (by first | assumption | (simp [go_sem, *]; done)) (by first | assumption | (simp [go_sem, *]; done))
        obtain ⟨f3x2, f3x2a, f3x2b⟩ := bel_box hb3 (b := w2.heap.size) (x := .int .i64 (0)) (y := .int .i64 (0)) (by first | omega | (simp; done) | (simp; omega)) (by first | assumption | (simp [go_sem, *]; done)) (by first | assumption | (simp [go_sem, *]; done))
        have hB3 : Below w.heap.size w w3 := bel_trans (hB2.alloc (by first | omega | (simp; done) | (simp; omega)) _) hb3
        have hl3 := hB3.size
        clear hl2 hB2 f2x1b f2x1a f2x1 f2x0b f2x0a f2x0
        clear hb3
        go_wp2_with fail
        refine (HcLess.out _).mono ?_
        rintro e w4 ⟨rfl, hb4⟩
        obtain ⟨f4x0, f4x0a, f4x0b⟩ := bel_box hb4 (b := w1.heap.size) (x := .int .i64 (a)) (y := .int .i64 (b)) (by first | omega | (simp; done) | (simp; omega)) (by first | assumption | (simp [go_sem, *]; done)) (by first | assumption | (simp [go_sem, *]; done))
        obtain ⟨f4x1, f4x1a, f4x1b⟩ := bel_box hb4 (b := w1.heap.size + 1) (x := .int .i64 (c)) (y := .int .i64 (d)) (by first | omega | (simp; done) | (simp; omega)) (by first | assumption | (simp [go_sem, *]; done)) (by first | assumption | (simp [go_sem, *]; done))
        obtain ⟨f4x2, f4x2a, f4x2b⟩ := bel_box hb4 (b := w2.heap.size) (x := .int .i64 (0)) (y := .int .i64 (0)) (by first | omega | (simp; done) | (simp; omega)) (by first | assumption | (simp [go_sem, *]; done)) (by first | assumption | (simp [go_sem, *]; done))
        obtain ⟨f4x3, f4x3a, f4x3b⟩ := bel_box hb4 (b := w3.heap.size) (x := .int .i64 (0)) (y := .int .i64 (0)) (by first | omega | (simp; done) | (simp; omega)) (by first | assumption | (simp [go_sem, *]; done)) (by first | assumption | (simp [go_sem, *]; done))
        have hB4 : Below w.heap.size w w4 := bel_trans (hB3.alloc (by first | omega | (simp; done) | (simp; omega)) _) hb4
        have hl4 := hB4.size
        clear hl3 hB3 f3x2b f3x2a f3x2 f3x1b f3x1a f3x1 f3x0b f3x0a f3x0
        clear hb4
        go_wp2_with fail
        refine (HcMost.out _).mono ?_
        rintro e w5 ⟨rfl, hb5⟩
        obtain ⟨f5x0, f5x0a, f5x0b⟩ := bel_box hb5 (b := w1.heap.size) (x := .int .i64 (a)) (y := .int .i64 (b)) (by first | omega | (simp; done) | (simp; omega)) (by first | assumption | (simp [go_sem, *]; done)) (by first | assumption | (simp [go_sem, *]; done))
        obtain ⟨f5x1, f5x1a, f5x1b⟩ := bel_box hb5 (b := w1.heap.size + 1) (x := .int .i64 (c)) (y := .int .i64 (d)) (by first | omega | (simp; done) | (simp; omega)) (by first | assumption | (simp [go_sem, *]; done)) (by first | assumption | (simp [go_sem, *]; done))
        obtain ⟨f5x2, f5x2a, f5x2b⟩ := bel_box hb5 (b := w2.heap.size) (x := .int .i64 (0)) (y := .int .i64 (0)) (by first | omega | (simp; done) | (simp; omega)) (by first | assumption | (simp [go_sem, *]; done)) (by first | assumption | (simp [go_sem, *]; done))
        obtain ⟨f5x3, f5x3a, f5x3b⟩ := bel_box hb5 (b := w3.heap.size) (x := .int .i64 (0)) (y := .int .i64 (0)) (by first | omega | (simp; done) | (simp; omega)) (by first | assumption | (simp [go_sem, *]; done)) (by first | assumption | (simp [go_sem, *]; done))
        obtain ⟨f5x4, f5x4a, f5x4b⟩ := bel_box hb5 (b := w4.heap.size) (x := .int .i64 (lessC 0 0 c d)) (y := .int .i64 (lessM 0 0 c d)) (by first | omega | (simp; done) | (simp; omega)) (by first | assumption | (simp [go_sem, *]; done)) (by first | assumption | (simp [go_sem, *]; done))
        have hB5 : Below w.heap.size w w5 := bel_trans (hB4.alloc (by first | omega | (simp; done) | (simp; omega)) _) hb5
        have hl5 := hB5.size
        clear hl4 hB4 f4x3b f4x3a f4x3 f4x2b f4x2a f4x2 f4x1b f4x1a f4x1 f4x0b f4x0a f4x0
        clear hb5
        go_wp2_with fail
        refine (HcFa.out _).mono ?_
        rintro e w6 ⟨rfl, hb6⟩
        obtain ⟨f6x0, f6x0a, f6x0b⟩ := bel_box hb6 (b := w1.heap.size) (x := .int .i64 (a)) (y := .int .i64 (b)) (by first | omega | (simp; done) | (simp; omega)) (by first | assumption | (simp [go_sem, *]; done)) (by first | assumption | (simp [go_sem, *]; done))
        obtain ⟨f6x1, f6x1a, f6x1b⟩ := bel_box hb6 (b := w1.heap.size + 1) (x := .int .i64 (c)) (y := .int .i64 (d)) (by first | omega | (simp; done) | (simp; omega)) (by first | assumption | (simp [go_sem, *]; done)) (by first | assumption | (simp [go_sem, *]; done))
        obtain ⟨f6x2, f6x2a, f6x2b⟩ := bel_box hb6 (b := w2.heap.size) (x := .int .i64 (0)) (y := .int .i64 (0)) (by first | omega | (simp; done) | (simp; omega)) (by first | assumption | (simp [go_sem, *]; done)) (by first | assumption | (simp [go_sem, *]; done))
        obtain ⟨f6x3, f6x3a, f6x3b⟩ := bel_box hb6 (b := w3.heap.size) (x := .int .i64 (0)) (y := .int .i64 (0)) (by first | omega | (simp; done) | (simp; omega)) (by first | assumption | (simp [go_sem, *]; done)) (by first | assumption | (simp [go_sem, *]; done))
        obtain ⟨f6x4, f6x4a, f6x4b⟩ := bel_box hb6 (b := w4.heap.size) (x := .int .i64 (lessC 0 0 c d)) (y := .int .i64 (lessM 0 0 c d)) (by first | omega | (simp; done) | (simp; omega)) (by first | assumption | (simp [go_sem, *]; done)) (by first | assumption | (simp [go_sem, *]; done))
        obtain ⟨f6x5, f6x5a, f6x5b⟩ := bel_box hb6 (b := w5.heap.size) (x := .int .i64 (maxI a c)) (y := .int .i64 (maxI b d)) (by first | omega | (simp; done) | (simp; omega)) (by first | assumption | (simp [go_sem, *]; done)) (by first | assumption | (simp [go_sem, *]; done))
        have hB6 : Below w.heap.size w w6 := bel_trans (hB5.alloc (by first | omega | (simp; done) | (simp; omega)) _) hb6
        have hl6 := hB6.size
        clear hl5 hB5 f5x4b f5x4a f5x4 f5x3b f5x3a f5x3 f5x2b f5x2a f5x2 f5x1b f5x1a f5x1 f5x0b f5x0a f5x0
        clear hb6
        rcases hmx with hm1 | ⟨hm1, hm2⟩
        all_goals (
          go_wp2_with fail
          refine (HcFc.out _).mono ?_
          rintro e w7 ⟨rfl, hb7⟩
          obtain ⟨f7x0, f7x0a, f7x0b⟩ := bel_box hb7 (b := w1.heap.size) (x := .int .i64 (a)) (y := .int .i64 (b)) (by first | omega | (simp; done) | (simp; omega)) (by first | assumption | (simp [go_sem, *]; done)) (by first | assumption | (simp [go_sem, *]; done))
          obtain ⟨f7x1, f7x1a, f7x1b⟩ := bel_box hb7 (b := w1.heap.size + 1) (x := .int .i64 (c)) (y := .int .i64 (d)) (by first | omega | (simp; done) | (simp; omega)) (by first | assumption | (simp [go_sem, *]; done)) (by first | assumption | (simp [go_sem, *]; done))
          obtain ⟨f7x2, f7x2a, f7x2b⟩ := bel_box hb7 (b := w2.heap.size) (x := .int .i64 (0)) (y := .int .i64 (0)) (by first | omega | (simp; done) | (simp; omega)) (by first | assumption | (simp [go_sem, *]; done)) (by first | assumption | (simp [go_sem, *]; done))
          obtain ⟨f7x3, f7x3a, f7x3b⟩ := bel_box hb7 (b := w3.heap.size) (x := .int .i64 (0)) (y := .int .i64 (0)) (by first | omega | (simp; done) | (simp; omega)) (by first | assumption | (simp [go_sem, *]; done)) (by first | assumption | (simp [go_sem, *]; done))
          obtain ⟨f7x4, f7x4a, f7x4b⟩ := bel_box hb7 (b := w4.heap.size) (x := .int .i64 (lessC 0 0 c d)) (y := .int .i64 (lessM 0 0 c d)) (by first | omega | (simp; done) | (simp; omega)) (by first | assumption | (simp [go_sem, *]; done)) (by first | assumption | (simp [go_sem, *]; done))
          obtain ⟨f7x5, f7x5a, f7x5b⟩ := bel_box hb7 (b := w5.heap.size) (x := .int .i64 (maxI a c)) (y := .int .i64 (maxI b d)) (by first | omega | (simp; done) | (simp; omega)) (by first | assumption | (simp [go_sem, *]; done)) (by first | assumption | (simp [go_sem, *]; done))
          have hB7 : Below w.heap.size w w7 := bel_trans hB6 hb7
          have hl7 := hB7.size
          clear hl6 hB6 f6x5b f6x5a f6x5 f6x4b f6x4a f6x4 f6x3b f6x3a f6x3 f6x2b f6x2a f6x2 f6x1b f6x1a f6x1 f6x0b f6x0a f6x0
          clear hb7
          go_wp2_with fail
          refine (HcSl.out _).mono ?_
          rintro e w8 ⟨rfl, hb8⟩
          obtain ⟨f8x0, f8x0a, f8x0b⟩ := bel_box hb8 (b := w1.heap.size) (x := .int .i64 (a)) (y := .int .i64 (b)) (by first | omega | (simp; done) | (simp; omega)) (by first | assumption | (simp [go_sem, *]; done)) (by first | assumption | (simp [go_sem, *]; done))
          obtain ⟨f8x1, f8x1a, f8x1b⟩ := bel_box hb8 (b := w1.heap.size + 1) (x := .int .i64 (c)) (y := .int .i64 (d)) (by first | omega | (simp; done) | (simp; omega)) (by first | assumption | (simp [go_sem, *]; done)) (by first | assumption | (simp [go_sem, *]; done))
          obtain ⟨f8x2, f8x2a, f8x2b⟩ := bel_box hb8 (b := w2.heap.size) (x := .int .i64 (0)) (y := .int .i64 (0)) (by first | omega | (simp; done) | (simp; omega)) (by first | assumption | (simp [go_sem, *]; done)) (by first | assumption | (simp [go_sem, *]; done))
          obtain ⟨f8x3, f8x3a, f8x3b⟩ := bel_box hb8 (b := w3.heap.size) (x := .int .i64 (0)) (y := .int .i64 (0)) (by first | omega | (simp; done) | (simp; omega)) (by first | assumption | (simp [go_sem, *]; done)) (by first | assumption | (simp [go_sem, *]; done))
          obtain ⟨f8x4, f8x4a, f8x4b⟩ := bel_box hb8 (b := w4.heap.size) (x := .int .i64 (lessC 0 0 c d)) (y := .int .i64 (lessM 0 0 c d)) (by first | omega | (simp; done) | (simp; omega)) (by first | assumption | (simp [go_sem, *]; done)) (by first | assumption | (simp [go_sem, *]; done))
          obtain ⟨f8x5, f8x5a, f8x5b⟩ := bel_box hb8 (b := w5.heap.size) (x := .int .i64 (maxI a c)) (y := .int .i64 (maxI b d)) (by first | omega | (simp; done) | (simp; omega)) (by first | assumption | (simp [go_sem, *]; done)) (by first | assumption | (simp [go_sem, *]; done))
          have hB8 : Below w.heap.size w w8 := bel_trans hB7 hb8
          have hl8 := hB8.size
          clear hl7 hB7 f7x5b f7x5a f7x5 f7x4b f7x4a f7x4 f7x3b f7x3a f7x3 f7x2b f7x2a f7x2 f7x1b f7x1a f7x1 f7x0b f7x0a f7x0
          clear hb8
          go_wp2_with fail
          refine (HcSlS.out _).mono ?_
          rintro e w9 ⟨rfl, hb9⟩
          obtain ⟨f9x0, f9x0a, f9x0b⟩ := bel_box hb9 (b := w1.heap.size) (x := .int .i64 (a)) (y := .int .i64 (b)) (by first | omega | (simp; done) | (simp; omega)) (by first | assumption | (simp [go_sem, *]; done)) (by first | assumption | (simp [go_sem, *]; done))
          obtain ⟨f9x1, f9x1a, f9x1b⟩ := bel_box hb9 (b := w1.heap.size + 1) (x := .int .i64 (c)) (y := .int .i64 (d)) (by first | omega | (simp; done) | (simp; omega)) (by first | assumption | (simp [go_sem, *]; done)) (by first | assumption | (simp [go_sem, *]; done))
          obtain ⟨f9x2, f9x2a, f9x2b⟩ := bel_box hb9 (b := w2.heap.size) (x := .int .i64 (0)) (y := .int .i64 (0)) (by first | omega | (simp; done) | (simp; omega)) (by first | assumption | (simp [go_sem, *]; done)) (by first | assumption | (simp [go_sem, *]; done))
          obtain ⟨f9x3, f9x3a, f9x3b⟩ := bel_box hb9 (b := w3.heap.size) (x := .int .i64 (0)) (y := .int .i64 (0)) (by first | omega | (simp; done) | (simp; omega)) (by first | assumption | (simp [go_sem, *]; done)) (by first | assumption | (simp [go_sem, *]; done))
          obtain ⟨f9x4, f9x4a, f9x4b⟩ := bel_box hb9 (b := w4.heap.size) (x := .int .i64 (lessC 0 0 c d)) (y := .int .i64 (lessM 0 0 c d)) (by first | omega | (simp; done) | (simp; omega)) (by first | assumption | (simp [go_sem, *]; done)) (by first | assumption | (simp [go_sem, *]; done))
          obtain ⟨f9x5, f9x5a, f9x5b⟩ := bel_box hb9 (b := w5.heap.size) (x := .int .i64 (maxI a c)) (y := .int .i64 (maxI b d)) (by first | omega | (simp; done) | (simp; omega)) (by first | assumption | (simp [go_sem, *]; done)) (by first | assumption | (simp [go_sem, *]; done))
          have hB9 : Below w.heap.size w w9 := bel_trans hB8 hb9
          have hl9 := hB9.size
          clear hl8 hB8 f8x5b f8x5a f8x5 f8x4b f8x4a f8x4 f8x3b f8x3a f8x3 f8x2b f8x2a f8x2 f8x1b f8x1a f8x1 f8x0b f8x0a f8x0
          clear hb9
          go_wp2_with fail
          refine (HcOk.out _).mono ?_
          rintro e w10 ⟨rfl, hb10⟩
          obtain ⟨f10x0, f10x0a, f10x0b⟩ := bel_box hb10 (b := w1.heap.size) (x := .int .i64 (a)) (y := .int .i64 (b)) (by first | omega | (simp; done) | (simp; omega)) (by first | assumption | (simp [go_sem, *]; done)) (by first | assumption | (simp [go_sem, *]; done))
          obtain ⟨f10x1, f10x1a, f10x1b⟩ := bel_box hb10 (b := w1.heap.size + 1) (x := .int .i64 (c)) (y := .int .i64 (d)) (by first | omega | (simp; done) | (simp; omega)) (by first | assumption | (simp [go_sem, *]; done)) (by first | assumption | (simp [go_sem, *]; done))
          obtain ⟨f10x2, f10x2a, f10x2b⟩ := bel_box hb10 (b := w2.heap.size) (x := .int .i64 (0)) (y := .int .i64 (0)) (by first | omega | (simp; done) | (simp; omega)) (by first | assumption | (simp [go_sem, *]; done)) (by first | assumption | (simp [go_sem, *]; done))
          obtain ⟨f10x3, f10x3a, f10x3b⟩ := bel_box hb10 (b := w3.heap.size) (x := .int .i64 (0)) (y := .int .i64 (0)) (by first | omega | (simp; done) | (simp; omega)) (by first | assumption | (simp [go_sem, *]; done)) (by first | assumption | (simp [go_sem, *]; done))
          obtain ⟨f10x4, f10x4a, f10x4b⟩ := bel_box hb10 (b := w4.heap.size) (x := .int .i64 (lessC 0 0 c d)) (y := .int .i64 (lessM 0 0 c d)) (by first | omega | (simp; done) | (simp; omega)) (by first | assumption | (simp [go_sem, *]; done)) (by first | assumption | (simp [go_sem, *]; done))
          obtain ⟨f10x5, f10x5a, f10x5b⟩ := bel_box hb10 (b := w5.heap.size) (x := .int .i64 (maxI a c)) (y := .int .i64 (maxI b d)) (by first | omega | (simp; done) | (simp; omega)) (by first | assumption | (simp [go_sem, *]; done)) (by first | assumption | (simp [go_sem, *]; done))
          have hB10 : Below w.heap.size w w10 := bel_trans hB9 hb10
          have hl10 := hB10.size
          clear hl9 hB9 f9x5b f9x5a f9x5 f9x4b f9x4a f9x4 f9x3b f9x3a f9x3 f9x2b f9x2a f9x2 f9x1b f9x1a f9x1 f9x0b f9x0a f9x0
          clear hb10
          go_wp2_with fail
          refine (HcOk2.out _).mono ?_
          rintro e w11 ⟨rfl, hb11⟩
          obtain ⟨f11x0, f11x0a, f11x0b⟩ := bel_box hb11 (b := w1.heap.size) (x := .int .i64 (a)) (y := .int .i64 (b)) (by first | omega | (simp; done) | (simp; omega)) (by first | assumption | (simp [go_sem, *]; done)) (by first | assumption | (simp [go_sem, *]; done))
          obtain ⟨f11x1, f11x1a, f11x1b⟩ := bel_box hb11 (b := w1.heap.size + 1) (x := .int .i64 (c)) (y := .int .i64 (d)) (by first | omega | (simp; done) | (simp; omega)) (by first | assumption | (simp [go_sem, *]; done)) (by first | assumption | (simp [go_sem, *]; done))
          obtain ⟨f11x2, f11x2a, f11x2b⟩ := bel_box hb11 (b := w2.heap.size) (x := .int .i64 (0)) (y := .int .i64 (0)) (by first | omega | (simp; done) | (simp; omega)) (by first | assumption | (simp [go_sem, *]; done)) (by first | assumption | (simp [go_sem, *]; done))
          obtain ⟨f11x3, f11x3a, f11x3b⟩ := bel_box hb11 (b := w3.heap.size) (x := .int .i64 (0)) (y := .int .i64 (0)) (by first | omega | (simp; done) | (simp; omega)) (by first | assumption | (simp [go_sem, *]; done)) (by first | assumption | (simp [go_sem, *]; done))
          obtain ⟨f11x4, f11x4a, f11x4b⟩ := bel_box hb11 (b := w4.heap.size) (x := .int .i64 (lessC 0 0 c d)) (y := .int .i64 (lessM 0 0 c d)) (by first | omega | (simp; done) | (simp; omega)) (by first | assumption | (simp [go_sem, *]; done)) (by first | assumption | (simp [go_sem, *]; done))
          obtain ⟨f11x5, f11x5a, f11x5b⟩ := bel_box hb11 (b := w5.heap.size) (x := .int .i64 (maxI a c)) (y := .int .i64 (maxI b d)) (by first | omega | (simp; done) | (simp; omega)) (by first | assumption | (simp [go_sem, *]; done)) (by first | assumption | (simp [go_sem, *]; done))
          have hB11 : Below w.heap.size w w11 := bel_trans hB10 hb11
          have hl11 := hB11.size
          clear hl10 hB10 f10x5b f10x5a f10x5 f10x4b f10x4a f10x4 f10x3b f10x3a f10x3 f10x2b f10x2a f10x2 f10x1b f10x1a f10x1 f10x0b f10x0a f10x0
          clear hb11
          go_wp2_with fail
          go_ret
          exact ⟨rfl, hB11⟩)
      · cases h4 : addOk a b c d
        · skip
          by_cases ha : a = 0
          · subst ha
            by_cases hb : b = 0
            · subst hb
              have h3 : notB 0 0 = true := rfl
              obtain ⟨e1, e2⟩ := add_no h4
              have cAdd : ∀ w, Calls Try.prog 13 #[.agg #[.int .i64 (0), .int .i64 (0)], .agg #[.int .i64 (c), .int .i64 (d)]] w fun e w' => e = .returned (.tuple #[.agg #[.int .i64 (0), .int .i64 (0)], .bool false]) ∧ Below w.heap.size w w' := fun w => by have := implAdd_any 0 0 c d w; rwa [e1, e2, h4] at this
              have cAddS : ∀ w, Calls Try.prog 14 #[.agg #[.int .i64 (0), .int .i64 (0)], .agg #[.int .i64 (c), .int .i64 (d)]] w fun e w' => e = .returned (.tuple #[.agg #[.int .i64 (0), .int .i64 (0)], .bool false]) ∧ Below w.heap.size w w' := fun w => by have := specAdd_any 0 0 c d w; rwa [e1, e2, h4] at this
              have cLess : ∀ w, Calls Try.prog 15 #[.agg #[.int .i64 (0), .int .i64 (0)], .agg #[.int .i64 (c), .int .i64 (d)]] w fun e w' => e = .returned (.tuple #[.agg #[.int .i64 (lessC 0 0 c d), .int .i64 (lessM 0 0 c d)], .bool (lessOk 0 0 c d)]) ∧ Below w.heap.size w w' := implLess_any 0 0 c d
              have cMost : ∀ w, Calls Try.prog 16 #[.agg #[.int .i64 (0), .int .i64 (0)], .agg #[.int .i64 (c), .int .i64 (d)]] w fun e w' => e = .returned (.agg #[.int .i64 (maxI 0 c), .int .i64 (maxI 0 d)]) ∧ Below w.heap.size w w' := implMost_any 0 0 c d
              have cFa : ∀ w, Calls Try.prog 17 #[.agg #[.int .i64 (0), .int .i64 (0)], .agg #[.int .i64 (maxI 0 c), .int .i64 (maxI 0 d)]] w fun e w' => e = .returned (.bool true) ∧ Below w.heap.size w w' := fun w => by have := implFits_any 0 0 (maxI 0 c) (maxI 0 d) w; rwa [(fit_most 0 0 c d).1] at this
              have cFc : ∀ w, Calls Try.prog 17 #[.agg #[.int .i64 (c), .int .i64 (d)], .agg #[.int .i64 (maxI 0 c), .int .i64 (maxI 0 d)]] w fun e w' => e = .returned (.bool true) ∧ Below w.heap.size w w' := fun w => by have := implFits_any c d (maxI 0 c) (maxI 0 d) w; rwa [(fit_most 0 0 c d).2] at this
              have cSl : ∀ w, Calls Try.prog 18 #[.agg #[.int .i64 (0), .int .i64 (0)], .agg #[.int .i64 (c), .int .i64 (d)]] w fun e w' => e = .returned (.int .i64 0) ∧ Below w.heap.size w w' := fun w => by have := implSlots_any 0 0 c d w; rwa [slots_none h3] at this
              have cSlS : ∀ w, Calls Try.prog 19 #[.agg #[.int .i64 (0), .int .i64 (0)], .agg #[.int .i64 (c), .int .i64 (d)]] w fun e w' => e = .returned (.int .i64 0) ∧ Below w.heap.size w w' := fun w => by have := specSlots_any 0 0 c d w; rwa [slots_none h3] at this
              have cOk : ∀ w, Calls Try.prog 20 #[.agg #[.int .i64 (0), .int .i64 (0)]] w fun e w' => e = .returned (.bool true) ∧ Below w.heap.size w w' := fun w => by have := specOk_any 0 0 w; rwa [h1] at this
              have cOk2 : ∀ w, Calls Try.prog 20 #[.agg #[.int .i64 (c), .int .i64 (d)]] w fun e w' => e = .returned (.bool true) ∧ Below w.heap.size w w' := fun w => by have := specOk_any c d w; rwa [h2] at this
              have hmx : ((maxI 0 c != 0) = false) ∨ ((maxI 0 c != 0) = true ∧ (maxI 0 c != c) = false) := by have := maxI_l 0 c; simp; omega
              have HcAdd := hidden cAdd; clear cAdd
              have HcAddS := hidden cAddS; clear cAddS
              have HcLess := hidden cLess; clear cLess
              have HcMost := hidden cMost; clear cMost
              have HcFa := hidden cFa; clear cFa
              have HcFc := hidden cFc; clear cFc
              have HcSl := hidden cSl; clear cSl
              have HcSlS := hidden cSlS; clear cSlS
              have HcOk := hidden cOk; clear cOk
              have HcOk2 := hidden cOk2; clear cOk2
              clear h1 h4 e1 e2 h2 h3
              go_wp2_with fail
              refine (HcAdd.out _).mono ?_
              rintro e w2 ⟨rfl, hb2⟩
              obtain ⟨f2x0, f2x0a, f2x0b⟩ := bel_box hb2 (b := w1.heap.size) (x := .int .i64 (0)) (y := .int .i64 (0)) (by first | omega | (simp; done) | (simp; omega)) (by first | assumption | (simp [go_sem, *]; done)) (by first | assumption | (simp [go_sem, *]; done))
              obtain ⟨f2x1, f2x1a, f2x1b⟩ := bel_box hb2 (b := w1.heap.size + 1) (x := .int .i64 (c)) (y := .int .i64 (d)) (by first | omega | (simp; done) | (simp; omega)) (by first | assumption | (simp [go_sem, *]; done)) (by first | assumption | (simp [go_sem, *]; done))
              have hB2 : Below w.heap.size w w2 := bel_trans ((hB1.alloc (by first | omega | (simp; done) | (simp; omega)) _).alloc (by first | omega | (simp; done) | (simp; omega)) _) hb2
              have hl2 := hB2.size
              clear hl1 hB1
              clear hb2
              go_wp2_with fail
              refine (HcAddS.out _).mono ?_
              rintro e w3 ⟨rfl, hb3⟩
              obtain ⟨f3x0, f3x0a, f3x0b⟩ := bel_box hb3 (b := w1.heap.size) (x := .int .i64 (0)) (y := .int .i64 (0)) (by first | omega | (simp; done) | (simp; omega)) (by first | assumption | (simp [go_sem, *]; done)) (by first | assumption | (simp [go_sem, *]; done))
              obtain ⟨f3x1, f3x1a, f3x1b⟩ := bel_box hb3 (b := w1.heap.size + 1) (x := .int .i64 (c)) (y := .int .i64 (d)) (by first | omega | (simp; done) | (simp; omega)) (by first | assumption | (simp [go_sem, *]; done)) (by first | assumption | (simp [go_sem, *]; done))
              obtain ⟨f3x2, f3x2a, f3x2b⟩ := bel_box hb3 (b := w2.heap.size) (x := .int .i64 (0)) (y := .int .i64 (0)) (by first | omega | (simp; done) | (simp; omega)) (by first | assumption | (simp [go_sem, *]; done)) (by first | assumption | (simp [go_sem, *]; done))
              have hB3 : Below w.heap.size w w3 := bel_trans (hB2.alloc (by first | omega | (simp; done) | (simp; omega)) _) hb3
              have hl3 := hB3.size
              clear hl2 hB2 f2x1b f2x1a f2x1 f2x0b f2x0a f2x0
              clear hb3
              go_wp2_with fail
              refine (HcLess.out _).mono ?_
              rintro e w4 ⟨rfl, hb4⟩
              obtain ⟨f4x0, f4x0a, f4x0b⟩ := bel_box hb4 (b := w1.heap.size) (x := .int .i64 (0)) (y := .int .i64 (0)) (by first | omega | (simp; done) | (simp; omega)) (by first | assumption | (simp [go_sem, *]; done)) (by first | assumption | (simp [go_sem, *]; done))
              obtain ⟨f4x1, f4x1a, f4x1b⟩ := bel_box hb4 (b := w1.heap.size + 1) (x := .int .i64 (c)) (y := .int .i64 (d)) (by first | omega | (simp; done) | (simp; omega)) (by first | assumption | (simp [go_sem, *]; done)) (by first | assumption | (simp [go_sem, *]; done))
              obtain ⟨f4x2, f4x2a, f4x2b⟩ := bel_box hb4 (b := w2.heap.size) (x := .int .i64 (0)) (y := .int .i64 (0)) (by first | omega | (simp; done) | (simp; omega)) (by first | assumption | (simp [go_sem, *]; done)) (by first | assumption | (simp [go_sem, *]; done))
              obtain ⟨f4x3, f4x3a, f4x3b⟩ := bel_box hb4 (b := w3.heap.size) (x := .int .i64 (0)) (y := .int .i64 (0)) (by first | omega | (simp; done) | (simp; omega)) (by first | assumption | (simp [go_sem, *]; done)) (by first | assumption | (simp [go_sem, *]; done))
              have hB4 : Below w.heap.size w w4 := bel_trans (hB3.alloc (by first | omega | (simp; done) | (simp; omega)) _) hb4
              have hl4 := hB4.size
              clear hl3 hB3 f3x2b f3x2a f3x2 f3x1b f3x1a f3x1 f3x0b f3x0a f3x0
              clear hb4
              go_wp2_with fail
              refine (HcMost.out _).mono ?_
              rintro e w5 ⟨rfl, hb5⟩
              obtain ⟨f5x0, f5x0a, f5x0b⟩ := bel_box hb5 (b := w1.heap.size) (x := .int .i64 (0)) (y := .int .i64 (0)) (by first | omega | (simp; done) | (simp; omega)) (by first | assumption | (simp [go_sem, *]; done)) (by first | assumption | (simp [go_sem, *]; done))
              obtain ⟨f5x1, f5x1a, f5x1b⟩ := bel_box hb5 (b := w1.heap.size + 1) (x := .int .i64 (c)) (y := .int .i64 (d)) (by first | omega | (simp; done) | (simp; omega)) (by first | assumption | (simp [go_sem, *]; done)) (by first | assumption | (simp [go_sem, *]; done))
              obtain ⟨f5x2, f5x2a, f5x2b⟩ := bel_box hb5 (b := w2.heap.size) (x := .int .i64 (0)) (y := .int .i64 (0)) (by first | omega | (simp; done) | (simp; omega)) (by first | assumption | (simp [go_sem, *]; done)) (by first | assumption | (simp [go_sem, *]; done))
              obtain ⟨f5x3, f5x3a, f5x3b⟩ := bel_box hb5 (b := w3.heap.size) (x := .int .i64 (0)) (y := .int .i64 (0)) (by first | omega | (simp; done) | (simp; omega)) (by first | assumption | (simp [go_sem, *]; done)) (by first | assumption | (simp [go_sem, *]; done))
              obtain ⟨f5x4, f5x4a, f5x4b⟩ := bel_box hb5 (b := w4.heap.size) (x := .int .i64 (lessC 0 0 c d)) (y := .int .i64 (lessM 0 0 c d)) (by first | omega | (simp; done) | (simp; omega)) (by first | assumption | (simp [go_sem, *]; done)) (by first | assumption | (simp [go_sem, *]; done))
              have hB5 : Below w.heap.size w w5 := bel_trans (hB4.alloc (by first | omega | (simp; done) | (simp; omega)) _) hb5
              have hl5 := hB5.size
              clear hl4 hB4 f4x3b f4x3a f4x3 f4x2b f4x2a f4x2 f4x1b f4x1a f4x1 f4x0b f4x0a f4x0
              clear hb5
              go_wp2_with fail
              refine (HcFa.out _).mono ?_
              rintro e w6 ⟨rfl, hb6⟩
              obtain ⟨f6x0, f6x0a, f6x0b⟩ := bel_box hb6 (b := w1.heap.size) (x := .int .i64 (0)) (y := .int .i64 (0)) (by first | omega | (simp; done) | (simp; omega)) (by first | assumption | (simp [go_sem, *]; done)) (by first | assumption | (simp [go_sem, *]; done))
              obtain ⟨f6x1, f6x1a, f6x1b⟩ := bel_box hb6 (b := w1.heap.size + 1) (x := .int .i64 (c)) (y := .int .i64 (d)) (by first | omega | (simp; done) | (simp; omega)) (by first | assumption | (simp [go_sem, *]; done)) (by first | assumption | (simp [go_sem, *]; done))
              obtain ⟨f6x2, f6x2a, f6x2b⟩ := bel_box hb6 (b := w2.heap.size) (x := .int .i64 (0)) (y := .int .i64 (0)) (by first | omega | (simp; done) | (simp; omega)) (by first | assumption | (simp [go_sem, *]; done)) (by first | assumption | (simp [go_sem, *]; done))
              obtain ⟨f6x3, f6x3a, f6x3b⟩ := bel_box hb6 (b := w3.heap.size) (x := .int .i64 (0)) (y := .int .i64 (0)) (by first | omega | (simp; done) | (simp; omega)) (by first | assumption | (simp [go_sem, *]; done)) (by first | assumption | (simp [go_sem, *]; done))
              obtain ⟨f6x4, f6x4a, f6x4b⟩ := bel_box hb6 (b := w4.heap.size) (x := .int .i64 (lessC 0 0 c d)) (y := .int .i64 (lessM 0 0 c d)) (by first | omega | (simp; done) | (simp; omega)) (by first | assumption | (simp [go_sem, *]; done)) (by first | assumption | (simp [go_sem, *]; done))
              obtain ⟨f6x5, f6x5a, f6x5b⟩ := bel_box hb6 (b := w5.heap.size) (x := .int .i64 (maxI 0 c)) (y := .int .i64 (maxI 0 d)) (by first | omega | (simp; done) | (simp; omega)) (by first | assumption | (simp [go_sem, *]; done)) (by first | assumption | (simp [go_sem, *]; done))
              have hB6 : Below w.heap.size w w6 := bel_trans (hB5.alloc (by first | omega | (simp; done) | (simp; omega)) _) hb6
              have hl6 := hB6.size
              clear hl5 hB5 f5x4b f5x4a f5x4 f5x3b f5x3a f5x3 f5x2b f5x2a f5x2 f5x1b f5x1a f5x1 f5x0b f5x0a f5x0
              clear hb6
              rcases hmx with hm1 | ⟨hm1, hm2⟩
              all_goals (
                go_wp2_with fail
                refine (HcFc.out _).mono ?_
                rintro e w7 ⟨rfl, hb7⟩
                obtain ⟨f7x0, f7x0a, f7x0b⟩ := bel_box hb7 (b := w1.heap.size) (x := .int .i64 (0)) (y := .int .i64 (0)) (by first | omega | (simp; done) | (simp; omega)) (by first | assumption | (simp [go_sem, *]; done)) (by first | assumption | (simp [go_sem, *]; done))
                obtain ⟨f7x1, f7x1a, f7x1b⟩ := bel_box hb7 (b := w1.heap.size + 1) (x := .int .i64 (c)) (y := .int .i64 (d)) (by first | omega | (simp; done) | (simp; omega)) (by first | assumption | (simp [go_sem, *]; done)) (by first | assumption | (simp [go_sem, *]; done))
                obtain ⟨f7x2, f7x2a, f7x2b⟩ := bel_box hb7 (b := w2.heap.size) (x := .int .i64 (0)) (y := .int .i64 (0)) (by first | omega | (simp; done) | (simp; omega)) (by first | assumption | (simp [go_sem, *]; done)) (by first | assumption | (simp [go_sem, *]; done))
                obtain ⟨f7x3, f7x3a, f7x3b⟩ := bel_box hb7 (b := w3.heap.size) (x := .int .i64 (0)) (y := .int .i64 (0)) (by first | omega | (simp; done) | (simp; omega)) (by first | assumption | (simp [go_sem, *]; done)) (by first | assumption | (simp [go_sem, *]; done))
                obtain ⟨f7x4, f7x4a, f7x4b⟩ := bel_box hb7 (b := w4.heap.size) (x := .int .i64 (lessC 0 0 c d)) (y := .int .i64 (lessM 0 0 c d)) (by first | omega | (simp; done) | (simp; omega)) (by first | assumption | (simp [go_sem, *]; done)) (by first | assumption | (simp [go_sem, *]; done))
                obtain ⟨f7x5, f7x5a, f7x5b⟩ := bel_box hb7 (b := w5.heap.size) (x := .int .i64 (maxI 0 c)) (y := .int .i64 (maxI 0 d)) (by first | omega | (simp; done) | (simp; omega)) (by first | assumption | (simp [go_sem, *]; done)) (by first | assumption | (simp [go_sem, *]; done))
                have hB7 : Below w.heap.size w w7 := bel_trans hB6 hb7
                have hl7 := hB7.size
                clear hl6 hB6 f6x5b f6x5a f6x5 f6x4b f6x4a f6x4 f6x3b f6x3a f6x3 f6x2b f6x2a f6x2 f6x1b f6x1a f6x1 f6x0b f6x0a f6x0
                clear hb7
                go_wp2_with fail
                refine (HcSl.out _).mono ?_
                rintro e w8 ⟨rfl, hb8⟩
                obtain ⟨f8x0, f8x0a, f8x0b⟩ := bel_box hb8 (b := w1.heap.size) (x := .int .i64 (0)) (y := .int .i64 (0)) (by first | omega | (simp; done) | (simp; omega)) (by first | assumption | (simp [go_sem, *]; done)) (by first | assumption | (simp [go_sem, *]; done))
                obtain ⟨f8x1, f8x1a, f8x1b⟩ := bel_box hb8 (b := w1.heap.size + 1) (x := .int .i64 (c)) (y := .int .i64 (d)) (by first | omega | (simp; done) | (simp; omega)) (by first | assumption | (simp [go_sem, *]; done)) (by first | assumption | (simp [go_sem, *]; done))
                obtain ⟨f8x2, f8x2a, f8x2b⟩ := bel_box hb8 (b := w2.heap.size) (x := .int .i64 (0)) (y := .int .i64 (0)) (by first | omega | (simp; done) | (simp; omega)) (by first | assumption | (simp [go_sem, *]; done)) (by first | assumption | (simp [go_sem, *]; done))
                obtain ⟨f8x3, f8x3a, f8x3b⟩ := bel_box hb8 (b := w3.heap.size) (x := .int .i64 (0)) (y := .int .i64 (0)) (by first | omega | (simp; done) | (simp; omega)) (by first | assumption | (simp [go_sem, *]; done)) (by first | assumption | (simp [go_sem, *]; done))
                obtain ⟨f8x4, f8x4a, f8x4b⟩ := bel_box hb8 (b := w4.heap.size) (x := .int .i64 (lessC 0 0 c d)) (y := .int .i64 (lessM 0 0 c d)) (by first | omega | (simp; done) | (simp; omega)) (by first | assumption | (simp [go_sem, *]; done)) (by first | assumption | (simp [go_sem, *]; done))
                obtain ⟨f8x5, f8x5a, f8x5b⟩ := bel_box hb8 (b := w5.heap.size) (x := .int .i64 (maxI 0 c)) (y := .int .i64 (maxI 0 d)) (by first | omega | (simp; done) | (simp; omega)) (by first | assumption | (simp [go_sem, *]; done)) (by first | assumption | (simp [go_sem, *]; done))
                have hB8 : Below w.heap.size w w8 := bel_trans hB7 hb8
                have hl8 := hB8.size
                clear hl7 hB7 f7x5b f7x5a f7x5 f7x4b f7x4a f7x4 f7x3b f7x3a f7x3 f7x2b f7x2a f7x2 f7x1b f7x1a f7x1 f7x0b f7x0a f7x0
                clear hb8
                go_wp2_with fail
                refine (HcSlS.out _).mono ?_
                rintro e w9 ⟨rfl, hb9⟩
                obtain ⟨f9x0, f9x0a, f9x0b⟩ := bel_box hb9 (b := w1.heap.size) (x := .int .i64 (0)) (y := .int .i64 (0)) (by first | omega | (simp; done) | (simp; omega)) (by first | assumption | (simp [go_sem, *]; done)) (by first | assumption | (simp [go_sem, *]; done))
                obtain ⟨f9x1, f9x1a, f9x1b⟩ := bel_box hb9 (b := w1.heap.size + 1) (x := .int .i64 (c)) (y := .int .i64 (d)) (by first | omega | (simp; done) | (simp; omega)) (by first | assumption | (simp [go_sem, *]; done)) (by first | assumption | (simp [go_sem, *]; done))
                obtain ⟨f9x2, f9x2a, f9x2b⟩ := bel_box hb9 (b := w2.heap.size) (x := .int .i64 (0)) (y := .int .i64 (0)) (by first | omega | (simp; done) | (simp; omega)) (by first | assumption | (simp [go_sem, *]; done)) (by first | assumption | (simp [go_sem, *]; done))
                obtain ⟨f9x3, f9x3a, f9x3b⟩ := bel_box hb9 (b := w3.heap.size) (x := .int .i64 (0)) (y := .int .i64 (0)) (by first | omega | (simp; done) | (simp; omega)) (by first | assumption | (simp [go_sem, *]; done)) (by first | assumption | (simp [go_sem, *]; done))
                obtain ⟨f9x4, f9x4a, f9x4b⟩ := bel_box hb9 (b := w4.heap.size) (x := .int .i64 (lessC 0 0 c d)) (y := .int .i64 (lessM 0 0 c d)) (by first | omega | (simp; done) | (simp; omega)) (by first | assumption | (simp [go_sem, *]; done)) (by first | assumption | (simp [go_sem, *]; done))
                obtain ⟨f9x5, f9x5a, f9x5b⟩ := bel_box hb9 (b := w5.heap.size) (x := .int .i64 (maxI 0 c)) (y := .int .i64 (maxI 0 d)) (by first | omega | (simp; done) | (simp; omega)) (by first | assumption | (simp [go_sem, *]; done)) (by first | assumption | (simp [go_sem, *]; done))
                have hB9 : Below w.heap.size w w9 := bel_trans hB8 hb9
                have hl9 := hB9.size
                clear hl8 hB8 f8x5b f8x5a f8x5 f8x4b f8x4a f8x4 f8x3b f8x3a f8x3 f8x2b f8x2a f8x2 f8x1b f8x1a f8x1 f8x0b f8x0a f8x0
                clear hb9
                go_wp2_with fail
                refine (HcOk.out _).mono ?_
                rintro e w10 ⟨rfl, hb10⟩
                obtain ⟨f10x0, f10x0a, f10x0b⟩ := bel_box hb10 (b := w1.heap.size) (x := .int .i64 (0)) (y := .int .i64 (0)) (by first | omega | (simp; done) | (simp; omega)) (by first | assumption | (simp [go_sem, *]; done)) (by first | assumption | (simp [go_sem, *]; done))
                obtain ⟨f10x1, f10x1a, f10x1b⟩ := bel_box hb10 (b := w1.heap.size + 1) (x := .int .i64 (c)) (y := .int .i64 (d)) (by first | omega | (simp; done) | (simp; omega)) (by first | assumption | (simp [go_sem, *]; done)) (by first | assumption | (simp [go_sem, *]; done))
                obtain ⟨f10x2, f10x2a, f10x2b⟩ := bel_box hb10 (b := w2.heap.size) (x := .int .i64 (0)) (y := .int .i64 (0)) (by first | omega | (simp; done) | (simp; omega)) (by first | assumption | (simp [go_sem, *]; done)) (by first | assumption | (simp [go_sem, *]; done))
                obtain ⟨f10x3, f10x3a, f10x3b⟩ := bel_box hb10 (b := w3.heap.size) (x := .int .i64 (0)) (y := .int .i64 (0)) (by first | omega | (simp; done) | (simp; omega)) (by first | assumption | (simp [go_sem, *]; done)) (by first | assumption | (simp [go_sem, *]; done))
                obtain ⟨f10x4, f10x4a, f10x4b⟩ := bel_box hb10 (b := w4.heap.size) (x := .int .i64 (lessC 0 0 c d)) (y := .int .i64 (lessM 0 0 c d)) (by first | omega | (simp; done) | (simp; omega)) (by first | assumption | (simp [go_sem, *]; done)) (by first | assumption | (simp [go_sem, *]; done))
                obtain ⟨f10x5, f10x5a, f10x5b⟩ := bel_box hb10 (b := w5.heap.size) (x := .int .i64 (maxI 0 c)) (y := .int .i64 (maxI 0 d)) (by first | omega | (simp; done) | (simp; omega)) (by first | assumption | (simp [go_sem, *]; done)) (by first | assumption | (simp [go_sem, *]; done))
                have hB10 : Below w.heap.size w w10 := bel_trans hB9 hb10
                have hl10 := hB10.size
                clear hl9 hB9 f9x5b f9x5a f9x5 f9x4b f9x4a f9x4 f9x3b f9x3a f9x3 f9x2b f9x2a f9x2 f9x1b f9x1a f9x1 f9x0b f9x0a f9x0
                clear hb10
                go_wp2_with fail
                refine (HcOk2.out _).mono ?_
                rintro e w11 ⟨rfl, hb11⟩
                obtain ⟨f11x0, f11x0a, f11x0b⟩ := bel_box hb11 (b := w1.heap.size) (x := .int .i64 (0)) (y := .int .i64 (0)) (by first | omega | (simp; done) | (simp; omega)) (by first | assumption | (simp [go_sem, *]; done)) (by first | assumption | (simp [go_sem, *]; done))
                obtain ⟨f11x1, f11x1a, f11x1b⟩ := bel_box hb11 (b := w1.heap.size + 1) (x := .int .i64 (c)) (y := .int .i64 (d)) (by first | omega | (simp; done) | (simp; omega)) (by first | assumption | (simp [go_sem, *]; done)) (by first | assumption | (simp [go_sem, *]; done))
                obtain ⟨f11x2, f11x2a, f11x2b⟩ := bel_box hb11 (b := w2.heap.size) (x := .int .i64 (0)) (y := .int .i64 (0)) (by first | omega | (simp; done) | (simp; omega)) (by first | assumption | (simp [go_sem, *]; done)) (by first | assumption | (simp [go_sem, *]; done))
                obtain ⟨f11x3, f11x3a, f11x3b⟩ := bel_box hb11 (b := w3.heap.size) (x := .int .i64 (0)) (y := .int .i64 (0)) (by first | omega | (simp; done) | (simp; omega)) (by first | assumption | (simp [go_sem, *]; done)) (by first | assumption | (simp [go_sem, *]; done))
                obtain ⟨f11x4, f11x4a, f11x4b⟩ := bel_box hb11 (b := w4.heap.size) (x := .int .i64 (lessC 0 0 c d)) (y := .int .i64 (lessM 0 0 c d)) (by first | omega | (simp; done) | (simp; omega)) (by first | assumption | (simp [go_sem, *]; done)) (by first | assumption | (simp [go_sem, *]; done))
                obtain ⟨f11x5, f11x5a, f11x5b⟩ := bel_box hb11 (b := w5.heap.size) (x := .int .i64 (maxI 0 c)) (y := .int .i64 (maxI 0 d)) (by first | omega | (simp; done) | (simp; omega)) (by first | assumption | (simp [go_sem, *]; done)) (by first | assumption | (simp [go_sem, *]; done))
                have hB11 : Below w.heap.size w w11 := bel_trans hB10 hb11
                have hl11 := hB11.size
                clear hl10 hB10 f10x5b f10x5a f10x5 f10x4b f10x4a f10x4 f10x3b f10x3a f10x3 f10x2b f10x2a f10x2 f10x1b f10x1a f10x1 f10x0b f10x0a f10x0
                clear hb11
                go_wp2_with fail
                go_ret
                exact ⟨rfl, hB11⟩)
            · have h3 : notB 0 b = false := by simp [notB, hb]
              obtain ⟨e1, e2⟩ := add_no h4
              have cAdd : ∀ w, Calls Try.prog 13 #[.agg #[.int .i64 (0), .int .i64 (b)], .agg #[.int .i64 (c), .int .i64 (d)]] w fun e w' => e = .returned (.tuple #[.agg #[.int .i64 (0), .int .i64 (0)], .bool false]) ∧ Below w.heap.size w w' := fun w => by have := implAdd_any 0 b c d w; rwa [e1, e2, h4] at this
              have cAddS : ∀ w, Calls Try.prog 14 #[.agg #[.int .i64 (0), .int .i64 (b)], .agg #[.int .i64 (c), .int .i64 (d)]] w fun e w' => e = .returned (.tuple #[.agg #[.int .i64 (0), .int .i64 (0)], .bool false]) ∧ Below w.heap.size w w' := fun w => by have := specAdd_any 0 b c d w; rwa [e1, e2, h4] at this
              have cLess : ∀ w, Calls Try.prog 15 #[.agg #[.int .i64 (0), .int .i64 (0)], .agg #[.int .i64 (c), .int .i64 (d)]] w fun e w' => e = .returned (.tuple #[.agg #[.int .i64 (lessC 0 0 c d), .int .i64 (lessM 0 0 c d)], .bool (lessOk 0 0 c d)]) ∧ Below w.heap.size w w' := implLess_any 0 0 c d
              have cMost : ∀ w, Calls Try.prog 16 #[.agg #[.int .i64 (0), .int .i64 (b)], .agg #[.int .i64 (c), .int .i64 (d)]] w fun e w' => e = .returned (.agg #[.int .i64 (maxI 0 c), .int .i64 (maxI b d)]) ∧ Below w.heap.size w w' := implMost_any 0 b c d
              have cFa : ∀ w, Calls Try.prog 17 #[.agg #[.int .i64 (0), .int .i64 (b)], .agg #[.int .i64 (maxI 0 c), .int .i64 (maxI b d)]] w fun e w' => e = .returned (.bool true) ∧ Below w.heap.size w w' := fun w => by have := implFits_any 0 b (maxI 0 c) (maxI b d) w; rwa [(fit_most 0 b c d).1] at this
              have cFc : ∀ w, Calls Try.prog 17 #[.agg #[.int .i64 (c), .int .i64 (d)], .agg #[.int .i64 (maxI 0 c), .int .i64 (maxI b d)]] w fun e w' => e = .returned (.bool true) ∧ Below w.heap.size w w' := fun w => by have := implFits_any c d (maxI 0 c) (maxI b d) w; rwa [(fit_most 0 b c d).2] at this
              obtain ⟨n, hn⟩ : ∃ n, slotsI 0 b c d = n := ⟨_, rfl⟩
              have hfit := slots_fit h1 h2 h3
              rw [hn] at hfit
              obtain ⟨n1, n2, n3, n4, n5, n6, n7⟩ := hfit
              simp only [Int.mul_zero, Int.add_zero] at n3 n4 n7
              obtain ⟨p1, p2, p3, p4⟩ := ok_iff.1 h1
              obtain ⟨q1, q2, q3, q4⟩ := ok_iff.1 h2
              have hz : ¬ n < 0 := by omega
              have cSl : ∀ w, Calls Try.prog 18 #[.agg #[.int .i64 (0), .int .i64 (b)], .agg #[.int .i64 (c), .int .i64 (d)]] w fun e w' => e = .returned (.int .i64 n) ∧ Below w.heap.size w w' := fun w => by have := implSlots_any 0 b c d w; rwa [hn] at this
              have cSlS : ∀ w, Calls Try.prog 19 #[.agg #[.int .i64 (0), .int .i64 (b)], .agg #[.int .i64 (c), .int .i64 (d)]] w fun e w' => e = .returned (.int .i64 n) ∧ Below w.heap.size w w' := fun w => by have := specSlots_any 0 b c d w; rwa [hn] at this
              have ff : fitB (0) (n * b) c d = true := fit_iff.2 ⟨n4, n6⟩
              have fg : fitB (0) (n * b + b) c d = false := by simpa [fitB] using n7
              have cAl : ∀ w, Calls Try.prog 17 #[.agg #[.int .i64 (0), .int .i64 (n * b)], .agg #[.int .i64 (c), .int .i64 (d)]] w fun e w' => e = .returned (.bool true) ∧ Below w.heap.size w w' := fun w => by have := implFits_any (0) (n * b) c d w; rwa [ff] at this
              have cMo : ∀ w, Calls Try.prog 17 #[.agg #[.int .i64 (0), .int .i64 (n * b + b)], .agg #[.int .i64 (c), .int .i64 (d)]] w fun e w' => e = .returned (.bool false) ∧ Below w.heap.size w w' := fun w => by have := implFits_any (0) (n * b + b) c d w; rwa [fg] at this
              clear hn n7 ff fg
              have cOk : ∀ w, Calls Try.prog 20 #[.agg #[.int .i64 (0), .int .i64 (b)]] w fun e w' => e = .returned (.bool true) ∧ Below w.heap.size w w' := fun w => by have := specOk_any 0 b w; rwa [h1] at this
              have cOk2 : ∀ w, Calls Try.prog 20 #[.agg #[.int .i64 (c), .int .i64 (d)]] w fun e w' => e = .returned (.bool true) ∧ Below w.heap.size w w' := fun w => by have := specOk_any c d w; rwa [h2] at this
              have hmx : ((maxI 0 c != 0) = false) ∨ ((maxI 0 c != 0) = true ∧ (maxI 0 c != c) = false) := by have := maxI_l 0 c; simp; omega
              have HcAdd := hidden cAdd; clear cAdd
              have HcAddS := hidden cAddS; clear cAddS
              have HcLess := hidden cLess; clear cLess
              have HcMost := hidden cMost; clear cMost
              have HcFa := hidden cFa; clear cFa
              have HcFc := hidden cFc; clear cFc
              have HcSl := hidden cSl; clear cSl
              have HcSlS := hidden cSlS; clear cSlS
              have HcOk := hidden cOk; clear cOk
              have HcOk2 := hidden cOk2; clear cOk2
              have HcAl := hidden cAl; clear cAl
              have HcMo := hidden cMo; clear cMo
              clear h1 h4 e1 e2 h2 h3
              go_wp2_with fail
              refine (HcAdd.out _).mono ?_
              rintro e w2 ⟨rfl, hb2⟩
              obtain ⟨f2x0, f2x0a, f2x0b⟩ := bel_box hb2 (b := w1.heap.size) (x := .int .i64 (0)) (y := .int .i64 (b)) (by first | omega | (simp; done) | (simp; omega)) (by first | assumption | (simp [go_sem, *]; done)) (by first | assumption | (simp [go_sem, *]; done))
              obtain ⟨f2x1, f2x1a, f2x1b⟩ := bel_box hb2 (b := w1.heap.size + 1) (x := .int .i64 (c)) (y := .int .i64 (d)) (by first | omega | (simp; done) | (simp; omega)) (by first | assumption | (simp [go_sem, *]; done)) (by first | assumption | (simp [go_sem, *]; done))
              have hB2 : Below w.heap.size w w2 := bel_trans ((hB1.alloc (by first | omega | (simp; done) | (simp; omega)) _).alloc (by first | omega | (simp; done) | (simp; omega)) _) hb2
              have hl2 := hB2.size
              clear hl1 hB1
              clear hb2
              go_wp2_with fail
              refine (HcAddS.out _).mono ?_
              rintro e w3 ⟨rfl, hb3⟩
              obtain ⟨f3x0, f3x0a, f3x0b⟩ := bel_box hb3 (b := w1.heap.size) (x := .int .i64 (0)) (y := .int .i64 (b)) (by first | omega | (simp; done) | (simp; omega)) (by first | assumption | (simp [go_sem, *]; done)) (by first | assumption | (simp [go_sem, *]; done))
              obtain ⟨f3x1, f3x1a, f3x1b⟩ := bel_box hb3 (b := w1.heap.size + 1) (x := .int .i64 (c)) (y := .int .i64 (d)) (by first | omega | (simp; done) | (simp; omega)) (by first | assumption | (simp [go_sem, *]; done)) (by first | assumption | (simp [go_sem, *]; done))
              obtain ⟨f3x2, f3x2a, f3x2b⟩ := bel_box hb3 (b := w2.heap.size) (x := .int .i64 (0)) (y := .int .i64 (0)) (by first | omega | (simp; done) | (simp; omega)) (by first | assumption | (simp [go_sem, *]; done)) (by first | assumption | (simp [go_sem, *]; done))
              have hB3 : Below w.heap.size w w3 := bel_trans (hB2.alloc (by first | omega | (simp; done) | (simp; omega)) _) hb3
              have hl3 := hB3.size
              clear hl2 hB2 f2x1b f2x1a f2x1 f2x0b f2x0a f2x0
              clear hb3
              go_wp2_with fail
              refine (HcLess.out _).mono ?_
              rintro e w4 ⟨rfl, hb4⟩
              obtain ⟨f4x0, f4x0a, f4x0b⟩ := bel_box hb4 (b := w1.heap.size) (x := .int .i64 (0)) (y := .int .i64 (b)) (by first | omega | (simp; done) | (simp; omega)) (by first | assumption | (simp [go_sem, *]; done)) (by first | assumption | (simp [go_sem, *]; done))
              obtain ⟨f4x1, f4x1a, f4x1b⟩ := bel_box hb4 (b := w1.heap.size + 1) (x := .int .i64 (c)) (y := .int .i64 (d)) (by first | omega | (simp; done) | (simp; omega)) (by first | assumption | (simp [go_sem, *]; done)) (by first | assumption | (simp [go_sem, *]; done))
              obtain ⟨f4x2, f4x2a, f4x2b⟩ := bel_box hb4 (b := w2.heap.size) (x := .int .i64 (0)) (y := .int .i64 (0)) (by first | omega | (simp; done) | (simp; omega)) (by first | assumption | (simp [go_sem, *]; done)) (by first | assumption | (simp [go_sem, *]; done))
              obtain ⟨f4x3, f4x3a, f4x3b⟩ := bel_box hb4 (b := w3.heap.size) (x := .int .i64 (0)) (y := .int .i64 (0)) (by first | omega | (simp; done) | (simp; omega)) (by first | assumption | (simp [go_sem, *]; done)) (by first | assumption | (simp [go_sem, *]; done))
              have hB4 : Below w.heap.size w w4 := bel_trans (hB3.alloc (by first | omega | (simp; done) | (simp; omega)) _) hb4
              have hl4 := hB4.size
              clear hl3 hB3 f3x2b f3x2a f3x2 f3x1b f3x1a f3x1 f3x0b f3x0a f3x0
              clear hb4
              go_wp2_with fail
              refine (HcMost.out _).mono ?_
              rintro e w5 ⟨rfl, hb5⟩
              obtain ⟨f5x0, f5x0a, f5x0b⟩ := bel_box hb5 (b := w1.heap.size) (x := .int .i64 (0)) (y := .int .i64 (b)) (by first | omega | (simp; done) | (simp; omega)) (by first | assumption | (simp [go_sem, *]; done)) (by first | assumption | (simp [go_sem, *]; done))
              obtain ⟨f5x1, f5x1a, f5x1b⟩ := bel_box hb5 (b := w1.heap.size + 1) (x := .int .i64 (c)) (y := .int .i64 (d)) (by first | omega | (simp; done) | (simp; omega)) (by first | assumption | (simp [go_sem, *]; done)) (by first | assumption | (simp [go_sem, *]; done))
              obtain ⟨f5x2, f5x2a, f5x2b⟩ := bel_box hb5 (b := w2.heap.size) (x := .int .i64 (0)) (y := .int .i64 (0)) (by first | omega | (simp; done) | (simp; omega)) (by first | assumption | (simp [go_sem, *]; done)) (by first | assumption | (simp [go_sem, *]; done))
              obtain ⟨f5x3, f5x3a, f5x3b⟩ := bel_box hb5 (b := w3.heap.size) (x := .int .i64 (0)) (y := .int .i64 (0)) (by first | omega | (simp; done) | (simp; omega)) (by first | assumption | (simp [go_sem, *]; done)) (by first | assumption | (simp [go_sem, *]; done))
              obtain ⟨f5x4, f5x4a, f5x4b⟩ := bel_box hb5 (b := w4.heap.size) (x := .int .i64 (lessC 0 0 c d)) (y := .int .i64 (lessM 0 0 c d)) (by first | omega | (simp; done) | (simp; omega)) (by first | assumption | (simp [go_sem, *]; done)) (by first | assumption | (simp [go_sem, *]; done))
              have hB5 : Below w.heap.size w w5 := bel_trans (hB4.alloc (by first | omega | (simp; done) | (simp; omega)) _) hb5
              have hl5 := hB5.size
              clear hl4 hB4 f4x3b f4x3a f4x3 f4x2b f4x2a f4x2 f4x1b f4x1a f4x1 f4x0b f4x0a f4x0
              clear hb5
              go_wp2_with fail
              refine (HcFa.out _).mono ?_
              rintro e w6 ⟨rfl, hb6⟩
              obtain ⟨f6x0, f6x0a, f6x0b⟩ := bel_box hb6 (b := w1.heap.size) (x := .int .i64 (0)) (y := .int .i64 (b)) (by first | omega | (simp; done) | (simp; omega)) (by first | assumption | (simp [go_sem, *]; done)) (by first | assumption | (simp [go_sem, *]; done))
              obtain ⟨f6x1, f6x1a, f6x1b⟩ := bel_box hb6 (b := w1.heap.size + 1) (x := .int .i64 (c)) (y := .int .i64 (d)) (by first | omega | (simp; done) | (simp; omega)) (by first | assumption | (simp [go_sem, *]; done)) (by first | assumption | (simp [go_sem, *]; done))
              obtain ⟨f6x2, f6x2a, f6x2b⟩ := bel_box hb6 (b := w2.heap.size) (x := .int .i64 (0)) (y := .int .i64 (0)) (by first | omega | (simp; done) | (simp; omega)) (by first | assumption | (simp [go_sem, *]; done)) (by first | assumption | (simp [go_sem, *]; done))
              obtain ⟨f6x3, f6x3a, f6x3b⟩ := bel_box hb6 (b := w3.heap.size) (x := .int .i64 (0)) (y := .int .i64 (0)) (by first | omega | (simp; done) | (simp; omega)) (by first | assumption | (simp [go_sem, *]; done)) (by first | assumption | (simp [go_sem, *]; done))
              obtain ⟨f6x4, f6x4a, f6x4b⟩ := bel_box hb6 (b := w4.heap.size) (x := .int .i64 (lessC 0 0 c d)) (y := .int .i64 (lessM 0 0 c d)) (by first | omega | (simp; done) | (simp; omega)) (by first | assumption | (simp [go_sem, *]; done)) (by first | assumption | (simp [go_sem, *]; done))
              obtain ⟨f6x5, f6x5a, f6x5b⟩ := bel_box hb6 (b := w5.heap.size) (x := .int .i64 (maxI 0 c)) (y := .int .i64 (maxI b d)) (by first | omega | (simp; done) | (simp; omega)) (by first | assumption | (simp [go_sem, *]; done)) (by first | assumption | (simp [go_sem, *]; done))
              have hB6 : Below w.heap.size w w6 := bel_trans (hB5.alloc (by first | omega | (simp; done) | (simp; omega)) _) hb6
              have hl6 := hB6.size
              clear hl5 hB5 f5x4b f5x4a f5x4 f5x3b f5x3a f5x3 f5x2b f5x2a f5x2 f5x1b f5x1a f5x1 f5x0b f5x0a f5x0
              clear hb6
              rcases hmx with hm1 | ⟨hm1, hm2⟩
              all_goals (
                go_wp2_with fail
                refine (HcFc.out _).mono ?_
                rintro e w7 ⟨rfl, hb7⟩
                obtain ⟨f7x0, f7x0a, f7x0b⟩ := bel_box hb7 (b := w1.heap.size) (x := .int .i64 (0)) (y := .int .i64 (b)) (by first | omega | (simp; done) | (simp; omega)) (by first | assumption | (simp [go_sem, *]; done)) (by first | assumption | (simp [go_sem, *]; done))
                obtain ⟨f7x1, f7x1a, f7x1b⟩ := bel_box hb7 (b := w1.heap.size + 1) (x := .int .i64 (c)) (y := .int .i64 (d)) (by first | omega | (simp; done) | (simp; omega)) (by first | assumption | (simp [go_sem, *]; done)) (by first | assumption | (simp [go_sem, *]; done))
                obtain ⟨f7x2, f7x2a, f7x2b⟩ := bel_box hb7 (b := w2.heap.size) (x := .int .i64 (0)) (y := .int .i64 (0)) (by first | omega | (simp; done) | (simp; omega)) (by first | assumption | (simp [go_sem, *]; done)) (by first | assumption | (simp [go_sem, *]; done))
                obtain ⟨f7x3, f7x3a, f7x3b⟩ := bel_box hb7 (b := w3.heap.size) (x := .int .i64 (0)) (y := .int .i64 (0)) (by first | omega | (simp; done) | (simp; omega)) (by first | assumption | (simp [go_sem, *]; done)) (by first | assumption | (simp [go_sem, *]; done))
                obtain ⟨f7x4, f7x4a, f7x4b⟩ := bel_box hb7 (b := w4.heap.size) (x := .int .i64 (lessC 0 0 c d)) (y := .int .i64 (lessM 0 0 c d)) (by first | omega | (simp; done) | (simp; omega)) (by first | assumption | (simp [go_sem, *]; done)) (by first | assumption | (simp [go_sem, *]; done))
                obtain ⟨f7x5, f7x5a, f7x5b⟩ := bel_box hb7 (b := w5.heap.size) (x := .int .i64 (maxI 0 c)) (y := .int .i64 (maxI b d)) (by first | omega | (simp; done) | (simp; omega)) (by first | assumption | (simp [go_sem, *]; done)) (by first | assumption | (simp [go_sem, *]; done))
                have hB7 : Below w.heap.size w w7 := bel_trans hB6 hb7
                have hl7 := hB7.size
                clear hl6 hB6 f6x5b f6x5a f6x5 f6x4b f6x4a f6x4 f6x3b f6x3a f6x3 f6x2b f6x2a f6x2 f6x1b f6x1a f6x1 f6x0b f6x0a f6x0
                clear hb7
                go_wp2_with fail
                refine (HcSl.out _).mono ?_
                rintro e w8 ⟨rfl, hb8⟩
                obtain ⟨f8x0, f8x0a, f8x0b⟩ := bel_box hb8 (b := w1.heap.size) (x := .int .i64 (0)) (y := .int .i64 (b)) (by first | omega | (simp; done) | (simp; omega)) (by first | assumption | (simp [go_sem, *]; done)) (by first | assumption | (simp [go_sem, *]; done))
                obtain ⟨f8x1, f8x1a, f8x1b⟩ := bel_box hb8 (b := w1.heap.size + 1) (x := .int .i64 (c)) (y := .int .i64 (d)) (by first | omega | (simp; done) | (simp; omega)) (by first | assumption | (simp [go_sem, *]; done)) (by first | assumption | (simp [go_sem, *]; done))
                obtain ⟨f8x2, f8x2a, f8x2b⟩ := bel_box hb8 (b := w2.heap.size) (x := .int .i64 (0)) (y := .int .i64 (0)) (by first | omega | (simp; done) | (simp; omega)) (by first | assumption | (simp [go_sem, *]; done)) (by first | assumption | (simp [go_sem, *]; done))
                obtain ⟨f8x3, f8x3a, f8x3b⟩ := bel_box hb8 (b := w3.heap.size) (x := .int .i64 (0)) (y := .int .i64 (0)) (by first | omega | (simp; done) | (simp; omega)) (by first | assumption | (simp [go_sem, *]; done)) (by first | assumption | (simp [go_sem, *]; done))
                obtain ⟨f8x4, f8x4a, f8x4b⟩ := bel_box hb8 (b := w4.heap.size) (x := .int .i64 (lessC 0 0 c d)) (y := .int .i64 (lessM 0 0 c d)) (by first | omega | (simp; done) | (simp; omega)) (by first | assumption | (simp [go_sem, *]; done)) (by first | assumption | (simp [go_sem, *]; done))
                obtain ⟨f8x5, f8x5a, f8x5b⟩ := bel_box hb8 (b := w5.heap.size) (x := .int .i64 (maxI 0 c)) (y := .int .i64 (maxI b d)) (by first | omega | (simp; done) | (simp; omega)) (by first | assumption | (simp [go_sem, *]; done)) (by first | assumption | (simp [go_sem, *]; done))
                have hB8 : Below w.heap.size w w8 := bel_trans hB7 hb8
                have hl8 := hB8.size
                clear hl7 hB7 f7x5b f7x5a f7x5 f7x4b f7x4a f7x4 f7x3b f7x3a f7x3 f7x2b f7x2a f7x2 f7x1b f7x1a f7x1 f7x0b f7x0a f7x0
                clear hb8
                go_wp2_with fail
                refine (HcSlS.out _).mono ?_
                rintro e w9 ⟨rfl, hb9⟩
                obtain ⟨f9x0, f9x0a, f9x0b⟩ := bel_box hb9 (b := w1.heap.size) (x := .int .i64 (0)) (y := .int .i64 (b)) (by first | omega | (simp; done) | (simp; omega)) (by first | assumption | (simp [go_sem, *]; done)) (by first | assumption | (simp [go_sem, *]; done))
                obtain ⟨f9x1, f9x1a, f9x1b⟩ := bel_box hb9 (b := w1.heap.size + 1) (x := .int .i64 (c)) (y := .int .i64 (d)) (by first | omega | (simp; done) | (simp; omega)) (by first | assumption | (simp [go_sem, *]; done)) (by first | assumption | (simp [go_sem, *]; done))
                obtain ⟨f9x2, f9x2a, f9x2b⟩ := bel_box hb9 (b := w2.heap.size) (x := .int .i64 (0)) (y := .int .i64 (0)) (by first | omega | (simp; done) | (simp; omega)) (by first | assumption | (simp [go_sem, *]; done)) (by first | assumption | (simp [go_sem, *]; done))
                obtain ⟨f9x3, f9x3a, f9x3b⟩ := bel_box hb9 (b := w3.heap.size) (x := .int .i64 (0)) (y := .int .i64 (0)) (by first | omega | (simp; done) | (simp; omega)) (by first | assumption | (simp [go_sem, *]; done)) (by first | assumption | (simp [go_sem, *]; done))
                obtain ⟨f9x4, f9x4a, f9x4b⟩ := bel_box hb9 (b := w4.heap.size) (x := .int .i64 (lessC 0 0 c d)) (y := .int .i64 (lessM 0 0 c d)) (by first | omega | (simp; done) | (simp; omega)) (by first | assumption | (simp [go_sem, *]; done)) (by first | assumption | (simp [go_sem, *]; done))
                obtain ⟨f9x5, f9x5a, f9x5b⟩ := bel_box hb9 (b := w5.heap.size) (x := .int .i64 (maxI 0 c)) (y := .int .i64 (maxI b d)) (by first | omega | (simp; done) | (simp; omega)) (by first | assumption | (simp [go_sem, *]; done)) (by first | assumption | (simp [go_sem, *]; done))
                have hB9 : Below w.heap.size w w9 := bel_trans hB8 hb9
                have hl9 := hB9.size
                clear hl8 hB8 f8x5b f8x5a f8x5 f8x4b f8x4a f8x4 f8x3b f8x3a f8x3 f8x2b f8x2a f8x2 f8x1b f8x1a f8x1 f8x0b f8x0a f8x0
                clear hb9
                go_wp2_with fail
                refine (HcOk.out _).mono ?_
                rintro e w10 ⟨rfl, hb10⟩
                obtain ⟨f10x0, f10x0a, f10x0b⟩ := bel_box hb10 (b := w1.heap.size) (x := .int .i64 (0)) (y := .int .i64 (b)) (by first | omega | (simp; done) | (simp; omega)) (by first | assumption | (simp [go_sem, *]; done)) (by first | assumption | (simp [go_sem, *]; done))
                obtain ⟨f10x1, f10x1a, f10x1b⟩ := bel_box hb10 (b := w1.heap.size + 1) (x := .int .i64 (c)) (y := .int .i64 (d)) (by first | omega | (simp; done) | (simp; omega)) (by first | assumption | (simp [go_sem, *]; done)) (by first | assumption | (simp [go_sem, *]; done))
                obtain ⟨f10x2, f10x2a, f10x2b⟩ := bel_box hb10 (b := w2.heap.size) (x := .int .i64 (0)) (y := .int .i64 (0)) (by first | omega | (simp; done) | (simp; omega)) (by first | assumption | (simp [go_sem, *]; done)) (by first | assumption | (simp [go_sem, *]; done))
                obtain ⟨f10x3, f10x3a, f10x3b⟩ := bel_box hb10 (b := w3.heap.size) (x := .int .i64 (0)) (y := .int .i64 (0)) (by first | omega | (simp; done) | (simp; omega)) (by first | assumption | (simp [go_sem, *]; done)) (by first | assumption | (simp [go_sem, *]; done))
                obtain ⟨f10x4, f10x4a, f10x4b⟩ := bel_box hb10 (b := w4.heap.size) (x := .int .i64 (lessC 0 0 c d)) (y := .int .i64 (lessM 0 0 c d)) (by first | omega | (simp; done) | (simp; omega)) (by first | assumption | (simp [go_sem, *]; done)) (by first | assumption | (simp [go_sem, *]; done))
                obtain ⟨f10x5, f10x5a, f10x5b⟩ := bel_box hb10 (b := w5.heap.size) (x := .int .i64 (maxI 0 c)) (y := .int .i64 (maxI b d)) (by first | omega | (simp; done) | (simp; omega)) (by first | assumption | (simp [go_sem, *]; done)) (by first | assumption | (simp [go_sem, *]; done))
                have hB10 : Below w.heap.size w w10 := bel_trans hB9 hb10
                have hl10 := hB10.size
                clear hl9 hB9 f9x5b f9x5a f9x5 f9x4b f9x4a f9x4 f9x3b f9x3a f9x3 f9x2b f9x2a f9x2 f9x1b f9x1a f9x1 f9x0b f9x0a f9x0
                clear hb10
                go_wp2_with fail
                refine (HcOk2.out _).mono ?_
                rintro e w11 ⟨rfl, hb11⟩
                obtain ⟨f11x0, f11x0a, f11x0b⟩ := bel_box hb11 (b := w1.heap.size) (x := .int .i64 (0)) (y := .int .i64 (b)) (by first | omega | (simp; done) | (simp; omega)) (by first | assumption | (simp [go_sem, *]; done)) (by first | assumption | (simp [go_sem, *]; done))
                obtain ⟨f11x1, f11x1a, f11x1b⟩ := bel_box hb11 (b := w1.heap.size + 1) (x := .int .i64 (c)) (y := .int .i64 (d)) (by first | omega | (simp; done) | (simp; omega)) (by first | assumption | (simp [go_sem, *]; done)) (by first | assumption | (simp [go_sem, *]; done))
                obtain ⟨f11x2, f11x2a, f11x2b⟩ := bel_box hb11 (b := w2.heap.size) (x := .int .i64 (0)) (y := .int .i64 (0)) (by first | omega | (simp; done) | (simp; omega)) (by first | assumption | (simp [go_sem, *]; done)) (by first | assumption | (simp [go_sem, *]; done))
                obtain ⟨f11x3, f11x3a, f11x3b⟩ := bel_box hb11 (b := w3.heap.size) (x := .int .i64 (0)) (y := .int .i64 (0)) (by first | omega | (simp; done) | (simp; omega)) (by first | assumption | (simp [go_sem, *]; done)) (by first | assumption | (simp [go_sem, *]; done))
                obtain ⟨f11x4, f11x4a, f11x4b⟩ := bel_box hb11 (b := w4.heap.size) (x := .int .i64 (lessC 0 0 c d)) (y := .int .i64 (lessM 0 0 c d)) (by first | omega | (simp; done) | (simp; omega)) (by first | assumption | (simp [go_sem, *]; done)) (by first | assumption | (simp [go_sem, *]; done))
                obtain ⟨f11x5, f11x5a, f11x5b⟩ := bel_box hb11 (b := w5.heap.size) (x := .int .i64 (maxI 0 c)) (y := .int .i64 (maxI b d)) (by first | omega | (simp; done) | (simp; omega)) (by first | assumption | (simp [go_sem, *]; done)) (by first | assumption | (simp [go_sem, *]; done))
                have hB11 : Below w.heap.size w w11 := bel_trans hB10 hb11
                have hl11 := hB11.size
                clear hl10 hB10 f10x5b f10x5a f10x5 f10x4b f10x4a f10x4 f10x3b f10x3a f10x3 f10x2b f10x2a f10x2 f10x1b f10x1a f10x1 f10x0b f10x0a f10x0
                clear hb11
                go_wp2_with fail
                refine (HcAl.out _).mono ?_
                rintro e w12 ⟨rfl, hb12⟩
                obtain ⟨f12x0, f12x0a, f12x0b⟩ := bel_box hb12 (b := w1.heap.size) (x := .int .i64 (0)) (y := .int .i64 (b)) (by first | omega | (simp; done) | (simp; omega)) (by first | assumption | (simp [go_sem, *]; done)) (by first | assumption | (simp [go_sem, *]; done))
                obtain ⟨f12x1, f12x1a, f12x1b⟩ := bel_box hb12 (b := w1.heap.size + 1) (x := .int .i64 (c)) (y := .int .i64 (d)) (by first | omega | (simp; done) | (simp; omega)) (by first | assumption | (simp [go_sem, *]; done)) (by first | assumption | (simp [go_sem, *]; done))
                obtain ⟨f12x2, f12x2a, f12x2b⟩ := bel_box hb12 (b := w2.heap.size) (x := .int .i64 (0)) (y := .int .i64 (0)) (by first | omega | (simp; done) | (simp; omega)) (by first | assumption | (simp [go_sem, *]; done)) (by first | assumption | (simp [go_sem, *]; done))
                obtain ⟨f12x3, f12x3a, f12x3b⟩ := bel_box hb12 (b := w3.heap.size) (x := .int .i64 (0)) (y := .int .i64 (0)) (by first | omega | (simp; done) | (simp; omega)) (by first | assumption | (simp [go_sem, *]; done)) (by first | assumption | (simp [go_sem, *]; done))
                obtain ⟨f12x4, f12x4a, f12x4b⟩ := bel_box hb12 (b := w4.heap.size) (x := .int .i64 (lessC 0 0 c d)) (y := .int .i64 (lessM 0 0 c d)) (by first | omega | (simp; done) | (simp; omega)) (by first | assumption | (simp [go_sem, *]; done)) (by first | assumption | (simp [go_sem, *]; done))
                obtain ⟨f12x5, f12x5a, f12x5b⟩ := bel_box hb12 (b := w5.heap.size) (x := .int .i64 (maxI 0 c)) (y := .int .i64 (maxI b d)) (by first | omega | (simp; done) | (simp; omega)) (by first | assumption | (simp [go_sem, *]; done)) (by first | assumption | (simp [go_sem, *]; done))
                obtain ⟨f12x6, f12x6a, f12x6b⟩ := bel_box hb12 (b := w11.heap.size) (x := .int .i64 (0)) (y := .int .i64 (n * b)) (by first | omega | (simp; done) | (simp; omega)) (by first | assumption | (simp [go_sem, *]; done)) (by first | assumption | (simp [go_sem, *]; done))
                obtain ⟨f12x7, f12x7a, f12x7b⟩ := bel_box hb12 (b := w11.heap.size + 1) (x := .int .i64 (0)) (y := .int .i64 (n * b + b)) (by first | omega | (simp; done) | (simp; omega)) (by first | assumption | (simp [go_sem, *]; done)) (by first | assumption | (simp [go_sem, *]; done))
                have hB12 : Below w.heap.size w w12 := bel_trans ((hB11.alloc (by first | omega | (simp; done) | (simp; omega)) _).alloc (by first | omega | (simp; done) | (simp; omega)) _) hb12
                have hl12 := hB12.size
                clear hl11 hB11 f11x5b f11x5a f11x5 f11x4b f11x4a f11x4 f11x3b f11x3a f11x3 f11x2b f11x2a f11x2 f11x1b f11x1a f11x1 f11x0b f11x0a f11x0
                clear hb12
                go_wp2_with fail
                refine (HcMo.out _).mono ?_
                rintro e w13 ⟨rfl, hb13⟩
                obtain ⟨f13x0, f13x0a, f13x0b⟩ := bel_box hb13 (b := w1.heap.size) (x := .int .i64 (0)) (y := .int .i64 (b)) (by first | omega | (simp; done) | (simp; omega)) (by first | assumption | (simp [go_sem, *]; done)) (by first | assumption | (simp [go_sem, *]; done))
                obtain ⟨f13x1, f13x1a, f13x1b⟩ := bel_box hb13 (b := w1.heap.size + 1) (x := .int .i64 (c)) (y := .int .i64 (d)) (by first | omega | (simp; done) | (simp; omega)) (by first | assumption | (simp [go_sem, *]; done)) (by first | assumption | (simp [go_sem, *]; done))
                obtain ⟨f13x2, f13x2a, f13x2b⟩ := bel_box hb13 (b := w2.heap.size) (x := .int .i64 (0)) (y := .int .i64 (0)) (by first | omega | (simp; done) | (simp; omega)) (by first | assumption | (simp [go_sem, *]; done)) (by first | assumption | (simp [go_sem, *]; done))
                obtain ⟨f13x3, f13x3a, f13x3b⟩ := bel_box hb13 (b := w3.heap.size) (x := .int .i64 (0)) (y := .int .i64 (0)) (by first | omega | (simp; done) | (simp; omega)) (by first | assumption | (simp [go_sem, *]; done)) (by first | assumption | (simp [go_sem, *]; done))
                obtain ⟨f13x4, f13x4a, f13x4b⟩ := bel_box hb13 (b := w4.heap.size) (x := .int .i64 (lessC 0 0 c d)) (y := .int .i64 (lessM 0 0 c d)) (by first | omega | (simp; done) | (simp; omega)) (by first | assumption | (simp [go_sem, *]; done)) (by first | assumption | (simp [go_sem, *]; done))
                obtain ⟨f13x5, f13x5a, f13x5b⟩ := bel_box hb13 (b := w5.heap.size) (x := .int .i64 (maxI 0 c)) (y := .int .i64 (maxI b d)) (by first | omega | (simp; done) | (simp; omega)) (by first | assumption | (simp [go_sem, *]; done)) (by first | assumption | (simp [go_sem, *]; done))
                obtain ⟨f13x6, f13x6a, f13x6b⟩ := bel_box hb13 (b := w11.heap.size) (x := .int .i64 (0)) (y := .int .i64 (n * b)) (by first | omega | (simp; done) | (simp; omega)) (by first | assumption | (simp [go_sem, *]; done)) (by first | assumption | (simp [go_sem, *]; done))
                obtain ⟨f13x7, f13x7a, f13x7b⟩ := bel_box hb13 (b := w11.heap.size + 1) (x := .int .i64 (0)) (y := .int .i64 (n * b + b)) (by first | omega | (simp; done) | (simp; omega)) (by first | assumption | (simp [go_sem, *]; done)) (by first | assumption | (simp [go_sem, *]; done))
                have hB13 : Below w.heap.size w w13 := bel_trans hB12 hb13
                have hl13 := hB13.size
                clear hl12 hB12 f12x7b f12x7a f12x7 f12x6b f12x6a f12x6 f12x5b f12x5a f12x5 f12x4b f12x4a f12x4 f12x3b f12x3a f12x3 f12x2b f12x2a f12x2 f12x1b f12x1a f12x1 f12x0b f12x0a f12x0
                clear hb13
                go_wp2_with fail
                go_ret
                exact ⟨rfl, hB13⟩)
          · have h3 : notB a b = false := by simp [notB, ha]
            obtain ⟨e1, e2⟩ := add_no h4
            have cAdd : ∀ w, Calls Try.prog 13 #[.agg #[.int .i64 (a), .int .i64 (b)], .agg #[.int .i64 (c), .int .i64 (d)]] w fun e w' => e = .returned (.tuple #[.agg #[.int .i64 (0), .int .i64 (0)], .bool false]) ∧ Below w.heap.size w w' := fun w => by have := implAdd_any a b c d w; rwa [e1, e2, h4] at this
            have cAddS : ∀ w, Calls Try.prog 14 #[.agg #[.int .i64 (a), .int .i64 (b)], .agg #[.int .i64 (c), .int .i64 (d)]] w fun e w' => e = .returned (.tuple #[.agg #[.int .i64 (0), .int .i64 (0)], .bool false]) ∧ Below w.heap.size w w' := fun w => by have := specAdd_any a b c d w; rwa [e1, e2, h4] at this
            have cLess : ∀ w, Calls Try.prog 15 #[.agg #[.int .i64 (0), .int .i64 (0)], .agg #[.int .i64 (c), .int .i64 (d)]] w fun e w' => e = .returned (.tuple #[.agg #[.int .i64 (lessC 0 0 c d), .int .i64 (lessM 0 0 c d)], .bool (lessOk 0 0 c d)]) ∧ Below w.heap.size w w' := implLess_any 0 0 c d
            have cMost : ∀ w, Calls Try.prog 16 #[.agg #[.int .i64 (a), .int .i64 (b)], .agg #[.int .i64 (c), .int .i64 (d)]] w fun e w' => e = .returned (.agg #[.int .i64 (maxI a c), .int .i64 (maxI b d)]) ∧ Below w.heap.size w w' := implMost_any a b c d
            have cFa : ∀ w, Calls Try.prog 17 #[.agg #[.int .i64 (a), .int .i64 (b)], .agg #[.int .i64 (maxI a c), .int .i64 (maxI b d)]] w fun e w' => e = .returned (.bool true) ∧ Below w.heap.size w w' := fun w => by have := implFits_any a b (maxI a c) (maxI b d) w; rwa [(fit_most a b c d).1] at this
            have cFc : ∀ w, Calls Try.prog 17 #[.agg #[.int .i64 (c), .int .i64 (d)], .agg #[.int .i64 (maxI a c), .int .i64 (maxI b d)]] w fun e w' => e = .returned (.bool true) ∧ Below w.heap.size w w' := fun w => by have := implFits_any c d (maxI a c) (maxI b d) w; rwa [(fit_most a b c d).2] at this
            obtain ⟨n, hn⟩ : ∃ n, slotsI a b c d = n := ⟨_, rfl⟩
            have hfit := slots_fit h1 h2 h3
            rw [hn] at hfit
            obtain ⟨n1, n2, n3, n4, n5, n6, n7⟩ := hfit
            obtain ⟨p1, p2, p3, p4⟩ := ok_iff.1 h1
            obtain ⟨q1, q2, q3, q4⟩ := ok_iff.1 h2
            have hz : ¬ n < 0 := by omega
            have cSl : ∀ w, Calls Try.prog 18 #[.agg #[.int .i64 (a), .int .i64 (b)], .agg #[.int .i64 (c), .int .i64 (d)]] w fun e w' => e = .returned (.int .i64 n) ∧ Below w.heap.size w w' := fun w => by have := implSlots_any a b c d w; rwa [hn] at this
            have cSlS : ∀ w, Calls Try.prog 19 #[.agg #[.int .i64 (a), .int .i64 (b)], .agg #[.int .i64 (c), .int .i64 (d)]] w fun e w' => e = .returned (.int .i64 n) ∧ Below w.heap.size w w' := fun w => by have := specSlots_any a b c d w; rwa [hn] at this
            have ff : fitB (n * a) (n * b) c d = true := fit_iff.2 ⟨n4, n6⟩
            have fg : fitB (n * a + a) (n * b + b) c d = false := by simpa [fitB] using n7
            have cAl : ∀ w, Calls Try.prog 17 #[.agg #[.int .i64 (n * a), .int .i64 (n * b)], .agg #[.int .i64 (c), .int .i64 (d)]] w fun e w' => e = .returned (.bool true) ∧ Below w.heap.size w w' := fun w => by have := implFits_any (n * a) (n * b) c d w; rwa [ff] at this
            have cMo : ∀ w, Calls Try.prog 17 #[.agg #[.int .i64 (n * a + a), .int .i64 (n * b + b)], .agg #[.int .i64 (c), .int .i64 (d)]] w fun e w' => e = .returned (.bool false) ∧ Below w.heap.size w w' := fun w => by have := implFits_any (n * a + a) (n * b + b) c d w; rwa [fg] at this
            clear hn n7 ff fg
            have cOk : ∀ w, Calls Try.prog 20 #[.agg #[.int .i64 (a), .int .i64 (b)]] w fun e w' => e = .returned (.bool true) ∧ Below w.heap.size w w' := fun w => by have := specOk_any a b w; rwa [h1] at this
            have cOk2 : ∀ w, Calls Try.prog 20 #[.agg #[.int .i64 (c), .int .i64 (d)]] w fun e w' => e = .returned (.bool true) ∧ Below w.heap.size w w' := fun w => by have := specOk_any c d w; rwa [h2] at this
            have hmx : ((maxI a c != a) = false) ∨ ((maxI a c != a) = true ∧ (maxI a c != c) = false) := by have := maxI_l a c; simp; omega
            have HcAdd := hidden cAdd; clear cAdd
            have HcAddS := hidden cAddS; clear cAddS
            have HcLess := hidden cLess; clear cLess
            have HcMost := hidden cMost; clear cMost
            have HcFa := hidden cFa; clear cFa
            have HcFc := hidden cFc; clear cFc
            have HcSl := hidden cSl; clear cSl
            have HcSlS := hidden cSlS; clear cSlS
            have HcOk := hidden cOk; clear cOk
            have HcOk2 := hidden cOk2; clear cOk2
            have HcAl := hidden cAl; clear cAl
            have HcMo := hidden cMo; clear cMo
            clear h1 h4 e1 e2 h2 h3
            go_wp2_with fail
            refine (HcAdd.out _).mono ?_
            rintro e w2 ⟨rfl, hb2⟩
            obtain ⟨f2x0, f2x0a, f2x0b⟩ := bel_box hb2 (b := w1.heap.size) (x := .int .i64 (a)) (y := .int .i64 (b)) (by first | omega | (simp; done) | (simp; omega)) (by first | assumption | (simp [go_sem, *]; done)) (by first | assumption | (simp [go_sem, *]; done))
            obtain ⟨f2x1, f2x1a, f2x1b⟩ := bel_box hb2 (b := w1.heap.size + 1) (x := .int .i64 (c)) (y := .int .i64 (d)) (by first | omega | (simp; done) | (simp; omega)) (by first | assumption | (simp [go_sem, *]; done)) (by first | assumption | (simp [go_sem, *]; done))
            have hB2 : Below w.heap.size w w2 := bel_trans ((hB1.alloc (by first | omega | (simp; done) | (simp; omega)) _).alloc (by first | omega | (simp; done) | (simp; omega)) _) hb2
            have hl2 := hB2.size
            clear hl1 hB1
            clear hb2
            go_wp2_with fail
            refine (HcAddS.out _).mono ?_
            rintro e w3 ⟨rfl, hb3⟩
            obtain ⟨f3x0, f3x0a, f3x0b⟩ := bel_box hb3 (b := w1.heap.size) (x := .int .i64 (a)) (y := .int .i64 (b)) (by first | omega | (simp; done) | (simp; omega)) (by first | assumption | (simp [go_sem, *]; done)) (by first | assumption | (simp [go_sem, *]; done))
            obtain ⟨f3x1, f3x1a, f3x1b⟩ := bel_box hb3 (b := w1.heap.size + 1) (x := .int .i64 (c)) (y := .int .i64 (d)) (by first | omega | (simp; done) | (simp; omega)) (by first | assumption | (simp [go_sem, *]; done)) (by first | assumption | (simp [go_sem, *]; done))
            obtain ⟨f3x2, f3x2a, f3x2b⟩ := bel_box hb3 (b := w2.heap.size) (x := .int .i64 (0)) (y := .int .i64 (0)) (by first | omega | (simp; done) | (simp; omega)) (by first | assumption | (simp [go_sem, *]; done)) (by first | assumption | (simp [go_sem, *]; done))
            have hB3 : Below w.heap.size w w3 := bel_trans (hB2.alloc (by first | omega | (simp; done) | (simp; omega)) _) hb3
            have hl3 := hB3.size
            clear hl2 hB2 f2x1b f2x1a f2x1 f2x0b f2x0a f2x0
            clear hb3
            go_wp2_with fail
            refine (HcLess.out _).mono ?_
            rintro e w4 ⟨rfl, hb4⟩
            obtain ⟨f4x0, f4x0a, f4x0b⟩ := bel_box hb4 (b := w1.heap.size) (x := .int .i64 (a)) (y := .int .i64 (b)) (by first | omega | (simp; done) | (simp; omega)) (by first | assumption | (simp [go_sem, *]; done)) (by first | assumption | (simp [go_sem, *]; done))
            obtain ⟨f4x1, f4x1a, f4x1b⟩ := bel_box hb4 (b := w1.heap.size + 1) (x := .int .i64 (c)) (y := .int .i64 (d)) (by first | omega | (simp; done) | (simp; omega)) (by first | assumption | (simp [go_sem, *]; done)) (by first | assumption | (simp [go_sem, *]; done))
            obtain ⟨f4x2, f4x2a, f4x2b⟩ := bel_box hb4 (b := w2.heap.size) (x := .int .i64 (0)) (y := .int .i64 (0)) (by first | omega | (simp; done) | (simp; omega)) (by first | assumption | (simp [go_sem, *]; done)) (by first | assumption | (simp [go_sem, *]; done))
            obtain ⟨f4x3, f4x3a, f4x3b⟩ := bel_box hb4 (b := w3.heap.size) (x := .int .i64 (0)) (y := .int .i64 (0)) (by first | omega | (simp; done) | (simp; omega)) (by first | assumption | (simp [go_sem, *]; done)) (by first | assumption | (simp [go_sem, *]; done))
            have hB4 : Below w.heap.size w w4 := bel_trans (hB3.alloc (by first | omega | (simp; done) | (simp; omega)) _) hb4
            have hl4 := hB4.size
            clear hl3 hB3 f3x2b f3x2a f3x2 f3x1b f3x1a f3x1 f3x0b f3x0a f3x0
            clear hb4
            go_wp2_with fail
            refine (HcMost.out _).mono ?_
            rintro e w5 ⟨rfl, hb5⟩
            obtain ⟨f5x0, f5x0a, f5x0b⟩ := bel_box hb5 (b := w1.heap.size) (x := .int .i64 (a)) (y := .int .i64 (b)) (by first | omega | (simp; done) | (simp; omega)) (by first | assumption | (simp [go_sem, *]; done)) (by first | assumption | (simp [go_sem, *]; done))
            obtain ⟨f5x1, f5x1a, f5x1b⟩ := bel_box hb5 (b := w1.heap.size + 1) (x := .int .i64 (c)) (y := .int .i64 (d)) (by first | omega | (simp; done) | (simp; omega)) (by first | assumption | (simp [go_sem, *]; done)) (by first | assumption | (simp [go_sem, *]; done))
            obtain ⟨f5x2, f5x2a, f5x2b⟩ := bel_box hb5 (b := w2.heap.size) (x := .int .i64 (0)) (y := .int .i64 (0)) (by first | omega | (simp; done) | (simp; omega)) (by first | assumption | (simp [go_sem, *]; done)) (by first | assumption | (simp [go_sem, *]; done))
            obtain ⟨f5x3, f5x3a, f5x3b⟩ := bel_box hb5 (b := w3.heap.size) (x := .int .i64 (0)) (y := .int .i64 (0)) (by first | omega | (simp; done) | (simp; omega)) (by first | assumption | (simp [go_sem, *]; done)) (by first | assumption | (simp [go_sem, *]; done))
            obtain ⟨f5x4, f5x4a, f5x4b⟩ := bel_box hb5 (b := w4.heap.size) (x := .int .i64 (lessC 0 0 c d)) (y := .int .i64 (lessM 0 0 c d)) (by first | omega | (simp; done) | (simp; omega)) (by first | assumption | (simp [go_sem, *]; done)) (by first | assumption | (simp [go_sem, *]; done))
            have hB5 : Below w.heap.size w w5 := bel_trans (hB4.alloc (by first | omega | (simp; done) | (simp; omega)) _) hb5
            have hl5 := hB5.size
            clear hl4 hB4 f4x3b f4x3a f4x3 f4x2b f4x2a f4x2 f4x1b f4x1a f4x1 f4x0b f4x0a f4x0
            clear hb5
            go_wp2_with fail
            refine (HcFa.out _).mono ?_
            rintro e w6 ⟨rfl, hb6⟩
            obtain ⟨f6x0, f6x0a, f6x0b⟩ := bel_box hb6 (b := w1.heap.size) (x := .int .i64 (a)) (y := .int .i64 (b)) (by first | omega | (simp; done) | (simp; omega)) (by first | assumption | (simp [go_sem, *]; done)) (by first | assumption | (simp [go_sem, *]; done))
            obtain ⟨f6x1, f6x1a, f6x1b⟩ := bel_box hb6 (b := w1.heap.size + 1) (x := .int .i64 (c)) (y := .int .i64 (d)) (by first | omega | (simp; done) | (simp; omega)) (by first | assumption | (simp [go_sem, *]; done)) (by first | assumption | (simp [go_sem, *]; done))
            obtain ⟨f6x2, f6x2a, f6x2b⟩ := bel_box hb6 (b := w2.heap.size) (x := .int .i64 (0)) (y := .int .i64 (0)) (by first | omega | (simp; done) | (simp; omega)) (by first | assumption | (simp [go_sem, *]; done)) (by first | assumption | (simp [go_sem, *]; done))
            obtain ⟨f6x3, f6x3a, f6x3b⟩ := bel_box hb6 (b := w3.heap.size) (x := .int .i64 (0)) (y := .int .i64 (0)) (by first | omega | (simp; done) | (simp; omega)) (by first | assumption | (simp [go_sem, *]; done)) (by first | assumption | (simp [go_sem, *]; done))
            obtain ⟨f6x4, f6x4a, f6x4b⟩ := bel_box hb6 (b := w4.heap.size) (x := .int .i64 (lessC 0 0 c d)) (y := .int .i64 (lessM 0 0 c d)) (by first | omega | (simp; done) | (simp; omega)) (by first | assumption | (simp [go_sem, *]; done)) (by first | assumption | (simp [go_sem, *]; done))
            obtain ⟨f6x5, f6x5a, f6x5b⟩ := bel_box hb6 (b := w5.heap.size) (x := .int .i64 (maxI a c)) (y := .int .i64 (maxI b d)) (by first | omega | (simp; done) | (simp; omega)) (by first | assumption | (simp [go_sem, *]; done)) (by first | assumption | (simp [go_sem, *]; done))
            have hB6 : Below w.heap.size w w6 := bel_trans (hB5.alloc (by first | omega | (simp; done) | (simp; omega)) _) hb6
            have hl6 := hB6.size
            clear hl5 hB5 f5x4b f5x4a f5x4 f5x3b f5x3a f5x3 f5x2b f5x2a f5x2 f5x1b f5x1a f5x1 f5x0b f5x0a f5x0
            clear hb6
            rcases hmx with hm1 | ⟨hm1, hm2⟩
            all_goals (
              go_wp2_with fail
              refine (HcFc.out _).mono ?_
              rintro e w7 ⟨rfl, hb7⟩
              obtain ⟨f7x0, f7x0a, f7x0b⟩ := bel_box hb7 (b := w1.heap.size) (x := .int .i64 (a)) (y := .int .i64 (b)) (by first | omega | (simp; done) | (simp; omega)) (by first | assumption | (simp [go_sem, *]; done)) (by first | assumption | (simp [go_sem, *]; done))
              obtain ⟨f7x1, f7x1a, f7x1b⟩ := bel_box hb7 (b := w1.heap.size + 1) (x := .int .i64 (c)) (y := .int .i64 (d)) (by first | omega | (simp; done) | (simp; omega)) (by first | assumption | (simp [go_sem, *]; done)) (by first | assumption | (simp [go_sem, *]; done))
              obtain ⟨f7x2, f7x2a, f7x2b⟩ := bel_box hb7 (b := w2.heap.size) (x := .int .i64 (0)) (y := .int .i64 (0)) (by first | omega | (simp; done) | (simp; omega)) (by first | assumption | (simp [go_sem, *]; done)) (by first | assumption | (simp [go_sem, *]; done))
              obtain ⟨f7x3, f7x3a, f7x3b⟩ := bel_box hb7 (b := w3.heap.size) (x := .int .i64 (0)) (y := .int .i64 (0)) (by first | omega | (simp; done) | (simp; omega)) (by first | assumption | (simp [go_sem, *]; done)) (by first | assumption | (simp [go_sem, *]; done))
              obtain ⟨f7x4, f7x4a, f7x4b⟩ := bel_box hb7 (b := w4.heap.size) (x := .int .i64 (lessC 0 0 c d)) (y := .int .i64 (lessM 0 0 c d)) (by first | omega | (simp; done) | (simp; omega)) (by first | assumption | (simp [go_sem, *]; done)) (by first | assumption | (simp [go_sem, *]; done))
              obtain ⟨f7x5, f7x5a, f7x5b⟩ := bel_box hb7 (b := w5.heap.size) (x := .int .i64 (maxI a c)) (y := .int .i64 (maxI b d)) (by first | omega | (simp; done) | (simp; omega)) (by first | assumption | (simp [go_sem, *]; done)) (by first | assumption | (simp [go_sem, *]; done))
              have hB7 : Below w.heap.size w w7 := bel_trans hB6 hb7
              have hl7 := hB7.size
              clear hl6 hB6 f6x5b f6x5a f6x5 f6x4b f6x4a f6x4 f6x3b f6x3a f6x3 f6x2b f6x2a f6x2 f6x1b f6x1a f6x1 f6x0b f6x0a f6x0
              clear hb7
              go_wp2_with fail
              refine (HcSl.out _).mono ?_
              rintro e w8 ⟨rfl, hb8⟩
              obtain ⟨f8x0, f8x0a, f8x0b⟩ := bel_box hb8 (b := w1.heap.size) (x := .int .i64 (a)) (y := .int .i64 (b)) (by first | omega | (simp; done) | (simp; omega)) (by first | assumption | (simp [go_sem, *]; done)) (by first | assumption | (simp [go_sem, *]; done))
              obtain ⟨f8x1, f8x1a, f8x1b⟩ := bel_box hb8 (b := w1.heap.size + 1) (x := .int .i64 (c)) (y := .int .i64 (d)) (by first | omega | (simp; done) | (simp; omega)) (by first | assumption | (simp [go_sem, *]; done)) (by first | assumption | (simp [go_sem, *]; done))
              obtain ⟨f8x2, f8x2a, f8x2b⟩ := bel_box hb8 (b := w2.heap.size) (x := .int .i64 (0)) (y := .int .i64 (0)) (by first | omega | (simp; done) | (simp; omega)) (by first | assumption | (simp [go_sem, *]; done)) (by first | assumption | (simp [go_sem, *]; done))
              obtain ⟨f8x3, f8x3a, f8x3b⟩ := bel_box hb8 (b := w3.heap.size) (x := .int .i64 (0)) (y := .int .i64 (0)) (by first | omega | (simp; done) | (simp; omega)) (by first | assumption | (simp [go_sem, *]; done)) (by first | assumption | (simp [go_sem, *]; done))
              obtain ⟨f8x4, f8x4a, f8x4b⟩ := bel_box hb8 (b := w4.heap.size) (x := .int .i64 (lessC 0 0 c d)) (y := .int .i64 (lessM 0 0 c d)) (by first | omega | (simp; done) | (simp; omega)) (by first | assumption | (simp [go_sem, *]; done)) (by first | assumption | (simp [go_sem, *]; done))
              obtain ⟨f8x5, f8x5a, f8x5b⟩ := bel_box hb8 (b := w5.heap.size) (x := .int .i64 (maxI a c)) (y := .int .i64 (maxI b d)) (by first | omega | (simp; done) | (simp; omega)) (by first | assumption | (simp [go_sem, *]; done)) (by first | assumption | (simp [go_sem, *]; done))
              have hB8 : Below w.heap.size w w8 := bel_trans hB7 hb8
              have hl8 := hB8.size
              clear hl7 hB7 f7x5b f7x5a f7x5 f7x4b f7x4a f7x4 f7x3b f7x3a f7x3 f7x2b f7x2a f7x2 f7x1b f7x1a f7x1 f7x0b f7x0a f7x0
              clear hb8
              go_wp2_with fail
              refine (HcSlS.out _).mono ?_
              rintro e w9 ⟨rfl, hb9⟩
              obtain ⟨f9x0, f9x0a, f9x0b⟩ := bel_box hb9 (b := w1.heap.size) (x := .int .i64 (a)) (y := .int .i64 (b)) (by first | omega | (simp; done) | (simp; omega)) (by first | assumption | (simp [go_sem, *]; done)) (by first | assumption | (simp [go_sem, *]; done))
              obtain ⟨f9x1, f9x1a, f9x1b⟩ := bel_box hb9 (b := w1.heap.size + 1) (x := .int .i64 (c)) (y := .int .i64 (d)) (by first | omega | (simp; done) | (simp; omega)) (by first | assumption | (simp [go_sem, *]; done)) (by first | assumption | (simp [go_sem, *]; done))
              obtain ⟨f9x2, f9x2a, f9x2b⟩ := bel_box hb9 (b := w2.heap.size) (x := .int .i64 (0)) (y := .int .i64 (0)) (by first | omega | (simp; done) | (simp; omega)) (by first | assumption | (simp [go_sem, *]; done)) (by first | assumption | (simp [go_sem, *]; done))
              obtain ⟨f9x3, f9x3a, f9x3b⟩ := bel_box hb9 (b := w3.heap.size) (x := .int .i64 (0)) (y := .int .i64 (0)) (by first | omega | (simp; done) | (simp; omega)) (by first | assumption | (simp [go_sem, *]; done)) (by first | assumption | (simp [go_sem, *]; done))
              obtain ⟨f9x4, f9x4a, f9x4b⟩ := bel_box hb9 (b := w4.heap.size) (x := .int .i64 (lessC 0 0 c d)) (y := .int .i64 (lessM 0 0 c d)) (by first | omega | (simp; done) | (simp; omega)) (by first | assumption | (simp [go_sem, *]; done)) (by first | assumption | (simp [go_sem, *]; done))
              obtain ⟨f9x5, f9x5a, f9x5b⟩ := bel_box hb9 (b := w5.heap.size) (x := .int .i64 (maxI a c)) (y := .int .i64 (maxI b d)) (by first | omega | (simp; done) | (simp; omega)) (by first | assumption | (simp [go_sem, *]; done)) (by first | assumption | (simp [go_sem, *]; done))
              have hB9 : Below w.heap.size w w9 := bel_trans hB8 hb9
              have hl9 := hB9.size
              clear hl8 hB8 f8x5b f8x5a f8x5 f8x4b f8x4a f8x4 f8x3b f8x3a f8x3 f8x2b f8x2a f8x2 f8x1b f8x1a f8x1 f8x0b f8x0a f8x0
              clear hb9
              go_wp2_with fail
              refine (HcOk.out _).mono ?_
              rintro e w10 ⟨rfl, hb10⟩
              obtain ⟨f10x0, f10x0a, f10x0b⟩ := bel_box hb10 (b := w1.heap.size) (x := .int .i64 (a)) (y := .int .i64 (b)) (by first | omega | (simp; done) | (simp; omega)) (by first | assumption | (simp [go_sem, *]; done)) (by first | assumption | (simp [go_sem, *]; done))
              obtain ⟨f10x1, f10x1a, f10x1b⟩ := bel_box hb10 (b := w1.heap.size + 1) (x := .int .i64 (c)) (y := .int .i64 (d)) (by first | omega | (simp; done) | (simp; omega)) (by first | assumption | (simp [go_sem, *]; done)) (by first | assumption | (simp [go_sem, *]; done))
              obtain ⟨f10x2, f10x2a, f10x2b⟩ := bel_box hb10 (b := w2.heap.size) (x := .int .i64 (0)) (y := .int .i64 (0)) (by first | omega | (simp; done) | (simp; omega)) (by first | assumption | (simp [go_sem, *]; done)) (by first | assumption | (simp [go_sem, *]; done))
              obtain ⟨f10x3, f10x3a, f10x3b⟩ := bel_box hb10 (b := w3.heap.size) (x := .int .i64 (0)) (y := .int .i64 (0)) (by first | omega | (simp; done) | (simp; omega)) (by first | assumption | (simp [go_sem, *]; done)) (by first | assumption | (simp [go_sem, *]; done))
              obtain ⟨f10x4, f10x4a, f10x4b⟩ := bel_box hb10 (b := w4.heap.size) (x := .int .i64 (lessC 0 0 c d)) (y := .int .i64 (lessM 0 0 c d)) (by first | omega | (simp; done) | (simp; omega)) (by first | assumption | (simp [go_sem, *]; done)) (by first | assumption | (simp [go_sem, *]; done))
              obtain ⟨f10x5, f10x5a, f10x5b⟩ := bel_box hb10 (b := w5.heap.size) (x := .int .i64 (maxI a c)) (y := .int .i64 (maxI b d)) (by first | omega | (simp; done) | (simp; omega)) (by first | assumption | (simp [go_sem, *]; done)) (by first | assumption | (simp [go_sem, *]; done))
              have hB10 : Below w.heap.size w w10 := bel_trans hB9 hb10
              have hl10 := hB10.size
              clear hl9 hB9 f9x5b f9x5a f9x5 f9x4b f9x4a f9x4 f9x3b f9x3a f9x3 f9x2b f9x2a f9x2 f9x1b f9x1a f9x1 f9x0b f9x0a f9x0
              clear hb10
              go_wp2_with fail
              refine (HcOk2.out _).mono ?_
              rintro e w11 ⟨rfl, hb11⟩
              obtain ⟨f11x0, f11x0a, f11x0b⟩ := bel_box hb11 (b := w1.heap.size) (x := .int .i64 (a)) (y := .int .i64 (b)) (by first | omega | (simp; done) | (simp; omega)) (by first | assumption | (simp [go_sem, *]; done)) (by first | assumption | (simp [go_sem, *]; done))
              obtain ⟨f11x1, f11x1a, f11x1b⟩ := bel_box hb11 (b := w1.heap.size + 1) (x := .int .i64 (c)) (y := .int .i64 (d)) (by first | omega | (simp; done) | (simp; omega)) (by first | assumption | (simp [go_sem, *]; done)) (by first | assumption | (simp [go_sem, *]; done))
              obtain ⟨f11x2, f11x2a, f11x2b⟩ := bel_box hb11 (b := w2.heap.size) (x := .int .i64 (0)) (y := .int .i64 (0)) (by first | omega | (simp; done) | (simp; omega)) (by first | assumption | (simp [go_sem, *]; done)) (by first | assumption | (simp [go_sem, *]; done))
              obtain ⟨f11x3, f11x3a, f11x3b⟩ := bel_box hb11 (b := w3.heap.size) (x := .int .i64 (0)) (y := .int .i64 (0)) (by first | omega | (simp; done) | (simp; omega)) (by first | assumption | (simp [go_sem, *]; done)) (by first | assumption | (simp [go_sem, *]; done))
              obtain ⟨f11x4, f11x4a, f11x4b⟩ := bel_box hb11 (b := w4.heap.size) (x := .int .i64 (lessC 0 0 c d)) (y := .int .i64 (lessM 0 0 c d)) (by first | omega | (simp; done) | (simp; omega)) (by first | assumption | (simp [go_sem, *]; done)) (by first | assumption | (simp [go_sem, *]; done))
              obtain ⟨f11x5, f11x5a, f11x5b⟩ := bel_box hb11 (b := w5.heap.size) (x := .int .i64 (maxI a c)) (y := .int .i64 (maxI b d)) (by first | omega | (simp; done) | (simp; omega)) (by first | assumption | (simp [go_sem, *]; done)) (by first | assumption | (simp [go_sem, *]; done))
              have hB11 : Below w.heap.size w w11 := bel_trans hB10 hb11
              have hl11 := hB11.size
              clear hl10 hB10 f10x5b f10x5a f10x5 f10x4b f10x4a f10x4 f10x3b f10x3a f10x3 f10x2b f10x2a f10x2 f10x1b f10x1a f10x1 f10x0b f10x0a f10x0
              clear hb11
              go_wp2_with fail
              refine (HcAl.out _).mono ?_
              rintro e w12 ⟨rfl, hb12⟩
              obtain ⟨f12x0, f12x0a, f12x0b⟩ := bel_box hb12 (b := w1.heap.size) (x := .int .i64 (a)) (y := .int .i64 (b)) (by first | omega | (simp; done) | (simp; omega)) (by first | assumption | (simp [go_sem, *]; done)) (by first | assumption | (simp [go_sem, *]; done))
              obtain ⟨f12x1, f12x1a, f12x1b⟩ := bel_box hb12 (b := w1.heap.size + 1) (x := .int .i64 (c)) (y := .int .i64 (d)) (by first | omega | (simp; done) | (simp; omega)) (by first | assumption | (simp [go_sem, *]; done)) (by first | assumption | (simp [go_sem, *]; done))
              obtain ⟨f12x2, f12x2a, f12x2b⟩ := bel_box hb12 (b := w2.heap.size) (x := .int .i64 (0)) (y := .int .i64 (0)) (by first | omega | (simp; done) | (simp; omega)) (by first | assumption | (simp [go_sem, *]; done)) (by first | assumption | (simp [go_sem, *]; done))
              obtain ⟨f12x3, f12x3a, f12x3b⟩ := bel_box hb12 (b := w3.heap.size) (x := .int .i64 (0)) (y := .int .i64 (0)) (by first | omega | (simp; done) | (simp; omega)) (by first | assumption | (simp [go_sem, *]; done)) (by first | assumption | (simp [go_sem, *]; done))
              obtain ⟨f12x4, f12x4a, f12x4b⟩ := bel_box hb12 (b := w4.heap.size) (x := .int .i64 (lessC 0 0 c d)) (y := .int .i64 (lessM 0 0 c d)) (by first | omega | (simp; done) | (simp; omega)) (by first | assumption | (simp [go_sem, *]; done)) (by first | assumption | (simp [go_sem, *]; done))
              obtain ⟨f12x5, f12x5a, f12x5b⟩ := bel_box hb12 (b := w5.heap.size) (x := .int .i64 (maxI a c)) (y := .int .i64 (maxI b d)) (by first | omega | (simp; done) | (simp; omega)) (by first | assumption | (simp [go_sem, *]; done)) (by first | assumption | (simp [go_sem, *]; done))
              obtain ⟨f12x6, f12x6a, f12x6b⟩ := bel_box hb12 (b := w11.heap.size) (x := .int .i64 (n * a)) (y := .int .i64 (n * b)) (by first | omega | (simp; done) | (simp; omega)) (by first | assumption | (simp [go_sem, *]; done)) (by first | assumption | (simp [go_sem, *]; done))
              obtain ⟨f12x7, f12x7a, f12x7b⟩ := bel_box hb12 (b := w11.heap.size + 1) (x := .int .i64 (n * a + a)) (y := .int .i64 (n * b + b)) (by first | omega | (simp; done) | (simp; omega)) (by first | assumption | (simp [go_sem, *]; done)) (by first | assumption | (simp [go_sem, *]; done))
              have hB12 : Below w.heap.size w w12 := bel_trans ((hB11.alloc (by first | omega | (simp; done) | (simp; omega)) _).alloc (by first | omega | (simp; done) | (simp; omega)) _) hb12
              have hl12 := hB12.size
              clear hl11 hB11 f11x5b f11x5a f11x5 f11x4b f11x4a f11x4 f11x3b f11x3a f11x3 f11x2b f11x2a f11x2 f11x1b f11x1a f11x1 f11x0b f11x0a f11x0
              clear hb12
              go_wp2_with fail
              refine (HcMo.out _).mono ?_
              rintro e w13 ⟨rfl, hb13⟩
              obtain ⟨f13x0, f13x0a, f13x0b⟩ := bel_box hb13 (b := w1.heap.size) (x := .int .i64 (a)) (y := .int .i64 (b)) (by first | omega | (simp; done) | (simp; omega)) (by first | assumption | (simp [go_sem, *]; done)) (by first | assumption | (simp [go_sem, *]; done))
              obtain ⟨f13x1, f13x1a, f13x1b⟩ := bel_box hb13 (b := w1.heap.size + 1) (x := .int .i64 (c)) (y := .int .i64 (d)) (by first | omega | (simp; done) | (simp; omega)) (by first | assumption | (simp [go_sem, *]; done)) (by first | assumption | (simp [go_sem, *]; done))
              obtain ⟨f13x2, f13x2a, f13x2b⟩ := bel_box hb13 (b := w2.heap.size) (x := .int .i64 (0)) (y := .int .i64 (0)) (by first | omega | (simp; done) | (simp; omega)) (by first | assumption | (simp [go_sem, *]; done)) (by first | assumption | (simp [go_sem, *]; done))
              obtain ⟨f13x3, f13x3a, f13x3b⟩ := bel_box hb13 (b := w3.heap.size) (x := .int .i64 (0)) (y := .int .i64 (0)) (by first | omega | (simp; done) | (simp; omega)) (by first | assumption | (simp [go_sem, *]; done)) (by first | assumption | (simp [go_sem, *]; done))
              obtain ⟨f13x4, f13x4a, f13x4b⟩ := bel_box hb13 (b := w4.heap.size) (x := .int .i64 (lessC 0 0 c d)) (y := .int .i64 (lessM 0 0 c d)) (by first | omega | (simp; done) | (simp; omega)) (by first | assumption | (simp [go_sem, *]; done)) (by first | assumption | (simp [go_sem, *]; done))
              obtain ⟨f13x5, f13x5a, f13x5b⟩ := bel_box hb13 (b := w5.heap.size) (x := .int .i64 (maxI a c)) (y := .int .i64 (maxI b d)) (by first | omega | (simp; done) | (simp; omega)) (by first | assumption | (simp [go_sem, *]; done)) (by first | assumption | (simp [go_sem, *]; done))
              obtain ⟨f13x6, f13x6a, f13x6b⟩ := bel_box hb13 (b := w11.heap.size) (x := .int .i64 (n * a)) (y := .int .i64 (n * b)) (by first | omega | (simp; done) | (simp; omega)) (by first | assumption | (simp [go_sem, *]; done)) (by first | assumption | (simp [go_sem, *]; done))
              obtain ⟨f13x7, f13x7a, f13x7b⟩ := bel_box hb13 (b := w11.heap.size + 1) (x := .int .i64 (n * a + a)) (y := .int .i64 (n * b + b)) (by first | omega | (simp; done) | (simp; omega)) (by first | assumption | (simp [go_sem, *]; done)) (by first | assumption | (simp [go_sem, *]; done))
              have hB13 : Below w.heap.size w w13 := bel_trans hB12 hb13
              have hl13 := hB13.size
              clear hl12 hB12 f12x7b f12x7a f12x7 f12x6b f12x6a f12x6 f12x5b f12x5a f12x5 f12x4b f12x4a f12x4 f12x3b f12x3a f12x3 f12x2b f12x2a f12x2 f12x1b f12x1a f12x1 f12x0b f12x0a f12x0
              clear hb13
              go_wp2_with fail
              go_ret
              exact ⟨rfl, hB13⟩)
        · skip
          by_cases ha : a = 0
          · subst ha
            by_cases hb : b = 0
            · subst hb
              have h3 : notB 0 0 = true := rfl
              obtain ⟨e1, e2⟩ := add_yes h4
              obtain ⟨l1, l2, l3⟩ := less_back h4
              simp only [Int.zero_add] at e1 e2 l1 l2 l3
              have cAdd : ∀ w, Calls Try.prog 13 #[.agg #[.int .i64 (0), .int .i64 (0)], .agg #[.int .i64 (c), .int .i64 (d)]] w fun e w' => e = .returned (.tuple #[.agg #[.int .i64 (c), .int .i64 (d)], .bool true]) ∧ Below w.heap.size w w' := fun w => by have := implAdd_any 0 0 c d w; rwa [e1, e2, h4] at this
              have cAddS : ∀ w, Calls Try.prog 14 #[.agg #[.int .i64 (0), .int .i64 (0)], .agg #[.int .i64 (c), .int .i64 (d)]] w fun e w' => e = .returned (.tuple #[.agg #[.int .i64 (c), .int .i64 (d)], .bool true]) ∧ Below w.heap.size w w' := fun w => by have := specAdd_any 0 0 c d w; rwa [e1, e2, h4] at this
              have cLess : ∀ w, Calls Try.prog 15 #[.agg #[.int .i64 (c), .int .i64 (d)], .agg #[.int .i64 (c), .int .i64 (d)]] w fun e w' => e = .returned (.tuple #[.agg #[.int .i64 (0), .int .i64 (0)], .bool true]) ∧ Below w.heap.size w w' := fun w => by have := implLess_any (c) (d) c d w; rwa [l1, l2, l3] at this
              have cMost : ∀ w, Calls Try.prog 16 #[.agg #[.int .i64 (0), .int .i64 (0)], .agg #[.int .i64 (c), .int .i64 (d)]] w fun e w' => e = .returned (.agg #[.int .i64 (maxI 0 c), .int .i64 (maxI 0 d)]) ∧ Below w.heap.size w w' := implMost_any 0 0 c d
              have cFa : ∀ w, Calls Try.prog 17 #[.agg #[.int .i64 (0), .int .i64 (0)], .agg #[.int .i64 (maxI 0 c), .int .i64 (maxI 0 d)]] w fun e w' => e = .returned (.bool true) ∧ Below w.heap.size w w' := fun w => by have := implFits_any 0 0 (maxI 0 c) (maxI 0 d) w; rwa [(fit_most 0 0 c d).1] at this
              have cFc : ∀ w, Calls Try.prog 17 #[.agg #[.int .i64 (c), .int .i64 (d)], .agg #[.int .i64 (maxI 0 c), .int .i64 (maxI 0 d)]] w fun e w' => e = .returned (.bool true) ∧ Below w.heap.size w w' := fun w => by have := implFits_any c d (maxI 0 c) (maxI 0 d) w; rwa [(fit_most 0 0 c d).2] at this
              have cSl : ∀ w, Calls Try.prog 18 #[.agg #[.int .i64 (0), .int .i64 (0)], .agg #[.int .i64 (c), .int .i64 (d)]] w fun e w' => e = .returned (.int .i64 0) ∧ Below w.heap.size w w' := fun w => by have := implSlots_any 0 0 c d w; rwa [slots_none h3] at this
              have cSlS : ∀ w, Calls Try.prog 19 #[.agg #[.int .i64 (0), .int .i64 (0)], .agg #[.int .i64 (c), .int .i64 (d)]] w fun e w' => e = .returned (.int .i64 0) ∧ Below w.heap.size w w' := fun w => by have := specSlots_any 0 0 c d w; rwa [slots_none h3] at this
              have cOk : ∀ w, Calls Try.prog 20 #[.agg #[.int .i64 (0), .int .i64 (0)]] w fun e w' => e = .returned (.bool true) ∧ Below w.heap.size w w' := fun w => by have := specOk_any 0 0 w; rwa [h1] at this
              have cOk2 : ∀ w, Calls Try.prog 20 #[.agg #[.int .i64 (c), .int .i64 (d)]] w fun e w' => e = .returned (.bool true) ∧ Below w.heap.size w w' := fun w => by have := specOk_any c d w; rwa [h2] at this
              have hmx : ((maxI 0 c != 0) = false) ∨ ((maxI 0 c != 0) = true ∧ (maxI 0 c != c) = false) := by have := maxI_l 0 c; simp; omega
              have HcAdd := hidden cAdd; clear cAdd
              have HcAddS := hidden cAddS; clear cAddS
              have HcLess := hidden cLess; clear cLess
              have HcMost := hidden cMost; clear cMost
              have HcFa := hidden cFa; clear cFa
              have HcFc := hidden cFc; clear cFc
              have HcSl := hidden cSl; clear cSl
              have HcSlS := hidden cSlS; clear cSlS
              have HcOk := hidden cOk; clear cOk
              have HcOk2 := hidden cOk2; clear cOk2
              clear h1 h4 e1 e2 l1 l2 l3 h2 h3
              go_wp2_with fail
              refine (HcAdd.out _).mono ?_
              rintro e w2 ⟨rfl, hb2⟩
              obtain ⟨f2x0, f2x0a, f2x0b⟩ := bel_box hb2 (b := w1.heap.size) (x := .int .i64 (0)) (y := .int .i64 (0)) (by first | omega | (simp; done) | (simp; omega)) (by first | assumption | (simp [go_sem, *]; done)) (by first | assumption | (simp [go_sem, *]; done))
              obtain ⟨f2x1, f2x1a, f2x1b⟩ := bel_box hb2 (b := w1.heap.size + 1) (x := .int .i64 (c)) (y := .int .i64 (d)) (by first | omega | (simp; done) | (simp; omega)) (by first | assumption | (simp [go_sem, *]; done)) (by first | assumption | (simp [go_sem, *]; done))
              have hB2 : Below w.heap.size w w2 := bel_trans ((hB1.alloc (by first | omega | (simp; done) | (simp; omega)) _).alloc (by first | omega | (simp; done) | (simp; omega)) _) hb2
              have hl2 := hB2.size
              clear hl1 hB1
              clear hb2
              go_wp2_with fail
              refine (HcAddS.out _).mono ?_
              rintro e w3 ⟨rfl, hb3⟩
              obtain ⟨f3x0, f3x0a, f3x0b⟩ := bel_box hb3 (b := w1.heap.size) (x := .int .i64 (0)) (y := .int .i64 (0)) (by first | omega | (simp; done) | (simp; omega)) (by first | assumption | (simp [go_sem, *]; done)) (by first | assumption | (simp [go_sem, *]; done))
              obtain ⟨f3x1, f3x1a, f3x1b⟩ := bel_box hb3 (b := w1.heap.size + 1) (x := .int .i64 (c)) (y := .int .i64 (d)) (by first | omega | (simp; done) | (simp; omega)) (by first | assumption | (simp [go_sem, *]; done)) (by first | assumption | (simp [go_sem, *]; done))
              obtain ⟨f3x2, f3x2a, f3x2b⟩ := bel_box hb3 (b := w2.heap.size) (x := .int .i64 (c)) (y := .int .i64 (d)) (by first | omega | (simp; done) | (simp; omega)) (by first | assumption | (simp [go_sem, *]; done)) (by first | assumption | (simp [go_sem, *]; done))
              have hB3 : Below w.heap.size w w3 := bel_trans (hB2.alloc (by first | omega | (simp; done) | (simp; omega)) _) hb3
              have hl3 := hB3.size
              clear hl2 hB2 f2x1b f2x1a f2x1 f2x0b f2x0a f2x0
              clear hb3
              go_wp2_with fail
              refine (HcLess.out _).mono ?_
              rintro e w4 ⟨rfl, hb4⟩
              obtain ⟨f4x0, f4x0a, f4x0b⟩ := bel_box hb4 (b := w1.heap.size) (x := .int .i64 (0)) (y := .int .i64 (0)) (by first | omega | (simp; done) | (simp; omega)) (by first | assumption | (simp [go_sem, *]; done)) (by first | assumption | (simp [go_sem, *]; done))
              obtain ⟨f4x1, f4x1a, f4x1b⟩ := bel_box hb4 (b := w1.heap.size + 1) (x := .int .i64 (c)) (y := .int .i64 (d)) (by first | omega | (simp; done) | (simp; omega)) (by first | assumption | (simp [go_sem, *]; done)) (by first | assumption | (simp [go_sem, *]; done))
              obtain ⟨f4x2, f4x2a, f4x2b⟩ := bel_box hb4 (b := w2.heap.size) (x := .int .i64 (c)) (y := .int .i64 (d)) (by first | omega | (simp; done) | (simp; omega)) (by first | assumption | (simp [go_sem, *]; done)) (by first | assumption | (simp [go_sem, *]; done))
              obtain ⟨f4x3, f4x3a, f4x3b⟩ := bel_box hb4 (b := w3.heap.size) (x := .int .i64 (c)) (y := .int .i64 (d)) (by first | omega | (simp; done) | (simp; omega)) (by first | assumption | (simp [go_sem, *]; done)) (by first | assumption | (simp [go_sem, *]; done))
              have hB4 : Below w.heap.size w w4 := bel_trans (hB3.alloc (by first | omega | (simp; done) | (simp; omega)) _) hb4
              have hl4 := hB4.size
              clear hl3 hB3 f3x2b f3x2a f3x2 f3x1b f3x1a f3x1 f3x0b f3x0a f3x0
              clear hb4
              go_wp2_with fail
              refine (HcMost.out _).mono ?_
              rintro e w5 ⟨rfl, hb5⟩
              obtain ⟨f5x0, f5x0a, f5x0b⟩ := bel_box hb5 (b := w1.heap.size) (x := .int .i64 (0)) (y := .int .i64 (0)) (by first | omega | (simp; done) | (simp; omega)) (by first | assumption | (simp [go_sem, *]; done)) (by first | assumption | (simp [go_sem, *]; done))
              obtain ⟨f5x1, f5x1a, f5x1b⟩ := bel_box hb5 (b := w1.heap.size + 1) (x := .int .i64 (c)) (y := .int .i64 (d)) (by first | omega | (simp; done) | (simp; omega)) (by first | assumption | (simp [go_sem, *]; done)) (by first | assumption | (simp [go_sem, *]; done))
              obtain ⟨f5x2, f5x2a, f5x2b⟩ := bel_box hb5 (b := w2.heap.size) (x := .int .i64 (c)) (y := .int .i64 (d)) (by first | omega | (simp; done) | (simp; omega)) (by first | assumption | (simp [go_sem, *]; done)) (by first | assumption | (simp [go_sem, *]; done))
              obtain ⟨f5x3, f5x3a, f5x3b⟩ := bel_box hb5 (b := w3.heap.size) (x := .int .i64 (c)) (y := .int .i64 (d)) (by first | omega | (simp; done) | (simp; omega)) (by first | assumption | (simp [go_sem, *]; done)) (by first | assumption | (simp [go_sem, *]; done))
              obtain ⟨f5x4, f5x4a, f5x4b⟩ := bel_box hb5 (b := w4.heap.size) (x := .int .i64 (0)) (y := .int .i64 (0)) (by first | omega | (simp; done) | (simp; omega)) (by first | assumption | (simp [go_sem, *]; done)) (by first | assumption | (simp [go_sem, *]; done))
              have hB5 : Below w.heap.size w w5 := bel_trans (hB4.alloc (by first | omega | (simp; done) | (simp; omega)) _) hb5
              have hl5 := hB5.size
              clear hl4 hB4 f4x3b f4x3a f4x3 f4x2b f4x2a f4x2 f4x1b f4x1a f4x1 f4x0b f4x0a f4x0
              clear hb5
              go_wp2_with fail
              refine (HcFa.out _).mono ?_
              rintro e w6 ⟨rfl, hb6⟩
              obtain ⟨f6x0, f6x0a, f6x0b⟩ := bel_box hb6 (b := w1.heap.size) (x := .int .i64 (0)) (y := .int .i64 (0)) (by first | omega | (simp; done) | (simp; omega)) (by first | assumption | (simp [go_sem, *]; done)) (by first | assumption | (simp [go_sem, *]; done))
              obtain ⟨f6x1, f6x1a, f6x1b⟩ := bel_box hb6 (b := w1.heap.size + 1) (x := .int .i64 (c)) (y := .int .i64 (d)) (by first | omega | (simp; done) | (simp; omega)) (by first | assumption | (simp [go_sem, *]; done)) (by first | assumption | (simp [go_sem, *]; done))
              obtain ⟨f6x2, f6x2a, f6x2b⟩ := bel_box hb6 (b := w2.heap.size) (x := .int .i64 (c)) (y := .int .i64 (d)) (by first | omega | (simp; done) | (simp; omega)) (by first | assumption | (simp [go_sem, *]; done)) (by first | assumption | (simp [go_sem, *]; done))
              obtain ⟨f6x3, f6x3a, f6x3b⟩ := bel_box hb6 (b := w3.heap.size) (x := .int .i64 (c)) (y := .int .i64 (d)) (by first | omega | (simp; done) | (simp; omega)) (by first | assumption | (simp [go_sem, *]; done)) (by first | assumption | (simp [go_sem, *]; done))
              obtain ⟨f6x4, f6x4a, f6x4b⟩ := bel_box hb6 (b := w4.heap.size) (x := .int .i64 (0)) (y := .int .i64 (0)) (by first | omega | (simp; done) | (simp; omega)) (by first | assumption | (simp [go_sem, *]; done)) (by first | assumption | (simp [go_sem, *]; done))
              obtain ⟨f6x5, f6x5a, f6x5b⟩ := bel_box hb6 (b := w5.heap.size) (x := .int .i64 (maxI 0 c)) (y := .int .i64 (maxI 0 d)) (by first | omega | (simp; done) | (simp; omega)) (by first | assumption | (simp [go_sem, *]; done)) (by first | assumption | (simp [go_sem, *]; done))
              have hB6 : Below w.heap.size w w6 := bel_trans (hB5.alloc (by first | omega | (simp; done) | (simp; omega)) _) hb6
              have hl6 := hB6.size
              clear hl5 hB5 f5x4b f5x4a f5x4 f5x3b f5x3a f5x3 f5x2b f5x2a f5x2 f5x1b f5x1a f5x1 f5x0b f5x0a f5x0
              clear hb6
              rcases hmx with hm1 | ⟨hm1, hm2⟩
              all_goals (
                go_wp2_with fail
                refine (HcFc.out _).mono ?_
                rintro e w7 ⟨rfl, hb7⟩
                obtain ⟨f7x0, f7x0a, f7x0b⟩ := bel_box hb7 (b := w1.heap.size) (x := .int .i64 (0)) (y := .int .i64 (0)) (by first | omega | (simp; done) | (simp; omega)) (by first | assumption | (simp [go_sem, *]; done)) (by first | assumption | (simp [go_sem, *]; done))
                obtain ⟨f7x1, f7x1a, f7x1b⟩ := bel_box hb7 (b := w1.heap.size + 1) (x := .int .i64 (c)) (y := .int .i64 (d)) (by first | omega | (simp; done) | (simp; omega)) (by first | assumption | (simp [go_sem, *]; done)) (by first | assumption | (simp [go_sem, *]; done))
                obtain ⟨f7x2, f7x2a, f7x2b⟩ := bel_box hb7 (b := w2.heap.size) (x := .int .i64 (c)) (y := .int .i64 (d)) (by first | omega | (simp; done) | (simp; omega)) (by first | assumption | (simp [go_sem, *]; done)) (by first | assumption | (simp [go_sem, *]; done))
                obtain ⟨f7x3, f7x3a, f7x3b⟩ := bel_box hb7 (b := w3.heap.size) (x := .int .i64 (c)) (y := .int .i64 (d)) (by first | omega | (simp; done) | (simp; omega)) (by first | assumption | (simp [go_sem, *]; done)) (by first | assumption | (simp [go_sem, *]; done))
                obtain ⟨f7x4, f7x4a, f7x4b⟩ := bel_box hb7 (b := w4.heap.size) (x := .int .i64 (0)) (y := .int .i64 (0)) (by first | omega | (simp; done) | (simp; omega)) (by first | assumption | (simp [go_sem, *]; done)) (by first | assumption | (simp [go_sem, *]; done))
                obtain ⟨f7x5, f7x5a, f7x5b⟩ := bel_box hb7 (b := w5.heap.size) (x := .int .i64 (maxI 0 c)) (y := .int .i64 (maxI 0 d)) (by first | omega | (simp; done) | (simp; omega)) (by first | assumption | (simp [go_sem, *]; done)) (by first | assumption | (simp [go_sem, *]; done))
                have hB7 : Below w.heap.size w w7 := bel_trans hB6 hb7
                have hl7 := hB7.size
                clear hl6 hB6 f6x5b f6x5a f6x5 f6x4b f6x4a f6x4 f6x3b f6x3a f6x3 f6x2b f6x2a f6x2 f6x1b f6x1a f6x1 f6x0b f6x0a f6x0
                clear hb7
                go_wp2_with fail
                refine (HcSl.out _).mono ?_
                rintro e w8 ⟨rfl, hb8⟩
                obtain ⟨f8x0, f8x0a, f8x0b⟩ := bel_box hb8 (b := w1.heap.size) (x := .int .i64 (0)) (y := .int .i64 (0)) (by first | omega | (simp; done) | (simp; omega)) (by first | assumption | (simp [go_sem, *]; done)) (by first | assumption | (simp [go_sem, *]; done))
                obtain ⟨f8x1, f8x1a, f8x1b⟩ := bel_box hb8 (b := w1.heap.size + 1) (x := .int .i64 (c)) (y := .int .i64 (d)) (by first | omega | (simp; done) | (simp; omega)) (by first | assumption | (simp [go_sem, *]; done)) (by first | assumption | (simp [go_sem, *]; done))
                obtain ⟨f8x2, f8x2a, f8x2b⟩ := bel_box hb8 (b := w2.heap.size) (x := .int .i64 (c)) (y := .int .i64 (d)) (by first | omega | (simp; done) | (simp; omega)) (by first | assumption | (simp [go_sem, *]; done)) (by first | assumption | (simp [go_sem, *]; done))
                obtain ⟨f8x3, f8x3a, f8x3b⟩ := bel_box hb8 (b := w3.heap.size) (x := .int .i64 (c)) (y := .int .i64 (d)) (by first | omega | (simp; done) | (simp; omega)) (by first | assumption | (simp [go_sem, *]; done)) (by first | assumption | (simp [go_sem, *]; done))
                obtain ⟨f8x4, f8x4a, f8x4b⟩ := bel_box hb8 (b := w4.heap.size) (x := .int .i64 (0)) (y := .int .i64 (0)) (by first | omega | (simp; done) | (simp; omega)) (by first | assumption | (simp [go_sem, *]; done)) (by first | assumption | (simp [go_sem, *]; done))
                obtain ⟨f8x5, f8x5a, f8x5b⟩ := bel_box hb8 (b := w5.heap.size) (x := .int .i64 (maxI 0 c)) (y := .int .i64 (maxI 0 d)) (by first | omega | (simp; done) | (simp; omega)) (by first | assumption | (simp [go_sem, *]; done)) (by first | assumption | (simp [go_sem, *]; done))
                have hB8 : Below w.heap.size w w8 := bel_trans hB7 hb8
                have hl8 := hB8.size
                clear hl7 hB7 f7x5b f7x5a f7x5 f7x4b f7x4a f7x4 f7x3b f7x3a f7x3 f7x2b f7x2a f7x2 f7x1b f7x1a f7x1 f7x0b f7x0a f7x0
                clear hb8
                go_wp2_with fail
                refine (HcSlS.out _).mono ?_
                rintro e w9 ⟨rfl, hb9⟩
                obtain ⟨f9x0, f9x0a, f9x0b⟩ := bel_box hb9 (b := w1.heap.size) (x := .int .i64 (0)) (y := .int .i64 (0)) (by first | omega | (simp; done) | (simp; omega)) (by first | assumption | (simp [go_sem, *]; done)) (by first | assumption | (simp [go_sem, *]; done))
                obtain ⟨f9x1, f9x1a, f9x1b⟩ := bel_box hb9 (b := w1.heap.size + 1) (x := .int .i64 (c)) (y := .int .i64 (d)) (by first | omega | (simp; done) | (simp; omega)) (by first | assumption | (simp [go_sem, *]; done)) (by first | assumption | (simp [go_sem, *]; done))
                obtain ⟨f9x2, f9x2a, f9x2b⟩ := bel_box hb9 (b := w2.heap.size) (x := .int .i64 (c)) (y := .int .i64 (d)) (by first | omega | (simp; done) | (simp; omega)) (by first | assumption | (simp [go_sem, *]; done)) (by first | assumption | (simp [go_sem, *]; done))
                obtain ⟨f9x3, f9x3a, f9x3b⟩ := bel_box hb9 (b := w3.heap.size) (x := .int .i64 (c)) (y := .int .i64 (d)) (by first | omega | (simp; done) | (simp; omega)) (by first | assumption | (simp [go_sem, *]; done)) (by first | assumption | (simp [go_sem, *]; done))
                obtain ⟨f9x4, f9x4a, f9x4b⟩ := bel_box hb9 (b := w4.heap.size) (x := .int .i64 (0)) (y := .int .i64 (0)) (by first | omega | (simp; done) | (simp; omega)) (by first | assumption | (simp [go_sem, *]; done)) (by first | assumption | (simp [go_sem, *]; done))
                obtain ⟨f9x5, f9x5a, f9x5b⟩ := bel_box hb9 (b := w5.heap.size) (x := .int .i64 (maxI 0 c)) (y := .int .i64 (maxI 0 d)) (by first | omega | (simp; done) | (simp; omega)) (by first | assumption | (simp [go_sem, *]; done)) (by first | assumption | (simp [go_sem, *]; done))
                have hB9 : Below w.heap.size w w9 := bel_trans hB8 hb9
                have hl9 := hB9.size
                clear hl8 hB8 f8x5b f8x5a f8x5 f8x4b f8x4a f8x4 f8x3b f8x3a f8x3 f8x2b f8x2a f8x2 f8x1b f8x1a f8x1 f8x0b f8x0a f8x0
                clear hb9
                go_wp2_with fail
                refine (HcOk.out _).mono ?_
                rintro e w10 ⟨rfl, hb10⟩
                obtain ⟨f10x0, f10x0a, f10x0b⟩ := bel_box hb10 (b := w1.heap.size) (x := .int .i64 (0)) (y := .int .i64 (0)) (by first | omega | (simp; done) | (simp; omega)) (by first | assumption | (simp [go_sem, *]; done)) (by first | assumption | (simp [go_sem, *]; done))
                obtain ⟨f10x1, f10x1a, f10x1b⟩ := bel_box hb10 (b := w1.heap.size + 1) (x := .int .i64 (c)) (y := .int .i64 (d)) (by first | omega | (simp; done) | (simp; omega)) (by first | assumption | (simp [go_sem, *]; done)) (by first | assumption | (simp [go_sem, *]; done))
                obtain ⟨f10x2, f10x2a, f10x2b⟩ := bel_box hb10 (b := w2.heap.size) (x := .int .i64 (c)) (y := .int .i64 (d)) (by first | omega | (simp; done) | (simp; omega)) (by first | assumption | (simp [go_sem, *]; done)) (by first | assumption | (simp [go_sem, *]; done))
                obtain ⟨f10x3, f10x3a, f10x3b⟩ := bel_box hb10 (b := w3.heap.size) (x := .int .i64 (c)) (y := .int .i64 (d)) (by first | omega | (simp; done) | (simp; omega)) (by first | assumption | (simp [go_sem, *]; done)) (by first | assumption | (simp [go_sem, *]; done))
                obtain ⟨f10x4, f10x4a, f10x4b⟩ := bel_box hb10 (b := w4.heap.size) (x := .int .i64 (0)) (y := .int .i64 (0)) (by first | omega | (simp; done) | (simp; omega)) (by first | assumption | (simp [go_sem, *]; done)) (by first | assumption | (simp [go_sem, *]; done))
                obtain ⟨f10x5, f10x5a, f10x5b⟩ := bel_box hb10 (b := w5.heap.size) (x := .int .i64 (maxI 0 c)) (y := .int .i64 (maxI 0 d)) (by first | omega | (simp; done) | (simp; omega)) (by first | assumption | (simp [go_sem, *]; done)) (by first | assumption | (simp [go_sem, *]; done))
                have hB10 : Below w.heap.size w w10 := bel_trans hB9 hb10
                have hl10 := hB10.size
                clear hl9 hB9 f9x5b f9x5a f9x5 f9x4b f9x4a f9x4 f9x3b f9x3a f9x3 f9x2b f9x2a f9x2 f9x1b f9x1a f9x1 f9x0b f9x0a f9x0
                clear hb10
                go_wp2_with fail
                refine (HcOk2.out _).mono ?_
                rintro e w11 ⟨rfl, hb11⟩
                obtain ⟨f11x0, f11x0a, f11x0b⟩ := bel_box hb11 (b := w1.heap.size) (x := .int .i64 (0)) (y := .int .i64 (0)) (by first | omega | (simp; done) | (simp; omega)) (by first | assumption | (simp [go_sem, *]; done)) (by first | assumption | (simp [go_sem, *]; done))
                obtain ⟨f11x1, f11x1a, f11x1b⟩ := bel_box hb11 (b := w1.heap.size + 1) (x := .int .i64 (c)) (y := .int .i64 (d)) (by first | omega | (simp; done) | (simp; omega)) (by first | assumption | (simp [go_sem, *]; done)) (by first | assumption | (simp [go_sem, *]; done))
                obtain ⟨f11x2, f11x2a, f11x2b⟩ := bel_box hb11 (b := w2.heap.size) (x := .int .i64 (c)) (y := .int .i64 (d)) (by first | omega | (simp; done) | (simp; omega)) (by first | assumption | (simp [go_sem, *]; done)) (by first | assumption | (simp [go_sem, *]; done))
                obtain ⟨f11x3, f11x3a, f11x3b⟩ := bel_box hb11 (b := w3.heap.size) (x := .int .i64 (c)) (y := .int .i64 (d)) (by first | omega | (simp; done) | (simp; omega)) (by first | assumption | (simp [go_sem, *]; done)) (by first | assumption | (simp [go_sem, *]; done))
                obtain ⟨f11x4, f11x4a, f11x4b⟩ := bel_box hb11 (b := w4.heap.size) (x := .int .i64 (0)) (y := .int .i64 (0)) (by first | omega | (simp; done) | (simp; omega)) (by first | assumption | (simp [go_sem, *]; done)) (by first | assumption | (simp [go_sem, *]; done))
                obtain ⟨f11x5, f11x5a, f11x5b⟩ := bel_box hb11 (b := w5.heap.size) (x := .int .i64 (maxI 0 c)) (y := .int .i64 (maxI 0 d)) (by first | omega | (simp; done) | (simp; omega)) (by first | assumption | (simp [go_sem, *]; done)) (by first | assumption | (simp [go_sem, *]; done))
                have hB11 : Below w.heap.size w w11 := bel_trans hB10 hb11
                have hl11 := hB11.size
                clear hl10 hB10 f10x5b f10x5a f10x5 f10x4b f10x4a f10x4 f10x3b f10x3a f10x3 f10x2b f10x2a f10x2 f10x1b f10x1a f10x1 f10x0b f10x0a f10x0
                clear hb11
                go_wp2_with fail
                go_ret
                exact ⟨rfl, hB11⟩)
            · have h3 : notB 0 b = false := by simp [notB, hb]
              obtain ⟨e1, e2⟩ := add_yes h4
              obtain ⟨l1, l2, l3⟩ := less_back h4
              simp only [Int.zero_add] at e1 e2 l1 l2 l3
              have cAdd : ∀ w, Calls Try.prog 13 #[.agg #[.int .i64 (0), .int .i64 (b)], .agg #[.int .i64 (c), .int .i64 (d)]] w fun e w' => e = .returned (.tuple #[.agg #[.int .i64 (c), .int .i64 (b + d)], .bool true]) ∧ Below w.heap.size w w' := fun w => by have := implAdd_any 0 b c d w; rwa [e1, e2, h4] at this
              have cAddS : ∀ w, Calls Try.prog 14 #[.agg #[.int .i64 (0), .int .i64 (b)], .agg #[.int .i64 (c), .int .i64 (d)]] w fun e w' => e = .returned (.tuple #[.agg #[.int .i64 (c), .int .i64 (b + d)], .bool true]) ∧ Below w.heap.size w w' := fun w => by have := specAdd_any 0 b c d w; rwa [e1, e2, h4] at this
              have cLess : ∀ w, Calls Try.prog 15 #[.agg #[.int .i64 (c), .int .i64 (b + d)], .agg #[.int .i64 (c), .int .i64 (d)]] w fun e w' => e = .returned (.tuple #[.agg #[.int .i64 (0), .int .i64 (b)], .bool true]) ∧ Below w.heap.size w w' := fun w => by have := implLess_any (c) (b + d) c d w; rwa [l1, l2, l3] at this
              have cMost : ∀ w, Calls Try.prog 16 #[.agg #[.int .i64 (0), .int .i64 (b)], .agg #[.int .i64 (c), .int .i64 (d)]] w fun e w' => e = .returned (.agg #[.int .i64 (maxI 0 c), .int .i64 (maxI b d)]) ∧ Below w.heap.size w w' := implMost_any 0 b c d
              have cFa : ∀ w, Calls Try.prog 17 #[.agg #[.int .i64 (0), .int .i64 (b)], .agg #[.int .i64 (maxI 0 c), .int .i64 (maxI b d)]] w fun e w' => e = .returned (.bool true) ∧ Below w.heap.size w w' := fun w => by have := implFits_any 0 b (maxI 0 c) (maxI b d) w; rwa [(fit_most 0 b c d).1] at this
              have cFc : ∀ w, Calls Try.prog 17 #[.agg #[.int .i64 (c), .int .i64 (d)], .agg #[.int .i64 (maxI 0 c), .int .i64 (maxI b d)]] w fun e w' => e = .returned (.bool true) ∧ Below w.heap.size w w' := fun w => by have := implFits_any c d (maxI 0 c) (maxI b d) w; rwa [(fit_most 0 b c d).2] at this
              obtain ⟨n, hn⟩ : ∃ n, slotsI 0 b c d = n := ⟨_, rfl⟩
              have hfit := slots_fit h1 h2 h3
              rw [hn] at hfit
              obtain ⟨n1, n2, n3, n4, n5, n6, n7⟩ := hfit
              simp only [Int.mul_zero, Int.add_zero] at n3 n4 n7
              obtain ⟨p1, p2, p3, p4⟩ := ok_iff.1 h1
              obtain ⟨q1, q2, q3, q4⟩ := ok_iff.1 h2
              have hz : ¬ n < 0 := by omega
              have cSl : ∀ w, Calls Try.prog 18 #[.agg #[.int .i64 (0), .int .i64 (b)], .agg #[.int .i64 (c), .int .i64 (d)]] w fun e w' => e = .returned (.int .i64 n) ∧ Below w.heap.size w w' := fun w => by have := implSlots_any 0 b c d w; rwa [hn] at this
              have cSlS : ∀ w, Calls Try.prog 19 #[.agg #[.int .i64 (0), .int .i64 (b)], .agg #[.int .i64 (c), .int .i64 (d)]] w fun e w' => e = .returned (.int .i64 n) ∧ Below w.heap.size w w' := fun w => by have := specSlots_any 0 b c d w; rwa [hn] at this
              have ff : fitB (0) (n * b) c d = true := fit_iff.2 ⟨n4, n6⟩
              have fg : fitB (0) (n * b + b) c d = false := by simpa [fitB] using n7
              have cAl : ∀ w, Calls Try.prog 17 #[.agg #[.int .i64 (0), .int .i64 (n * b)], .agg #[.int .i64 (c), .int .i64 (d)]] w fun e w' => e = .returned (.bool true) ∧ Below w.heap.size w w' := fun w => by have := implFits_any (0) (n * b) c d w; rwa [ff] at this
              have cMo : ∀ w, Calls Try.prog 17 #[.agg #[.int .i64 (0), .int .i64 (n * b + b)], .agg #[.int .i64 (c), .int .i64 (d)]] w fun e w' => e = .returned (.bool false) ∧ Below w.heap.size w w' := fun w => by have := implFits_any (0) (n * b + b) c d w; rwa [fg] at this
              clear hn n7 ff fg
              have cOk : ∀ w, Calls Try.prog 20 #[.agg #[.int .i64 (0), .int .i64 (b)]] w fun e w' => e = .returned (.bool true) ∧ Below w.heap.size w w' := fun w => by have := specOk_any 0 b w; rwa [h1] at this
              have cOk2 : ∀ w, Calls Try.prog 20 #[.agg #[.int .i64 (c), .int .i64 (d)]] w fun e w' => e = .returned (.bool true) ∧ Below w.heap.size w w' := fun w => by have := specOk_any c d w; rwa [h2] at this
              have hmx : ((maxI 0 c != 0) = false) ∨ ((maxI 0 c != 0) = true ∧ (maxI 0 c != c) = false) := by have := maxI_l 0 c; simp; omega
              have HcAdd := hidden cAdd; clear cAdd
              have HcAddS := hidden cAddS; clear cAddS
              have HcLess := hidden cLess; clear cLess
              have HcMost := hidden cMost; clear cMost
              have HcFa := hidden cFa; clear cFa
              have HcFc := hidden cFc; clear cFc
              have HcSl := hidden cSl; clear cSl
              have HcSlS := hidden cSlS; clear cSlS
              have HcOk := hidden cOk; clear cOk
              have HcOk2 := hidden cOk2; clear cOk2
              have HcAl := hidden cAl; clear cAl
              have HcMo := hidden cMo; clear cMo
              clear h1 h4 e1 e2 l1 l2 l3 h2 h3
              go_wp2_with fail
              refine (HcAdd.out _).mono ?_
              rintro e w2 ⟨rfl, hb2⟩
              obtain ⟨f2x0, f2x0a, f2x0b⟩ := bel_box hb2 (b := w1.heap.size) (x := .int .i64 (0)) (y := .int .i64 (b)) (by first | omega | (simp; done) | (simp; omega)) (by first | assumption | (simp [go_sem, *]; done)) (by first | assumption | (simp [go_sem, *]; done))
              obtain ⟨f2x1, f2x1a, f2x1b⟩ := bel_box hb2 (b := w1.heap.size + 1) (x := .int .i64 (c)) (y := .int .i64 (d)) (by first | omega | (simp; done) | (simp; omega)) (by first | assumption | (simp [go_sem, *]; done)) (by first | assumption | (simp [go_sem, *]; done))
              have hB2 : Below w.heap.size w w2 := bel_trans ((hB1.alloc (by first | omega | (simp; done) | (simp; omega)) _).alloc (by first | omega | (simp; done) | (simp; omega)) _) hb2
              have hl2 := hB2.size
              clear hl1 hB1
              clear hb2
              go_wp2_with fail
              refine (HcAddS.out _).mono ?_
              rintro e w3 ⟨rfl, hb3⟩
              obtain ⟨f3x0, f3x0a, f3x0b⟩ := bel_box hb3 (b := w1.heap.size) (x := .int .i64 (0)) (y := .int .i64 (b)) (by first | omega | (simp; done) | (simp; omega)) (by first | assumption | (simp [go_sem, *]; done)) (by first | assumption | (simp [go_sem, *]; done))
              obtain ⟨f3x1, f3x1a, f3x1b⟩ := bel_box hb3 (b := w1.heap.size + 1) (x := .int .i64 (c)) (y := .int .i64 (d)) (by first | omega | (simp; done) | (simp; omega)) (by first | assumption | (simp [go_sem, *]; done)) (by first | assumption | (simp [go_sem, *]; done))
              obtain ⟨f3x2, f3x2a, f3x2b⟩ := bel_box hb3 (b := w2.heap.size) (x := .int .i64 (c)) (y := .int .i64 (b + d)) (by first | omega | (simp; done) | (simp; omega)) (by first | assumption | (simp [go_sem, *]; done)) (by first | assumption | (simp [go_sem, *]; done))
              have hB3 : Below w.heap.size w w3 := bel_trans (hB2.alloc (by first | omega | (simp; done) | (simp; omega)) _) hb3
              have hl3 := hB3.size
              clear hl2 hB2 f2x1b f2x1a f2x1 f2x0b f2x0a f2x0
              clear hb3
              go_wp2_with fail
              refine (HcLess.out _).mono ?_
              rintro e w4 ⟨rfl, hb4⟩
              obtain ⟨f4x0, f4x0a, f4x0b⟩ := bel_box hb4 (b := w1.heap.size) (x := .int .i64 (0)) (y := .int .i64 (b)) (by first | omega | (simp; done) | (simp; omega)) (by first | assumption | (simp [go_sem, *]; done)) (by first | assumption | (simp [go_sem, *]; done))
              obtain ⟨f4x1, f4x1a, f4x1b⟩ := bel_box hb4 (b := w1.heap.size + 1) (x := .int .i64 (c)) (y := .int .i64 (d)) (by first | omega | (simp; done) | (simp; omega)) (by first | assumption | (simp [go_sem, *]; done)) (by first | assumption | (simp [go_sem, *]; done))
              obtain ⟨f4x2, f4x2a, f4x2b⟩ := bel_box hb4 (b := w2.heap.size) (x := .int .i64 (c)) (y := .int .i64 (b + d)) (by first | omega | (simp; done) | (simp; omega)) (by first | assumption | (simp [go_sem, *]; done)) (by first | assumption | (simp [go_sem, *]; done))
              obtain ⟨f4x3, f4x3a, f4x3b⟩ := bel_box hb4 (b := w3.heap.size) (x := .int .i64 (c)) (y := .int .i64 (b + d)) (by first | omega | (simp; done) | (simp; omega)) (by first | assumption | (simp [go_sem, *]; done)) (by first | assumption | (simp [go_sem, *]; done))
              have hB4 : Below w.heap.size w w4 := bel_trans (hB3.alloc (by first | omega | (simp; done) | (simp; omega)) _) hb4
              have hl4 := hB4.size
              clear hl3 hB3 f3x2b f3x2a f3x2 f3x1b f3x1a f3x1 f3x0b f3x0a f3x0
              clear hb4
              go_wp2_with fail
              refine (HcMost.out _).mono ?_
              rintro e w5 ⟨rfl, hb5⟩
              obtain ⟨f5x0, f5x0a, f5x0b⟩ := bel_box hb5 (b := w1.heap.size) (x := .int .i64 (0)) (y := .int .i64 (b)) (by first | omega | (simp; done) | (simp; omega)) (by first | assumption | (simp [go_sem, *]; done)) (by first | assumption | (simp [go_sem, *]; done))
              obtain ⟨f5x1, f5x1a, f5x1b⟩ := bel_box hb5 (b := w1.heap.size + 1) (x := .int .i64 (c)) (y := .int .i64 (d)) (by first | omega | (simp; done) | (simp; omega)) (by first | assumption | (simp [go_sem, *]; done)) (by first | assumption | (simp [go_sem, *]; done))
              obtain ⟨f5x2, f5x2a, f5x2b⟩ := bel_box hb5 (b := w2.heap.size) (x := .int .i64 (c)) (y := .int .i64 (b + d)) (by first | omega | (simp; done) | (simp; omega)) (by first | assumption | (simp [go_sem, *]; done)) (by first | assumption | (simp [go_sem, *]; done))
              obtain ⟨f5x3, f5x3a, f5x3b⟩ := bel_box hb5 (b := w3.heap.size) (x := .int .i64 (c)) (y := .int .i64 (b + d)) (by first | omega | (simp; done) | (simp; omega)) (by first | assumption | (simp [go_sem, *]; done)) (by first | assumption | (simp [go_sem, *]; done))
              obtain ⟨f5x4, f5x4a, f5x4b⟩ := bel_box hb5 (b := w4.heap.size) (x := .int .i64 (0)) (y := .int .i64 (b)) (by first | omega | (simp; done) | (simp; omega)) (by first | assumption | (simp [go_sem, *]; done)) (by first | assumption | (simp [go_sem, *]; done))
              have hB5 : Below w.heap.size w w5 := bel_trans (hB4.alloc (by first | omega | (simp; done) | (simp; omega)) _) hb5
              have hl5 := hB5.size
              clear hl4 hB4 f4x3b f4x3a f4x3 f4x2b f4x2a f4x2 f4x1b f4x1a f4x1 f4x0b f4x0a f4x0
              clear hb5
              go_wp2_with fail
              refine (HcFa.out _).mono ?_
              rintro e w6 ⟨rfl, hb6⟩
              obtain ⟨f6x0, f6x0a, f6x0b⟩ := bel_box hb6 (b := w1.heap.size) (x := .int .i64 (0)) (y := .int .i64 (b)) (by first | omega | (simp; done) | (simp; omega)) (by first | assumption | (simp [go_sem, *]; done)) (by first | assumption | (simp [go_sem, *]; done))
              obtain ⟨f6x1, f6x1a, f6x1b⟩ := bel_box hb6 (b := w1.heap.size + 1) (x := .int .i64 (c)) (y := .int .i64 (d)) (by first | omega | (simp; done) | (simp; omega)) (by first | assumption | (simp [go_sem, *]; done)) (by first | assumption | (simp [go_sem, *]; done))
              obtain ⟨f6x2, f6x2a, f6x2b⟩ := bel_box hb6 (b := w2.heap.size) (x := .int .i64 (c)) (y := .int .i64 (b + d)) (by first | omega | (simp; done) | (simp; omega)) (by first | assumption | (simp [go_sem, *]; done)) (by first | assumption | (simp [go_sem, *]; done))
              obtain ⟨f6x3, f6x3a, f6x3b⟩ := bel_box hb6 (b := w3.heap.size) (x := .int .i64 (c)) (y := .int .i64 (b + d)) (by first | omega | (simp; done) | (simp; omega)) (by first | assumption | (simp [go_sem, *]; done)) (by first | assumption | (simp [go_sem, *]; done))
              obtain ⟨f6x4, f6x4a, f6x4b⟩ := bel_box hb6 (b := w4.heap.size) (x := .int .i64 (0)) (y := .int .i64 (b)) (by first | omega | (simp; done) | (simp; omega)) (by first | assumption | (simp [go_sem, *]; done)) (by first | assumption | (simp [go_sem, *]; done))
              obtain ⟨f6x5, f6x5a, f6x5b⟩ := bel_box hb6 (b := w5.heap.size) (x := .int .i64 (maxI 0 c)) (y := .int .i64 (maxI b d)) (by first | omega | (simp; done) | (simp; omega)) (by first | assumption | (simp [go_sem, *]; done)) (by first | assumption | (simp [go_sem, *]; done))
              have hB6 : Below w.heap.size w w6 := bel_trans (hB5.alloc (by first | omega | (simp; done) | (simp; omega)) _) hb6
              have hl6 := hB6.size
              clear hl5 hB5 f5x4b f5x4a f5x4 f5x3b f5x3a f5x3 f5x2b f5x2a f5x2 f5x1b f5x1a f5x1 f5x0b f5x0a f5x0
              clear hb6
              rcases hmx with hm1 | ⟨hm1, hm2⟩
              all_goals (
                go_wp2_with fail
                refine (HcFc.out _).mono ?_
                rintro e w7 ⟨rfl, hb7⟩
                obtain ⟨f7x0, f7x0a, f7x0b⟩ := bel_box hb7 (b := w1.heap.size) (x := .int .i64 (0)) (y := .int .i64 (b)) (by first | omega | (simp; done) | (simp; omega)) (by first | assumption | (simp [go_sem, *]; done)) (by first | assumption | (simp [go_sem, *]; done))
                obtain ⟨f7x1, f7x1a, f7x1b⟩ := bel_box hb7 (b := w1.heap.size + 1) (x := .int .i64 (c)) (y := .int .i64 (d)) (by first | omega | (simp; done) | (simp; omega)) (by first | assumption | (simp [go_sem, *]; done)) (by first | assumption | (simp [go_sem, *]; done))
                obtain ⟨f7x2, f7x2a, f7x2b⟩ := bel_box hb7 (b := w2.heap.size) (x := .int .i64 (c)) (y := .int .i64 (b + d)) (by first | omega | (simp; done) | (simp; omega)) (by first | assumption | (simp [go_sem, *]; done)) (by first | assumption | (simp [go_sem, *]; done))
                obtain ⟨f7x3, f7x3a, f7x3b⟩ := bel_box hb7 (b := w3.heap.size) (x := .int .i64 (c)) (y := .int .i64 (b + d)) (by first | omega | (simp; done) | (simp; omega)) (by first | assumption | (simp [go_sem, *]; done)) (by first | assumption | (simp [go_sem, *]; done))
                obtain ⟨f7x4, f7x4a, f7x4b⟩ := bel_box hb7 (b := w4.heap.size) (x := .int .i64 (0)) (y := .int .i64 (b)) (by first | omega | (simp; done) | (simp; omega)) (by first | assumption | (simp [go_sem, *]; done)) (by first | assumption | (simp [go_sem, *]; done))
                obtain ⟨f7x5, f7x5a, f7x5b⟩ := bel_box hb7 (b := w5.heap.size) (x := .int .i64 (maxI 0 c)) (y := .int .i64 (maxI b d)) (by first | omega | (simp; done) | (simp; omega)) (by first | assumption | (simp [go_sem, *]; done)) (by first | assumption | (simp [go_sem, *]; done))
                have hB7 : Below w.heap.size w w7 := bel_trans hB6 hb7
                have hl7 := hB7.size
                clear hl6 hB6 f6x5b f6x5a f6x5 f6x4b f6x4a f6x4 f6x3b f6x3a f6x3 f6x2b f6x2a f6x2 f6x1b f6x1a f6x1 f6x0b f6x0a f6x0
                clear hb7
                go_wp2_with fail
                refine (HcSl.out _).mono ?_
                rintro e w8 ⟨rfl, hb8⟩
                obtain ⟨f8x0, f8x0a, f8x0b⟩ := bel_box hb8 (b := w1.heap.size) (x := .int .i64 (0)) (y := .int .i64 (b)) (by first | omega | (simp; done) | (simp; omega)) (by first | assumption | (simp [go_sem, *]; done)) (by first | assumption | (simp [go_sem, *]; done))
                obtain ⟨f8x1, f8x1a, f8x1b⟩ := bel_box hb8 (b := w1.heap.size + 1) (x := .int .i64 (c)) (y := .int .i64 (d)) (by first | omega | (simp; done) | (simp; omega)) (by first | assumption | (simp [go_sem, *]; done)) (by first | assumption | (simp [go_sem, *]; done))
                obtain ⟨f8x2, f8x2a, f8x2b⟩ := bel_box hb8 (b := w2.heap.size) (x := .int .i64 (c)) (y := .int .i64 (b + d)) (by first | omega | (simp; done) | (simp; omega)) (by first | assumption | (simp [go_sem, *]; done)) (by first | assumption | (simp [go_sem, *]; done))
                obtain ⟨f8x3, f8x3a, f8x3b⟩ := bel_box hb8 (b := w3.heap.size) (x := .int .i64 (c)) (y := .int .i64 (b + d)) (by first | omega | (simp; done) | (simp; omega)) (by first | assumption | (simp [go_sem, *]; done)) (by first | assumption | (simp [go_sem, *]; done))
                obtain ⟨f8x4, f8x4a, f8x4b⟩ := bel_box hb8 (b := w4.heap.size) (x := .int .i64 (0)) (y := .int .i64 (b)) (by first | omega | (simp; done) | (simp; omega)) (by first | assumption | (simp [go_sem, *]; done)) (by first | assumption | (simp [go_sem, *]; done))
                obtain ⟨f8x5, f8x5a, f8x5b⟩ := bel_box hb8 (b := w5.heap.size) (x := .int .i64 (maxI 0 c)) (y := .int .i64 (maxI b d)) (by first | omega | (simp; done) | (simp; omega)) (by first | assumption | (simp [go_sem, *]; done)) (by first | assumption | (simp [go_sem, *]; done))
                have hB8 : Below w.heap.size w w8 := bel_trans hB7 hb8
                have hl8 := hB8.size
                clear hl7 hB7 f7x5b f7x5a f7x5 f7x4b f7x4a f7x4 f7x3b f7x3a f7x3 f7x2b f7x2a f7x2 f7x1b f7x1a f7x1 f7x0b f7x0a f7x0
                clear hb8
                go_wp2_with fail
                refine (HcSlS.out _).mono ?_
                rintro e w9 ⟨rfl, hb9⟩
                obtain ⟨f9x0, f9x0a, f9x0b⟩ := bel_box hb9 (b := w1.heap.size) (x := .int .i64 (0)) (y := .int .i64 (b)) (by first | omega | (simp; done) | (simp; omega)) (by first | assumption | (simp [go_sem, *]; done)) (by first | assumption | (simp [go_sem, *]; done))
                obtain ⟨f9x1, f9x1a, f9x1b⟩ := bel_box hb9 (b := w1.heap.size + 1) (x := .int .i64 (c)) (y := .int .i64 (d)) (by first | omega | (simp; done) | (simp; omega)) (by first | assumption | (simp [go_sem, *]; done)) (by first | assumption | (simp [go_sem, *]; done))
                obtain ⟨f9x2, f9x2a, f9x2b⟩ := bel_box hb9 (b := w2.heap.size) (x := .int .i64 (c)) (y := .int .i64 (b + d)) (by first | omega | (simp; done) | (simp; omega)) (by first | assumption | (simp [go_sem, *]; done)) (by first | assumption | (simp [go_sem, *]; done))
                obtain ⟨f9x3, f9x3a, f9x3b⟩ := bel_box hb9 (b := w3.heap.size) (x := .int .i64 (c)) (y := .int .i64 (b + d)) (by first | omega | (simp; done) | (simp; omega)) (by first | assumption | (simp [go_sem, *]; done)) (by first | assumption | (simp [go_sem, *]; done))
                obtain ⟨f9x4, f9x4a, f9x4b⟩ := bel_box hb9 (b := w4.heap.size) (x := .int .i64 (0)) (y := .int .i64 (b)) (by first | omega | (simp; done) | (simp; omega)) (by first | assumption | (simp [go_sem, *]; done)) (by first | assumption | (simp [go_sem, *]; done))
                obtain ⟨f9x5, f9x5a, f9x5b⟩ := bel_box hb9 (b := w5.heap.size) (x := .int .i64 (maxI 0 c)) (y := .int .i64 (maxI b d)) (by first | omega | (simp; done) | (simp; omega)) (by first | assumption | (simp [go_sem, *]; done)) (by first | assumption | (simp [go_sem, *]; done))
                have hB9 : Below w.heap.size w w9 := bel_trans hB8 hb9
                have hl9 := hB9.size
                clear hl8 hB8 f8x5b f8x5a f8x5 f8x4b f8x4a f8x4 f8x3b f8x3a f8x3 f8x2b f8x2a f8x2 f8x1b f8x1a f8x1 f8x0b f8x0a f8x0
                clear hb9
                go_wp2_with fail
                refine (HcOk.out _).mono ?_
                rintro e w10 ⟨rfl, hb10⟩
                obtain ⟨f10x0, f10x0a, f10x0b⟩ := bel_box hb10 (b := w1.heap.size) (x := .int .i64 (0)) (y := .int .i64 (b)) (by first | omega | (simp; done) | (simp; omega)) (by first | assumption | (simp [go_sem, *]; done)) (by first | assumption | (simp [go_sem, *]; done))
                obtain ⟨f10x1, f10x1a, f10x1b⟩ := bel_box hb10 (b := w1.heap.size + 1) (x := .int .i64 (c)) (y := .int .i64 (d)) (by first | omega | (simp; done) | (simp; omega)) (by first | assumption | (simp [go_sem, *]; done)) (by first | assumption | (simp [go_sem, *]; done))
                obtain ⟨f10x2, f10x2a, f10x2b⟩ := bel_box hb10 (b := w2.heap.size) (x := .int .i64 (c)) (y := .int .i64 (b + d)) (by first | omega | (simp; done) | (simp; omega)) (by first | assumption | (simp [go_sem, *]; done)) (by first | assumption | (simp [go_sem, *]; done))
                obtain ⟨f10x3, f10x3a, f10x3b⟩ := bel_box hb10 (b := w3.heap.size) (x := .int .i64 (c)) (y := .int .i64 (b + d)) (by first | omega | (simp; done) | (simp; omega)) (by first | assumption | (simp [go_sem, *]; done)) (by first | assumption | (simp [go_sem, *]; done))
                obtain ⟨f10x4, f10x4a, f10x4b⟩ := bel_box hb10 (b := w4.heap.size) (x := .int .i64 (0)) (y := .int .i64 (b)) (by first | omega | (simp; done) | (simp; omega)) (by first | assumption | (simp [go_sem, *]; done)) (by first | assumption | (simp [go_sem, *]; done))
                obtain ⟨f10x5, f10x5a, f10x5b⟩ := bel_box hb10 (b := w5.heap.size) (x := .int .i64 (maxI 0 c)) (y := .int .i64 (maxI b d)) (by first | omega | (simp; done) | (simp; omega)) (by first | assumption | (simp [go_sem, *]; done)) (by first | assumption | (simp [go_sem, *]; done))
                have hB10 : Below w.heap.size w w10 := bel_trans hB9 hb10
                have hl10 := hB10.size
                clear hl9 hB9 f9x5b f9x5a f9x5 f9x4b f9x4a f9x4 f9x3b f9x3a f9x3 f9x2b f9x2a f9x2 f9x1b f9x1a f9x1 f9x0b f9x0a f9x0
                clear hb10
                go_wp2_with fail
                refine (HcOk2.out _).mono ?_
                rintro e w11 ⟨rfl, hb11⟩
                obtain ⟨f11x0, f11x0a, f11x0b⟩ := bel_box hb11 (b := w1.heap.size) (x := .int .i64 (0)) (y := .int .i64 (b)) (by first | omega | (simp; done) | (simp; omega)) (by first | assumption | (simp [go_sem, *]; done)) (by first | assumption | (simp [go_sem, *]; done))
                obtain ⟨f11x1, f11x1a, f11x1b⟩ := bel_box hb11 (b := w1.heap.size + 1) (x := .int .i64 (c)) (y := .int .i64 (d)) (by first | omega | (simp; done) | (simp; omega)) (by first | assumption | (simp [go_sem, *]; done)) (by first | assumption | (simp [go_sem, *]; done))
                obtain ⟨f11x2, f11x2a, f11x2b⟩ := bel_box hb11 (b := w2.heap.size) (x := .int .i64 (c)) (y := .int .i64 (b + d)) (by first | omega | (simp; done) | (simp; omega)) (by first | assumption | (simp [go_sem, *]; done)) (by first | assumption | (simp [go_sem, *]; done))
                obtain ⟨f11x3, f11x3a, f11x3b⟩ := bel_box hb11 (b := w3.heap.size) (x := .int .i64 (c)) (y := .int .i64 (b + d)) (by first | omega | (simp; done) | (simp; omega)) (by first | assumption | (simp [go_sem, *]; done)) (by first | assumption | (simp [go_sem, *]; done))
                obtain ⟨f11x4, f11x4a, f11x4b⟩ := bel_box hb11 (b := w4.heap.size) (x := .int .i64 (0)) (y := .int .i64 (b)) (by first | omega | (simp; done) | (simp; omega)) (by first | assumption | (simp [go_sem, *]; done)) (by first | assumption | (simp [go_sem, *]; done))
                obtain ⟨f11x5, f11x5a, f11x5b⟩ := bel_box hb11 (b := w5.heap.size) (x := .int .i64 (maxI 0 c)) (y := .int .i64 (maxI b d)) (by first | omega | (simp; done) | (simp; omega)) (by first | assumption | (simp [go_sem, *]; done)) (by first | assumption | (simp [go_sem, *]; done))
                have hB11 : Below w.heap.size w w11 := bel_trans hB10 hb11
                have hl11 := hB11.size
                clear hl10 hB10 f10x5b f10x5a f10x5 f10x4b f10x4a f10x4 f10x3b f10x3a f10x3 f10x2b f10x2a f10x2 f10x1b f10x1a f10x1 f10x0b f10x0a f10x0
                clear hb11
                go_wp2_with fail
                refine (HcAl.out _).mono ?_
                rintro e w12 ⟨rfl, hb12⟩
                obtain ⟨f12x0, f12x0a, f12x0b⟩ := bel_box hb12 (b := w1.heap.size) (x := .int .i64 (0)) (y := .int .i64 (b)) (by first | omega | (simp; done) | (simp; omega)) (by first | assumption | (simp [go_sem, *]; done)) (by first | assumption | (simp [go_sem, *]; done))
                obtain ⟨f12x1, f12x1a, f12x1b⟩ := bel_box hb12 (b := w1.heap.size + 1) (x := .int .i64 (c)) (y := .int .i64 (d)) (by first | omega | (simp; done) | (simp; omega)) (by first | assumption | (simp [go_sem, *]; done)) (by first | assumption | (simp [go_sem, *]; done))
                obtain ⟨f12x2, f12x2a, f12x2b⟩ := bel_box hb12 (b := w2.heap.size) (x := .int .i64 (c)) (y := .int .i64 (b + d)) (by first | omega | (simp; done) | (simp; omega)) (by first | assumption | (simp [go_sem, *]; done)) (by first | assumption | (simp [go_sem, *]; done))
                obtain ⟨f12x3, f12x3a, f12x3b⟩ := bel_box hb12 (b := w3.heap.size) (x := .int .i64 (c)) (y := .int .i64 (b + d)) (by first | omega | (simp; done) | (simp; omega)) (by first | assumption | (simp [go_sem, *]; done)) (by first | assumption | (simp [go_sem, *]; done))
                obtain ⟨f12x4, f12x4a, f12x4b⟩ := bel_box hb12 (b := w4.heap.size) (x := .int .i64 (0)) (y := .int .i64 (b)) (by first | omega | (simp; done) | (simp; omega)) (by first | assumption | (simp [go_sem, *]; done)) (by first | assumption | (simp [go_sem, *]; done))
                obtain ⟨f12x5, f12x5a, f12x5b⟩ := bel_box hb12 (b := w5.heap.size) (x := .int .i64 (maxI 0 c)) (y := .int .i64 (maxI b d)) (by first | omega | (simp; done) | (simp; omega)) (by first | assumption | (simp [go_sem, *]; done)) (by first | assumption | (simp [go_sem, *]; done))
                obtain ⟨f12x6, f12x6a, f12x6b⟩ := bel_box hb12 (b := w11.heap.size) (x := .int .i64 (0)) (y := .int .i64 (n * b)) (by first | omega | (simp; done) | (simp; omega)) (by first | assumption | (simp [go_sem, *]; done)) (by first | assumption | (simp [go_sem, *]; done))
                obtain ⟨f12x7, f12x7a, f12x7b⟩ := bel_box hb12 (b := w11.heap.size + 1) (x := .int .i64 (0)) (y := .int .i64 (n * b + b)) (by first | omega | (simp; done) | (simp; omega)) (by first | assumption | (simp [go_sem, *]; done)) (by first | assumption | (simp [go_sem, *]; done))
                have hB12 : Below w.heap.size w w12 := bel_trans ((hB11.alloc (by first | omega | (simp; done) | (simp; omega)) _).alloc (by first | omega | (simp; done) | (simp; omega)) _) hb12
                have hl12 := hB12.size
                clear hl11 hB11 f11x5b f11x5a f11x5 f11x4b f11x4a f11x4 f11x3b f11x3a f11x3 f11x2b f11x2a f11x2 f11x1b f11x1a f11x1 f11x0b f11x0a f11x0
                clear hb12
                go_wp2_with fail
                refine (HcMo.out _).mono ?_
                rintro e w13 ⟨rfl, hb13⟩
                obtain ⟨f13x0, f13x0a, f13x0b⟩ := bel_box hb13 (b := w1.heap.size) (x := .int .i64 (0)) (y := .int .i64 (b)) (by first | omega | (simp; done) | (simp; omega)) (by first | assumption | (simp [go_sem, *]; done)) (by first | assumption | (simp [go_sem, *]; done))
                obtain ⟨f13x1, f13x1a, f13x1b⟩ := bel_box hb13 (b := w1.heap.size + 1) (x := .int .i64 (c)) (y := .int .i64 (d)) (by first | omega | (simp; done) | (simp; omega)) (by first | assumption | (simp [go_sem, *]; done)) (by first | assumption | (simp [go_sem, *]; done))
                obtain ⟨f13x2, f13x2a, f13x2b⟩ := bel_box hb13 (b := w2.heap.size) (x := .int .i64 (c)) (y := .int .i64 (b + d)) (by first | omega | (simp; done) | (simp; omega)) (by first | assumption | (simp [go_sem, *]; done)) (by first | assumption | (simp [go_sem, *]; done))
                obtain ⟨f13x3, f13x3a, f13x3b⟩ := bel_box hb13 (b := w3.heap.size) (x := .int .i64 (c)) (y := .int .i64 (b + d)) (by first | omega | (simp; done) | (simp; omega)) (by first | assumption | (simp [go_sem, *]; done)) (by first | assumption | (simp [go_sem, *]; done))
                obtain ⟨f13x4, f13x4a, f13x4b⟩ := bel_box hb13 (b := w4.heap.size) (x := .int .i64 (0)) (y := .int .i64 (b)) (by first | omega | (simp; done) | (simp; omega)) (by first | assumption | (simp [go_sem, *]; done)) (by first | assumption | (simp [go_sem, *]; done))
                obtain ⟨f13x5, f13x5a, f13x5b⟩ := bel_box hb13 (b := w5.heap.size) (x := .int .i64 (maxI 0 c)) (y := .int .i64 (maxI b d)) (by first | omega | (simp; done) | (simp; omega)) (by first | assumption | (simp [go_sem, *]; done)) (by first | assumption | (simp [go_sem, *]; done))
                obtain ⟨f13x6, f13x6a, f13x6b⟩ := bel_box hb13 (b := w11.heap.size) (x := .int .i64 (0)) (y := .int .i64 (n * b)) (by first | omega | (simp; done) | (simp; omega)) (by first | assumption | (simp [go_sem, *]; done)) (by first | assumption | (simp [go_sem, *]; done))
                obtain ⟨f13x7, f13x7a, f13x7b⟩ := bel_box hb13 (b := w11.heap.size + 1) (x := .int .i64 (0)) (y := .int .i64 (n * b + b)) (by first | omega | (simp; done) | (simp; omega)) (by first | assumption | (simp [go_sem, *]; done)) (by first | assumption | (simp [go_sem, *]; done))
                have hB13 : Below w.heap.size w w13 := bel_trans hB12 hb13
                have hl13 := hB13.size
                clear hl12 hB12 f12x7b f12x7a f12x7 f12x6b f12x6a f12x6 f12x5b f12x5a f12x5 f12x4b f12x4a f12x4 f12x3b f12x3a f12x3 f12x2b f12x2a f12x2 f12x1b f12x1a f12x1 f12x0b f12x0a f12x0
                clear hb13
                go_wp2_with fail
                go_ret
                exact ⟨rfl, hB13⟩)
          · have h3 : notB a b = false := by simp [notB, ha]
            obtain ⟨e1, e2⟩ := add_yes h4
            obtain ⟨l1, l2, l3⟩ := less_back h4
            have cAdd : ∀ w, Calls Try.prog 13 #[.agg #[.int .i64 (a), .int .i64 (b)], .agg #[.int .i64 (c), .int .i64 (d)]] w fun e w' => e = .returned (.tuple #[.agg #[.int .i64 (a + c), .int .i64 (b + d)], .bool true]) ∧ Below w.heap.size w w' := fun w => by have := implAdd_any a b c d w; rwa [e1, e2, h4] at this
            have cAddS : ∀ w, Calls Try.prog 14 #[.agg #[.int .i64 (a), .int .i64 (b)], .agg #[.int .i64 (c), .int .i64 (d)]] w fun e w' => e = .returned (.tuple #[.agg #[.int .i64 (a + c), .int .i64 (b + d)], .bool true]) ∧ Below w.heap.size w w' := fun w => by have := specAdd_any a b c d w; rwa [e1, e2, h4] at this
            have cLess : ∀ w, Calls Try.prog 15 #[.agg #[.int .i64 (a + c), .int .i64 (b + d)], .agg #[.int .i64 (c), .int .i64 (d)]] w fun e w' => e = .returned (.tuple #[.agg #[.int .i64 (a), .int .i64 (b)], .bool true]) ∧ Below w.heap.size w w' := fun w => by have := implLess_any (a + c) (b + d) c d w; rwa [l1, l2, l3] at this
            have cMost : ∀ w, Calls Try.prog 16 #[.agg #[.int .i64 (a), .int .i64 (b)], .agg #[.int .i64 (c), .int .i64 (d)]] w fun e w' => e = .returned (.agg #[.int .i64 (maxI a c), .int .i64 (maxI b d)]) ∧ Below w.heap.size w w' := implMost_any a b c d
            have cFa : ∀ w, Calls Try.prog 17 #[.agg #[.int .i64 (a), .int .i64 (b)], .agg #[.int .i64 (maxI a c), .int .i64 (maxI b d)]] w fun e w' => e = .returned (.bool true) ∧ Below w.heap.size w w' := fun w => by have := implFits_any a b (maxI a c) (maxI b d) w; rwa [(fit_most a b c d).1] at this
            have cFc : ∀ w, Calls Try.prog 17 #[.agg #[.int .i64 (c), .int .i64 (d)], .agg #[.int .i64 (maxI a c), .int .i64 (maxI b d)]] w fun e w' => e = .returned (.bool true) ∧ Below w.heap.size w w' := fun w => by have := implFits_any c d (maxI a c) (maxI b d) w; rwa [(fit_most a b c d).2] at this
            obtain ⟨n, hn⟩ : ∃ n, slotsI a b c d = n := ⟨_, rfl⟩
            have hfit := slots_fit h1 h2 h3
            rw [hn] at hfit
            obtain ⟨n1, n2, n3, n4, n5, n6, n7⟩ := hfit
            obtain ⟨p1, p2, p3, p4⟩ := ok_iff.1 h1
            obtain ⟨q1, q2, q3, q4⟩ := ok_iff.1 h2
            have hz : ¬ n < 0 := by omega
            have cSl : ∀ w, Calls Try.prog 18 #[.agg #[.int .i64 (a), .int .i64 (b)], .agg #[.int .i64 (c), .int .i64 (d)]] w fun e w' => e = .returned (.int .i64 n) ∧ Below w.heap.size w w' := fun w => by have := implSlots_any a b c d w; rwa [hn] at this
            have cSlS : ∀ w, Calls Try.prog 19 #[.agg #[.int .i64 (a), .int .i64 (b)], .agg #[.int .i64 (c), .int .i64 (d)]] w fun e w' => e = .returned (.int .i64 n) ∧ Below w.heap.size w w' := fun w => by have := specSlots_any a b c d w; rwa [hn] at this
            have ff : fitB (n * a) (n * b) c d = true := fit_iff.2 ⟨n4, n6⟩
            have fg : fitB (n * a + a) (n * b + b) c d = false := by simpa [fitB] using n7
            have cAl : ∀ w, Calls Try.prog 17 #[.agg #[.int .i64 (n * a), .int .i64 (n * b)], .agg #[.int .i64 (c), .int .i64 (d)]] w fun e w' => e = .returned (.bool true) ∧ Below w.heap.size w w' := fun w => by have := implFits_any (n * a) (n * b) c d w; rwa [ff] at this
            have cMo : ∀ w, Calls Try.prog 17 #[.agg #[.int .i64 (n * a + a), .int .i64 (n * b + b)], .agg #[.int .i64 (c), .int .i64 (d)]] w fun e w' => e = .returned (.bool false) ∧ Below w.heap.size w w' := fun w => by have := implFits_any (n * a + a) (n * b + b) c d w; rwa [fg] at this
            clear hn n7 ff fg
            have cOk : ∀ w, Calls Try.prog 20 #[.agg #[.int .i64 (a), .int .i64 (b)]] w fun e w' => e = .returned (.bool true) ∧ Below w.heap.size w w' := fun w => by have := specOk_any a b w; rwa [h1] at this
            have cOk2 : ∀ w, Calls Try.prog 20 #[.agg #[.int .i64 (c), .int .i64 (d)]] w fun e w' => e = .returned (.bool true) ∧ Below w.heap.size w w' := fun w => by have := specOk_any c d w; rwa [h2] at this
            have hmx : ((maxI a c != a) = false) ∨ ((maxI a c != a) = true ∧ (maxI a c != c) = false) := by have := maxI_l a c; simp; omega
            have HcAdd := hidden cAdd; clear cAdd
            have HcAddS := hidden cAddS; clear cAddS
            have HcLess := hidden cLess; clear cLess
            have HcMost := hidden cMost; clear cMost
            have HcFa := hidden cFa; clear cFa
            have HcFc := hidden cFc; clear cFc
            have HcSl := hidden cSl; clear cSl
            have HcSlS := hidden cSlS; clear cSlS
            have HcOk := hidden cOk; clear cOk
            have HcOk2 := hidden cOk2; clear cOk2
            have HcAl := hidden cAl; clear cAl
            have HcMo := hidden cMo; clear cMo
            clear h1 h4 e1 e2 l1 l2 l3 h2 h3
            go_wp2_with fail
            refine (HcAdd.out _).mono ?_
            rintro e w2 ⟨rfl, hb2⟩
            obtain ⟨f2x0, f2x0a, f2x0b⟩ := bel_box hb2 (b := w1.heap.size) (x := .int .i64 (a)) (y := .int .i64 (b)) (by first | omega | (simp; done) | (simp; omega)) (by first | assumption | (simp [go_sem, *]; done)) (by first | assumption | (simp [go_sem, *]; done))
            obtain ⟨f2x1, f2x1a, f2x1b⟩ := bel_box hb2 (b := w1.heap.size + 1) (x := .int .i64 (c)) (y := .int .i64 (d)) (by first | omega | (simp; done) | (simp; omega)) (by first | assumption | (simp [go_sem, *]; done)) (by first | assumption | (simp [go_sem, *]; done))
            have hB2 : Below w.heap.size w w2 := bel_trans ((hB1.alloc (by first | omega | (simp; done) | (simp; omega)) _).alloc (by first | omega | (simp; done) | (simp; omega)) _) hb2
            have hl2 := hB2.size
            clear hl1 hB1
            clear hb2
            go_wp2_with fail
            refine (HcAddS.out _).mono ?_
            rintro e w3 ⟨rfl, hb3⟩
            obtain ⟨f3x0, f3x0a, f3x0b⟩ := bel_box hb3 (b := w1.heap.size) (x := .int .i64 (a)) (y := .int .i64 (b)) (by first | omega | (simp; done) | (simp; omega)) (by first | assumption | (simp [go_sem, *]; done)) (by first | assumption | (simp [go_sem, *]; done))
            obtain ⟨f3x1, f3x1a, f3x1b⟩ := bel_box hb3 (b := w1.heap.size + 1) (x := .int .i64 (c)) (y := .int .i64 (d)) (by first | omega | (simp; done) | (simp; omega)) (by first | assumption | (simp [go_sem, *]; done)) (by first | assumption | (simp [go_sem, *]; done))
            obtain ⟨f3x2, f3x2a, f3x2b⟩ := bel_box hb3 (b := w2.heap.size) (x := .int .i64 (a + c)) (y := .int .i64 (b + d)) (by first | omega | (simp; done) | (simp; omega)) (by first | assumption | (simp [go_sem, *]; done)) (by first | assumption | (simp [go_sem, *]; done))
            have hB3 : Below w.heap.size w w3 := bel_trans (hB2.alloc (by first | omega | (simp; done) | (simp; omega)) _) hb3
            have hl3 := hB3.size
            clear hl2 hB2 f2x1b f2x1a f2x1 f2x0b f2x0a f2x0
            clear hb3
            go_wp2_with fail
            refine (HcLess.out _).mono ?_
            rintro e w4 ⟨rfl, hb4⟩
            obtain ⟨f4x0, f4x0a, f4x0b⟩ := bel_box hb4 (b := w1.heap.size) (x := .int .i64 (a)) (y := .int .i64 (b)) (by first | omega | (simp; done) | (simp; omega)) (by first | assumption | (simp [go_sem, *]; done)) (by first | assumption | (simp [go_sem, *]; done))
            obtain ⟨f4x1, f4x1a, f4x1b⟩ := bel_box hb4 (b := w1.heap.size + 1) (x := .int .i64 (c)) (y := .int .i64 (d)) (by first | omega | (simp; done) | (simp; omega)) (by first | assumption | (simp [go_sem, *]; done)) (by first | assumption | (simp [go_sem, *]; done))
            obtain ⟨f4x2, f4x2a, f4x2b⟩ := bel_box hb4 (b := w2.heap.size) (x := .int .i64 (a + c)) (y := .int .i64 (b + d)) (by first | omega | (simp; done) | (simp; omega)) (by first | assumption | (simp [go_sem, *]; done)) (by first | assumption | (simp [go_sem, *]; done))
            obtain ⟨f4x3, f4x3a, f4x3b⟩ := bel_box hb4 (b := w3.heap.size) (x := .int .i64 (a + c)) (y := .int .i64 (b + d)) (by first | omega | (simp; done) | (simp; omega)) (by first | assumption | (simp [go_sem, *]; done)) (by first | assumption | (simp [go_sem, *]; done))
            have hB4 : Below w.heap.size w w4 := bel_trans (hB3.alloc (by first | omega | (simp; done) | (simp; omega)) _) hb4
            have hl4 := hB4.size
            clear hl3 hB3 f3x2b f3x2a f3x2 f3x1b f3x1a f3x1 f3x0b f3x0a f3x0
            clear hb4
            go_wp2_with fail
            refine (HcMost.out _).mono ?_
            rintro e w5 ⟨rfl, hb5⟩
            obtain ⟨f5x0, f5x0a, f5x0b⟩ := bel_box hb5 (b := w1.heap.size) (x := .int .i64 (a)) (y := .int .i64 (b)) (by first | omega | (simp; done) | (simp; omega)) (by first | assumption | (simp [go_sem, *]; done)) (by first | assumption | (simp [go_sem, *]; done))
            obtain ⟨f5x1, f5x1a, f5x1b⟩ := bel_box hb5 (b := w1.heap.size + 1) (x := .int .i64 (c)) (y := .int .i64 (d)) (by first | omega | (simp; done) | (simp; omega)) (by first | assumption | (simp [go_sem, *]; done)) (by first | assumption | (simp [go_sem, *]; done))
            obtain ⟨f5x2, f5x2a, f5x2b⟩ := bel_box hb5 (b := w2.heap.size) (x := .int .i64 (a + c)) (y := .int .i64 (b + d)) (by first | omega | (simp; done) | (simp; omega)) (by first | assumption | (simp [go_sem, *]; done)) (by first | assumption | (simp [go_sem, *]; done))
            obtain ⟨f5x3, f5x3a, f5x3b⟩ := bel_box hb5 (b := w3.heap.size) (x := .int .i64 (a + c)) (y := .int .i64 (b + d)) (by first | omega | (simp; done) | (simp; omega)) (by first | assumption | (simp [go_sem, *]; done)) (by first | assumption | (simp [go_sem, *]; done))
            obtain ⟨f5x4, f5x4a, f5x4b⟩ := bel_box hb5 (b := w4.heap.size) (x := .int .i64 (a)) (y := .int .i64 (b)) (by first | omega | (simp; done) | (simp; omega)) (by first | assumption | (simp [go_sem, *]; done)) (by first | assumption | (simp [go_sem, *]; done))
            have hB5 : Below w.heap.size w w5 := bel_trans (hB4.alloc (by first | omega | (simp; done) | (simp; omega)) _) hb5
            have hl5 := hB5.size
            clear hl4 hB4 f4x3b f4x3a f4x3 f4x2b f4x2a f4x2 f4x1b f4x1a f4x1 f4x0b f4x0a f4x0
            clear hb5
            go_wp2_with fail
            refine (HcFa.out _).mono ?_
            rintro e w6 ⟨rfl, hb6⟩
            obtain ⟨f6x0, f6x0a, f6x0b⟩ := bel_box hb6 (b := w1.heap.size) (x := .int .i64 (a)) (y := .int .i64 (b)) (by first | omega | (simp; done) | (simp; omega)) (by first | assumption | (simp [go_sem, *]; done)) (by first | assumption | (simp [go_sem, *]; done))
            obtain ⟨f6x1, f6x1a, f6x1b⟩ := bel_box hb6 (b := w1.heap.size + 1) (x := .int .i64 (c)) (y := .int .i64 (d)) (by first | omega | (simp; done) | (simp; omega)) (by first | assumption | (simp [go_sem, *]; done)) (by first | assumption | (simp [go_sem, *]; done))
            obtain ⟨f6x2, f6x2a, f6x2b⟩ := bel_box hb6 (b := w2.heap.size) (x := .int .i64 (a + c)) (y := .int .i64 (b + d)) (by first | omega | (simp; done) | (simp; omega)) (by first | assumption | (simp [go_sem, *]; done)) (by first | assumption | (simp [go_sem, *]; done))
            obtain ⟨f6x3, f6x3a, f6x3b⟩ := bel_box hb6 (b := w3.heap.size) (x := .int .i64 (a + c)) (y := .int .i64 (b + d)) (by first | omega | (simp; done) | (simp; omega)) (by first | assumption | (simp [go_sem, *]; done)) (by first | assumption | (simp [go_sem, *]; done))
            obtain ⟨f6x4, f6x4a, f6x4b⟩ := bel_box hb6 (b := w4.heap.size) (x := .int .i64 (a)) (y := .int .i64 (b)) (by first | omega | (simp; done) | (simp; omega)) (by first | assumption | (simp [go_sem, *]; done)) (by first | assumption | (simp [go_sem, *]; done))
            obtain ⟨f6x5, f6x5a, f6x5b⟩ := bel_box hb6 (b := w5.heap.size) (x := .int .i64 (maxI a c)) (y := .int .i64 (maxI b d)) (by first | omega | (simp; done) | (simp; omega)) (by first | assumption | (simp [go_sem, *]; done)) (by first | assumption | (simp [go_sem, *]; done))
            have hB6 : Below w.heap.size w w6 := bel_trans (hB5.alloc (by first | omega | (simp; done) | (simp; omega)) _) hb6
            have hl6 := hB6.size
            clear hl5 hB5 f5x4b f5x4a f5x4 f5x3b f5x3a f5x3 f5x2b f5x2a f5x2 f5x1b f5x1a f5x1 f5x0b f5x0a f5x0
            clear hb6
            rcases hmx with hm1 | ⟨hm1, hm2⟩
            all_goals (
              go_wp2_with fail
              refine (HcFc.out _).mono ?_
              rintro e w7 ⟨rfl, hb7⟩
              obtain ⟨f7x0, f7x0a, f7x0b⟩ := bel_box hb7 (b := w1.heap.size) (x := .int .i64 (a)) (y := .int .i64 (b)) (by first | omega | (simp; done) | (simp; omega)) (by first | assumption | (simp [go_sem, *]; done)) (by first | assumption | (simp [go_sem, *]; done))
              obtain ⟨f7x1, f7x1a, f7x1b⟩ := bel_box hb7 (b := w1.heap.size + 1) (x := .int .i64 (c)) (y := .int .i64 (d)) (by first | omega | (simp; done) | (simp; omega)) (by first | assumption | (simp [go_sem, *]; done)) (by first | assumption | (simp [go_sem, *]; done))
              obtain ⟨f7x2, f7x2a, f7x2b⟩ := bel_box hb7 (b := w2.heap.size) (x := .int .i64 (a + c)) (y := .int .i64 (b + d)) (by first | omega | (simp; done) | (simp; omega)) (by first | assumption | (simp [go_sem, *]; done)) (by first | assumption | (simp [go_sem, *]; done))
              obtain ⟨f7x3, f7x3a, f7x3b⟩ := bel_box hb7 (b := w3.heap.size) (x := .int .i64 (a + c)) (y := .int .i64 (b + d)) (by first | omega | (simp; done) | (simp; omega)) (by first | assumption | (simp [go_sem, *]; done)) (by first | assumption | (simp [go_sem, *]; done))
              obtain ⟨f7x4, f7x4a, f7x4b⟩ := bel_box hb7 (b := w4.heap.size) (x := .int .i64 (a)) (y := .int .i64 (b)) (by first | omega | (simp; done) | (simp; omega)) (by first | assumption | (simp [go_sem, *]; done)) (by first | assumption | (simp [go_sem, *]; done))
              obtain ⟨f7x5, f7x5a, f7x5b⟩ := bel_box hb7 (b := w5.heap.size) (x := .int .i64 (maxI a c)) (y := .int .i64 (maxI b d)) (by first | omega | (simp; done) | (simp; omega)) (by first | assumption | (simp [go_sem, *]; done)) (by first | assumption | (simp [go_sem, *]; done))
              have hB7 : Below w.heap.size w w7 := bel_trans hB6 hb7
              have hl7 := hB7.size
              clear hl6 hB6 f6x5b f6x5a f6x5 f6x4b f6x4a f6x4 f6x3b f6x3a f6x3 f6x2b f6x2a f6x2 f6x1b f6x1a f6x1 f6x0b f6x0a f6x0
              clear hb7
              go_wp2_with fail
              refine (HcSl.out _).mono ?_
              rintro e w8 ⟨rfl, hb8⟩
              obtain ⟨f8x0, f8x0a, f8x0b⟩ := bel_box hb8 (b := w1.heap.size) (x := .int .i64 (a)) (y := .int .i64 (b)) (by first | omega | (simp; done) | (simp; omega)) (by first | assumption | (simp [go_sem, *]; done)) (by first | assumption | (simp [go_sem, *]; done))
              obtain ⟨f8x1, f8x1a, f8x1b⟩ := bel_box hb8 (b := w1.heap.size + 1) (x := .int .i64 (c)) (y := .int .i64 (d)) (by first | omega | (simp; done) | (simp; omega)) (by first | assumption | (simp [go_sem, *]; done)) (by first | assumption | (simp [go_sem, *]; done))
              obtain ⟨f8x2, f8x2a, f8x2b⟩ := bel_box hb8 (b := w2.heap.size) (x := .int .i64 (a + c)) (y := .int .i64 (b + d)) (by first | omega | (simp; done) | (simp; omega)) (by first | assumption | (simp [go_sem, *]; done)) (by first | assumption | (simp [go_sem, *]; done))
              obtain ⟨f8x3, f8x3a, f8x3b⟩ := bel_box hb8 (b := w3.heap.size) (x := .int .i64 (a + c)) (y := .int .i64 (b + d)) (by first | omega | (simp; done) | (simp; omega)) (by first | assumption | (simp [go_sem, *]; done)) (by first | assumption | (simp [go_sem, *]; done))
              obtain ⟨f8x4, f8x4a, f8x4b⟩ := bel_box hb8 (b := w4.heap.size) (x := .int .i64 (a)) (y := .int .i64 (b)) (by first | omega | (simp; done) | (simp; omega)) (by first | assumption | (simp [go_sem, *]; done)) (by first | assumption | (simp [go_sem, *]; done))
              obtain ⟨f8x5, f8x5a, f8x5b⟩ := bel_box hb8 (b := w5.heap.size) (x := .int .i64 (maxI a c)) (y := .int .i64 (maxI b d)) (by first | omega | (simp; done) | (simp; omega)) (by first | assumption | (simp [go_sem, *]; done)) (by first | assumption | (simp [go_sem, *]; done))
              have hB8 : Below w.heap.size w w8 := bel_trans hB7 hb8
              have hl8 := hB8.size
              clear hl7 hB7 f7x5b f7x5a f7x5 f7x4b f7x4a f7x4 f7x3b f7x3a f7x3 f7x2b f7x2a f7x2 f7x1b f7x1a f7x1 f7x0b f7x0a f7x0
              clear hb8
              go_wp2_with fail
              refine (HcSlS.out _).mono ?_
              rintro e w9 ⟨rfl, hb9⟩
              obtain ⟨f9x0, f9x0a, f9x0b⟩ := bel_box hb9 (b := w1.heap.size) (x := .int .i64 (a)) (y := .int .i64 (b)) (by first | omega | (simp; done) | (simp; omega)) (by first | assumption | (simp [go_sem, *]; done)) (by first | assumption | (simp [go_sem, *]; done))
              obtain ⟨f9x1, f9x1a, f9x1b⟩ := bel_box hb9 (b := w1.heap.size + 1) (x := .int .i64 (c)) (y := .int .i64 (d)) (by first | omega | (simp; done) | (simp; omega)) (by first | assumption | (simp [go_sem, *]; done)) (by first | assumption | (simp [go_sem, *]; done))
              obtain ⟨f9x2, f9x2a, f9x2b⟩ := bel_box hb9 (b := w2.heap.size) (x := .int .i64 (a + c)) (y := .int .i64 (b + d)) (by first | omega | (simp; done) | (simp; omega)) (by first | assumption | (simp [go_sem, *]; done)) (by first | assumption | (simp [go_sem, *]; done))
              obtain ⟨f9x3, f9x3a, f9x3b⟩ := bel_box hb9 (b := w3.heap.size) (x := .int .i64 (a + c)) (y := .int .i64 (b + d)) (by first | omega | (simp; done) | (simp; omega)) (by first | assumption | (simp [go_sem, *]; done)) (by first | assumption | (simp [go_sem, *]; done))
              obtain ⟨f9x4, f9x4a, f9x4b⟩ := bel_box hb9 (b := w4.heap.size) (x := .int .i64 (a)) (y := .int .i64 (b)) (by first | omega | (simp; done) | (simp; omega)) (by first | assumption | (simp [go_sem, *]; done)) (by first | assumption | (simp [go_sem, *]; done))
              obtain ⟨f9x5, f9x5a, f9x5b⟩ := bel_box hb9 (b := w5.heap.size) (x := .int .i64 (maxI a c)) (y := .int .i64 (maxI b d)) (by first | omega | (simp; done) | (simp; omega)) (by first | assumption | (simp [go_sem, *]; done)) (by first | assumption | (simp [go_sem, *]; done))
              have hB9 : Below w.heap.size w w9 := bel_trans hB8 hb9
              have hl9 := hB9.size
              clear hl8 hB8 f8x5b f8x5a f8x5 f8x4b f8x4a f8x4 f8x3b f8x3a f8x3 f8x2b f8x2a f8x2 f8x1b f8x1a f8x1 f8x0b f8x0a f8x0
              clear hb9
              go_wp2_with fail
              refine (HcOk.out _).mono ?_
              rintro e w10 ⟨rfl, hb10⟩
              obtain ⟨f10x0, f10x0a, f10x0b⟩ := bel_box hb10 (b := w1.heap.size) (x := .int .i64 (a)) (y := .int .i64 (b)) (by first | omega | (simp; done) | (simp; omega)) (by first | assumption | (simp [go_sem, *]; done)) (by first | assumption | (simp [go_sem, *]; done))
              obtain ⟨f10x1, f10x1a, f10x1b⟩ := bel_box hb10 (b := w1.heap.size + 1) (x := .int .i64 (c)) (y := .int .i64 (d)) (by first | omega | (simp; done) | (simp; omega)) (by first | assumption | (simp [go_sem, *]; done)) (by first | assumption | (simp [go_sem, *]; done))
              obtain ⟨f10x2, f10x2a, f10x2b⟩ := bel_box hb10 (b := w2.heap.size) (x := .int .i64 (a + c)) (y := .int .i64 (b + d)) (by first | omega | (simp; done) | (simp; omega)) (by first | assumption | (simp [go_sem, *]; done)) (by first | assumption | (simp [go_sem, *]; done))
              obtain ⟨f10x3, f10x3a, f10x3b⟩ := bel_box hb10 (b := w3.heap.size) (x := .int .i64 (a + c)) (y := .int .i64 (b + d)) (by first | omega | (simp; done) | (simp; omega)) (by first | assumption | (simp [go_sem, *]; done)) (by first | assumption | (simp [go_sem, *]; done))
              obtain ⟨f10x4, f10x4a, f10x4b⟩ := bel_box hb10 (b := w4.heap.size) (x := .int .i64 (a)) (y := .int .i64 (b)) (by first | omega | (simp; done) | (simp; omega)) (by first | assumption | (simp [go_sem, *]; done)) (by first | assumption | (simp [go_sem, *]; done))
              obtain ⟨f10x5, f10x5a, f10x5b⟩ := bel_box hb10 (b := w5.heap.size) (x := .int .i64 (maxI a c)) (y := .int .i64 (maxI b d)) (by first | omega | (simp; done) | (simp; omega)) (by first | assumption | (simp [go_sem, *]; done)) (by first | assumption | (simp [go_sem, *]; done))
              have hB10 : Below w.heap.size w w10 := bel_trans hB9 hb10
              have hl10 := hB10.size
              clear hl9 hB9 f9x5b f9x5a f9x5 f9x4b f9x4a f9x4 f9x3b f9x3a f9x3 f9x2b f9x2a f9x2 f9x1b f9x1a f9x1 f9x0b f9x0a f9x0
              clear hb10
              go_wp2_with fail
              refine (HcOk2.out _).mono ?_
              rintro e w11 ⟨rfl, hb11⟩
              obtain ⟨f11x0, f11x0a, f11x0b⟩ := bel_box hb11 (b := w1.heap.size) (x := .int .i64 (a)) (y := .int .i64 (b)) (by first | omega | (simp; done) | (simp; omega)) (by first | assumption | (simp [go_sem, *]; done)) (by first | assumption | (simp [go_sem, *]; done))
              obtain ⟨f11x1, f11x1a, f11x1b⟩ := bel_box hb11 (b := w1.heap.size + 1) (x := .int .i64 (c)) (y := .int .i64 (d)) (by first | omega | (simp; done) | (simp; omega)) (by first | assumption | (simp [go_sem, *]; done)) (by first | assumption | (simp [go_sem, *]; done))
              obtain ⟨f11x2, f11x2a, f11x2b⟩ := bel_box hb11 (b := w2.heap.size) (x := .int .i64 (a + c)) (y := .int .i64 (b + d)) (by first | omega | (simp; done) | (simp; omega)) (by first | assumption | (simp [go_sem, *]; done)) (by first | assumption | (simp [go_sem, *]; done))
              obtain ⟨f11x3, f11x3a, f11x3b⟩ := bel_box hb11 (b := w3.heap.size) (x := .int .i64 (a + c)) (y := .int .i64 (b + d)) (by first | omega | (simp; done) | (simp; omega)) (by first | assumption | (simp [go_sem, *]; done)) (by first | assumption | (simp [go_sem, *]; done))
              obtain ⟨f11x4, f11x4a, f11x4b⟩ := bel_box hb11 (b := w4.heap.size) (x := .int .i64 (a)) (y := .int .i64 (b)) (by first | omega | (simp; done) | (simp; omega)) (by first | assumption | (simp [go_sem, *]; done)) (by first | assumption | (simp [go_sem, *]; done))
              obtain ⟨f11x5, f11x5a, f11x5b⟩ := bel_box hb11 (b := w5.heap.size) (x := .int .i64 (maxI a c)) (y := .int .i64 (maxI b d)) (by first | omega | (simp; done) | (simp; omega)) (by first | assumption | (simp [go_sem, *]; done)) (by first | assumption | (simp [go_sem, *]; done))
              have hB11 : Below w.heap.size w w11 := bel_trans hB10 hb11
              have hl11 := hB11.size
              clear hl10 hB10 f10x5b f10x5a f10x5 f10x4b f10x4a f10x4 f10x3b f10x3a f10x3 f10x2b f10x2a f10x2 f10x1b f10x1a f10x1 f10x0b f10x0a f10x0
              clear hb11
              go_wp2_with fail
              refine (HcAl.out _).mono ?_
              rintro e w12 ⟨rfl, hb12⟩
              obtain ⟨f12x0, f12x0a, f12x0b⟩ := bel_box hb12 (b := w1.heap.size) (x := .int .i64 (a)) (y := .int .i64 (b)) (by first | omega | (simp; done) | (simp; omega)) (by first | assumption | (simp [go_sem, *]; done)) (by first | assumption | (simp [go_sem, *]; done))
              obtain ⟨f12x1, f12x1a, f12x1b⟩ := bel_box hb12 (b := w1.heap.size + 1) (x := .int .i64 (c)) (y := .int .i64 (d)) (by first | omega | (simp; done) | (simp; omega)) (by first | assumption | (simp [go_sem, *]; done)) (by first | assumption | (simp [go_sem, *]; done))
              obtain ⟨f12x2, f12x2a, f12x2b⟩ := bel_box hb12 (b := w2.heap.size) (x := .int .i64 (a + c)) (y := .int .i64 (b + d)) (by first | omega | (simp; done) | (simp; omega)) (by first | assumption | (simp [go_sem, *]; done)) (by first | assumption | (simp [go_sem, *]; done))
              obtain ⟨f12x3, f12x3a, f12x3b⟩ := bel_box hb12 (b := w3.heap.size) (x := .int .i64 (a + c)) (y := .int .i64 (b + d)) (by first | omega | (simp; done) | (simp; omega)) (by first | assumption | (simp [go_sem, *]; done)) (by first | assumption | (simp [go_sem, *]; done))
              obtain ⟨f12x4, f12x4a, f12x4b⟩ := bel_box hb12 (b := w4.heap.size) (x := .int .i64 (a)) (y := .int .i64 (b)) (by first | omega | (simp; done) | (simp; omega)) (by first | assumption | (simp [go_sem, *]; done)) (by first | assumption | (simp [go_sem, *]; done))
              obtain ⟨f12x5, f12x5a, f12x5b⟩ := bel_box hb12 (b := w5.heap.size) (x := .int .i64 (maxI a c)) (y := .int .i64 (maxI b d)) (by first | omega | (simp; done) | (simp; omega)) (by first | assumption | (simp [go_sem, *]; done)) (by first | assumption | (simp [go_sem, *]; done))
              obtain ⟨f12x6, f12x6a, f12x6b⟩ := bel_box hb12 (b := w11.heap.size) (x := .int .i64 (n * a)) (y := .int .i64 (n * b)) (by first | omega | (simp; done) | (simp; omega)) (by first | assumption | (simp [go_sem, *]; done)) (by first | assumption | (simp [go_sem, *]; done))
              obtain ⟨f12x7, f12x7a, f12x7b⟩ := bel_box hb12 (b := w11.heap.size + 1) (x := .int .i64 (n * a + a)) (y := .int .i64 (n * b + b)) (by first | omega | (simp; done) | (simp; omega)) (by first | assumption | (simp [go_sem, *]; done)) (by first | assumption | (simp [go_sem, *]; done))
              have hB12 : Below w.heap.size w w12 := bel_trans ((hB11.alloc (by first | omega | (simp; done) | (simp; omega)) _).alloc (by first | omega | (simp; done) | (simp; omega)) _) hb12
              have hl12 := hB12.size
              clear hl11 hB11 f11x5b f11x5a f11x5 f11x4b f11x4a f11x4 f11x3b f11x3a f11x3 f11x2b f11x2a f11x2 f11x1b f11x1a f11x1 f11x0b f11x0a f11x0
              clear hb12
              go_wp2_with fail
              refine (HcMo.out _).mono ?_
              rintro e w13 ⟨rfl, hb13⟩
              obtain ⟨f13x0, f13x0a, f13x0b⟩ := bel_box hb13 (b := w1.heap.size) (x := .int .i64 (a)) (y := .int .i64 (b)) (by first | omega | (simp; done) | (simp; omega)) (by first | assumption | (simp [go_sem, *]; done)) (by first | assumption | (simp [go_sem, *]; done))
              obtain ⟨f13x1, f13x1a, f13x1b⟩ := bel_box hb13 (b := w1.heap.size + 1) (x := .int .i64 (c)) (y := .int .i64 (d)) (by first | omega | (simp; done) | (simp; omega)) (by first | assumption | (simp [go_sem, *]; done)) (by first | assumption | (simp [go_sem, *]; done))
              obtain ⟨f13x2, f13x2a, f13x2b⟩ := bel_box hb13 (b := w2.heap.size) (x := .int .i64 (a + c)) (y := .int .i64 (b + d)) (by first | omega | (simp; done) | (simp; omega)) (by first | assumption | (simp [go_sem, *]; done)) (by first | assumption | (simp [go_sem, *]; done))
              obtain ⟨f13x3, f13x3a, f13x3b⟩ := bel_box hb13 (b := w3.heap.size) (x := .int .i64 (a + c)) (y := .int .i64 (b + d)) (by first | omega | (simp; done) | (simp; omega)) (by first | assumption | (simp [go_sem, *]; done)) (by first | assumption | (simp [go_sem, *]; done))
              obtain ⟨f13x4, f13x4a, f13x4b⟩ := bel_box hb13 (b := w4.heap.size) (x := .int .i64 (a)) (y := .int .i64 (b)) (by first | omega | (simp; done) | (simp; omega)) (by first | assumption | (simp [go_sem, *]; done)) (by first | assumption | (simp [go_sem, *]; done))
              obtain ⟨f13x5, f13x5a, f13x5b⟩ := bel_box hb13 (b := w5.heap.size) (x := .int .i64 (maxI a c)) (y := .int .i64 (maxI b d)) (by first | omega | (simp; done) | (simp; omega)) (by first | assumption | (simp [go_sem, *]; done)) (by first | assumption | (simp [go_sem, *]; done))
              obtain ⟨f13x6, f13x6a, f13x6b⟩ := bel_box hb13 (b := w11.heap.size) (x := .int .i64 (n * a)) (y := .int .i64 (n * b)) (by first | omega | (simp; done) | (simp; omega)) (by first | assumption | (simp [go_sem, *]; done)) (by first | assumption | (simp [go_sem, *]; done))
              obtain ⟨f13x7, f13x7a, f13x7b⟩ := bel_box hb13 (b := w11.heap.size + 1) (x := .int .i64 (n * a + a)) (y := .int .i64 (n * b + b)) (by first | omega | (simp; done) | (simp; omega)) (by first | assumption | (simp [go_sem, *]; done)) (by first | assumption | (simp [go_sem, *]; done))
              have hB13 : Below w.heap.size w w13 := bel_trans hB12 hb13
              have hl13 := hB13.size
              clear hl12 hB12 f12x7b f12x7a f12x7 f12x6b f12x6a f12x6 f12x5b f12x5a f12x5 f12x4b f12x4a f12x4 f12x3b f12x3a f12x3 f12x2b f12x2a f12x2 f12x1b f12x1a f12x1 f12x0b f12x0a f12x0
              clear hb13
              go_wp2_with fail
              go_ret
              exact ⟨rfl, hB13⟩)
  · go_enter Try.func3, Try.ntmps3
    go_wp2_with fail
    go_ret
    exact ⟨rfl, Below.refl _ _⟩

end Go.Proofs.Ythpjejnnagamiaa
