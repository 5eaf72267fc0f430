/- The drawn sizes: one size. -/
import Derived.Test.YthpjejnnagamiaaJ
namespace Go.Proofs.Ythpjejnnagamiaa
open Go.RowKit

theorem lit8 {a b c d e g h k : Int} : ∀ i, i < 8 → ∃ v, (#[Value.int .i64 a, .int .i64 b, .int .i64 c, .int .i64 d, .int .i64 e, .int .i64 g, .int .i64 h, .int .i64 k] : Array Value)[i]? = some (.int .i64 v) := by
  intro i hi
  match i, hi with
  | 0, _ => exact ⟨_, rfl⟩
  | 1, _ => exact ⟨_, rfl⟩
  | 2, _ => exact ⟨_, rfl⟩
  | 3, _ => exact ⟨_, rfl⟩
  | 4, _ => exact ⟨_, rfl⟩
  | 5, _ => exact ⟨_, rfl⟩
  | 6, _ => exact ⟨_, rfl⟩
  | 7, _ => exact ⟨_, rfl⟩
theorem lit3 {a b c : Int} : ∀ i, i < 3 → ∃ v, (#[Value.int .i64 a, .int .i64 b, .int .i64 c] : Array Value)[i]? = some (.int .i64 v) := by
  intro i hi
  match i, hi with
  | 0, _ => exact ⟨_, rfl⟩
  | 1, _ => exact ⟨_, rfl⟩
  | 2, _ => exact ⟨_, rfl⟩

theorem Reader.set {W : World} {r : Nat} {xa : Option Addr} {len cap : Nat} {f : Nat → Int} {p : Int} (h : Reader W r xa len cap f p) (a : Addr) (u : Value) (ha : r < a.block) : Reader (W.setCell a u) r xa len cap f p := by
  obtain ⟨h1, h2, h3, h4, h5, h6, h7⟩ := h
  have hc : ∀ b o, b ≤ r → (W.setCell a u).cell? ⟨b, o, none⟩ = W.cell? ⟨b, o, none⟩ := fun b o hb => World.cell?_setCell_far _ _ _ _ (by simp; omega)
  refine ⟨by rw [hc _ _ (Nat.le_refl _)]; exact h1, by rw [hc _ _ (Nat.le_refl _)]; exact h2, ?_, h4, h5, by simpa using h6, ?_⟩
  · rw [World.frozen?_of_block (w := W) (Below.heap_setCell _ _ _ _ (by simp; omega))]; exact h3
  · rcases h7 with h7 | ⟨xb, xo, e, hx, hr⟩
    · exact .inl h7
    · exact .inr ⟨xb, xo, e, hx, fun i hi => by rw [hc _ _ (by omega)]; exact hr i hi⟩

theorem blt' {r : Nat} {w0 w1 : World} {o : Obj} (hb : But r (w0.alloc o) w1) : w0.heap.size < w1.heap.size := by
  have := hb.size; simp at this; omega

/-- The cells of a block of two that was there stay behind a read. -/
theorem But.two {r : Nat} {W w' : World} (h : But r W w') {b : Nat} {x y : Value} (hb : b ≠ r) (hl : b < W.heap.size) (h0 : W.cell? ⟨b, 0, none⟩ = some x) (h1 : W.cell? ⟨b, 1, none⟩ = some y) (f0 : W.frozen? ⟨b, 0, none⟩ = false) (f1 : W.frozen? ⟨b, 1, none⟩ = false) :
    w'.cell? ⟨b, 0, none⟩ = some x ∧ w'.cell? ⟨b, 1, none⟩ = some y ∧ w'.frozen? ⟨b, 0, none⟩ = false ∧ w'.frozen? ⟨b, 1, none⟩ = false :=
  ⟨by rw [h.cell.1 _ _ hb hl]; exact h0, by rw [h.cell.1 _ _ hb hl]; exact h1, by rw [h.cell.2 _ _ hb hl]; exact f0, by rw [h.cell.2 _ _ hb hl]; exact f1⟩

set_option maxHeartbeats 2000000 in
theorem l1Size_any (r : Nat) (p : Int) (xa : Option Addr) (len cap : Nat) (f : Nat → Int) (w : World) (hR : Reader w r xa len cap f p) (hp0 : 0 ≤ p) (hp1 : p ≤ 1000) :
    Calls Try.prog 42 #[.pointer (some ⟨r, 0, none⟩)] w fun e w' => ∃ c m : Int, e = .returned (.agg #[.int .i64 c, .int .i64 m]) ∧ (∃ q, p ≤ q ∧ q ≤ p + 4 ∧ Reader w' r xa len cap f q) ∧ But r w w' := by
  have hR0 : Reader (w.alloc (.cells #[.int .i64 0, .int .i64 0] 24)) r xa len cap f p := hR.keep (by go_grown)
  have hlt := hR.lt
  have hne : w.heap.size ≠ r := by omega
  have hB0 : But r w (w.alloc (.cells #[.int .i64 0, .int .i64 0] 24)) := (But.refl _ _).alloc _
  clear hR
  go_enter Try.func42, Try.ntmps42
  go_wp2_with fail
  refine (num_lit r _ _ _ _ xa len cap f _ _ hR0 (by omega) (by omega) (by omega) (by omega) (by simp) lit8).mono ?_
  rintro e w1 ⟨v1, rfl, hR1, hB1, hl1⟩
  obtain ⟨a0, a1, a2, a3⟩ := hB1.two (b := w.heap.size) (x := .int .i64 0) (y := .int .i64 0) hne (by simp) (by simp [go_sem]) (by simp [go_sem]) (by simp [go_sem]) (by simp [go_sem])
  have hz1 : w.heap.size < w1.heap.size := by simp at hl1; omega
  have hB1 := hB0.trans hB1
  clear hl1 hR0 hB0
  go_wp2_with fail
  refine (num_lit r _ _ _ _ xa len cap f _ _ hR1 (by omega) (by omega) (by omega) (by omega) (by simp) lit8).mono ?_
  rintro e w2 ⟨v2, rfl, hR2, hB2, hl2⟩
  obtain ⟨a0, a1, a2, a3⟩ := hB2.two hne hz1 a0 a1 a2 a3
  have hz2 : w.heap.size < w2.heap.size := by omega
  have hB2 := hB1.trans hB2
  clear hl2 hR1 hB1 hz1
  go_wp2_with fail
  refine (pick_any r _ _ xa len cap f _ (Reader.keep hR2 (by go_grown)) (by omega) (by omega) (by omega) (by omega)).mono ?_
  rintro e w3 ⟨k, rfl, hk0, hk1, hR3, hB3⟩
  have hl3 := blt' hB3
  have hr2 := hR2.lt
  have hnn : w.heap.size ≠ w2.heap.size := by omega
  have hnn' : w2.heap.size ≠ w.heap.size := by omega
  have hne2 : w2.heap.size ≠ r := by omega
  obtain ⟨a0, a1, a2, a3⟩ := hB3.two (b := w.heap.size) (x := .int .i64 0) (y := .int .i64 0) hne (by simp; omega) (by simp [go_sem, *]) (by simp [go_sem, *]) (by simp [go_sem, *]) (by simp [go_sem, *])
  obtain ⟨b0, b1, b2, b3⟩ := hB3.two (b := w2.heap.size) (x := .int .i64 v1) (y := .int .i64 v2) hne2 (by simp) (by simp [go_sem]) (by simp [go_sem]) (by simp [go_sem]) (by simp [go_sem])
  have hz3 : w.heap.size < w3.heap.size := by omega
  have hB3 := (hB2.alloc _).trans hB3
  clear hR2 hB2
  by_cases hk : k = 0
  · subst hk
    go_wp2_with fail
    refine (num_lit r _ _ _ _ xa len cap f _ _ hR3 (by omega) (by omega) (by omega) (by omega) (by simp) lit3).mono ?_
    rintro e w4 ⟨v4, rfl, hR4, hB4, hl4⟩
    obtain ⟨a0, a1, a2, a3⟩ := hB4.two hne hz3 a0 a1 a2 a3
    obtain ⟨b0, b1, b2, b3⟩ := hB4.two hne2 hl3 b0 b1 b2 b3
    go_wp2_with fail
    refine bodyPost_ret (v := .agg #[.int .i64 v4, .int .i64 v2]) (by simp [results, Try.results42, go_sem, *]) rfl ?_
    refine ⟨_, _, rfl, ⟨_, ?_, ?_, ((hR4.set _ _ ?_).set _ _ ?_).set _ _ ?_⟩, (((hB3.trans hB4).setCell (.inr ?_) _).setCell (.inr ?_) _).setCell (.inr ?_) _⟩
    all_goals first | omega | (simp; done) | (simp; omega)
  · have hk' : (k == 0) = false := by simpa using hk
    by_cases hj : k = 1
    · subst hj
      go_wp2_with fail
      refine (num_lit r _ _ _ _ xa len cap f _ _ hR3 (by omega) (by omega) (by omega) (by omega) (by simp) lit3).mono ?_
      rintro e w4 ⟨v4, rfl, hR4, hB4, hl4⟩
      obtain ⟨a0, a1, a2, a3⟩ := hB4.two hne hz3 a0 a1 a2 a3
      obtain ⟨b0, b1, b2, b3⟩ := hB4.two hne2 hl3 b0 b1 b2 b3
      go_wp2_with fail
      refine bodyPost_ret (v := .agg #[.int .i64 v1, .int .i64 v4]) (by simp [results, Try.results42, go_sem, *]) rfl ?_
      refine ⟨_, _, rfl, ⟨_, ?_, ?_, ((hR4.set _ _ ?_).set _ _ ?_).set _ _ ?_⟩, (((hB3.trans hB4).setCell (.inr ?_) _).setCell (.inr ?_) _).setCell (.inr ?_) _⟩
      all_goals first | omega | (simp; done) | (simp; omega)
    · have hj' : (k == 1) = false := by simpa using hj
      clear hk hj
      go_wp2_with fail
      refine bodyPost_ret (v := .agg #[.int .i64 v1, .int .i64 v2]) (by simp [results, Try.results42, go_sem, *]) rfl ?_
      refine ⟨_, _, rfl, ⟨_, ?_, ?_, (hR3.set _ _ ?_).set _ _ ?_⟩, ((hB3.setCell (.inr ?_) _).setCell (.inr ?_) _)⟩
      all_goals first | omega | (simp; done) | (simp; omega)
end Go.Proofs.Ythpjejnnagamiaa
