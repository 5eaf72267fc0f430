/- The drawn sizes: one size. -/
import Derived.Test.YtifijknogofklaaJ
namespace Go.Proofs.Ytifijknogofklaa
open Go.RowKit

theorem lit8 {a b c d e g h k : Int} : ∀ i, i < 8 → ∃ v, (#[Value.int .i64 a, .int .i64 b, .int .i64 c, .int .i64 d, .int .i64 e, .int .i64 g, .int .i64 h, .int .i64 k] : Array Value)[i]? = some (.int .i64 v) := by
  intro i hi
  match i, hi with
  | 0, _ => exact ⟨_, rfl⟩
  | 1, _ => exact ⟨_, rfl⟩
  | 2, _ => exact ⟨_, rfl⟩
  | 3, _ => exact ⟨_, rfl⟩
  | 4, _ => exact ⟨_, rfl⟩
  | 5, _ => exact ⟨_, rfl⟩
  | 6, _ => exact ⟨_, rfl⟩
  | 7, _ => exact ⟨_, rfl⟩
theorem lit3 {a b c : Int} : ∀ i, i < 3 → ∃ v, (#[Value.int .i64 a, .int .i64 b, .int .i64 c] : Array Value)[i]? = some (.int .i64 v) := by
  intro i hi
  match i, hi with
  | 0, _ => exact ⟨_, rfl⟩
  | 1, _ => exact ⟨_, rfl⟩
  | 2, _ => exact ⟨_, rfl⟩

theorem Reader.set {W : World} {r : Nat} {xa : Option Addr} {len cap : Nat} {f : Nat → Int} {p : Int} (h : Reader W r xa len cap f p) (a : Addr) (u : Value) (ha : r < a.block) : Reader (W.setCell a u) r xa len cap f p := by
  obtain ⟨h1, h2, h3, h4, h5, h6, h7⟩ := h
  have hc : ∀ b o, b ≤ r → (W.setCell a u).cell? ⟨b, o, none⟩ = W.cell? ⟨b, o, none⟩ := fun b o hb => World.cell?_setCell_far _ _ _ _ (by simp; omega)
  refine ⟨by rw [hc _ _ (Nat.le_refl _)]; exact h1, by rw [hc _ _ (Nat.le_refl _)]; exact h2, ?_, h4, h5, by simpa using h6, ?_⟩
  · rw [World.frozen?_of_block (w := W) (Below.heap_setCell _ _ _ _ (by simp; omega))]; exact h3
  · rcases h7 with h7 | ⟨xb, xo, e, hx, hr⟩
    · exact .inl h7
    · exact .inr ⟨xb, xo, e, hx, fun i hi => by rw [hc _ _ (by omega)]; exact hr i hi⟩

theorem blt' {r : Nat} {w0 w1 : World} {o : Obj} (hb : But r (w0.alloc o) w1) : w0.heap.size < w1.heap.size := by
  have := hb.size; simp at this; omega

/-- The cells of a block of two that was there stay behind a read. -/
theorem But.two {r : Nat} {W w' : World} (h : But r W w') {b : Nat} {x y : Value} (hb : b ≠ r) (hl : b < W.heap.size) (h0 : W.cell? ⟨b, 0, none⟩ = some x) (h1 : W.cell? ⟨b, 1, none⟩ = some y) (f0 : W.frozen? ⟨b, 0, none⟩ = false) (f1 : W.frozen? ⟨b, 1, none⟩ = false) :
    w'.cell? ⟨b, 0, none⟩ = some x ∧ w'.cell? ⟨b, 1, none⟩ = some y ∧ w'.frozen? ⟨b, 0, none⟩ = false ∧ w'.frozen? ⟨b, 1, none⟩ = false :=
  ⟨by rw [h.cell.1 _ _ hb hl]; exact h0, by rw [h.cell.1 _ _ hb hl]; exact h1, by rw [h.cell.2 _ _ hb hl]; exact f0, by rw [h.cell.2 _ _ hb hl]; exact f1⟩
end Go.Proofs.Ytifijknogofklaa
