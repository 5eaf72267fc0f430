/- The drawn sizes: two sizes out of a row of bytes. -/
import Derived.Test.YtifijknogofklaaK
namespace Go.Proofs.Ytifijknogofklaa
open Go.RowKit

theorem bel_two {W w' : World} (h : Below W.heap.size W w') {b : Nat} {x y : Value} (hl : b < W.heap.size) (h0 : W.cell? ⟨b, 0, none⟩ = some x) (h1 : W.cell? ⟨b, 1, none⟩ = some y) (f0 : W.frozen? ⟨b, 0, none⟩ = false) (f1 : W.frozen? ⟨b, 1, none⟩ = false) :
    w'.cell? ⟨b, 0, none⟩ = some x ∧ w'.cell? ⟨b, 1, none⟩ = some y ∧ w'.frozen? ⟨b, 0, none⟩ = false ∧ w'.frozen? ⟨b, 1, none⟩ = false :=
  ⟨by rw [(bcell h).1 _ _ hl]; exact h0, by rw [(bcell h).1 _ _ hl]; exact h1, by rw [(bcell h).2 _ _ hl]; exact f0, by rw [(bcell h).2 _ _ hl]; exact f1⟩

/-- A row of bytes that came in. -/
def Bytes (w : World) (xa : Option Addr) (len cap : Nat) (f : Nat → Int) : Prop :=
  len ≤ cap ∧ cap ≤ maxLen ∧ (∀ i, 0 ≤ f i ∧ f i ≤ 255) ∧ (len = 0 ∨ ∃ xb xo, xa = some ⟨xb, xo, none⟩ ∧ xb < w.heap.size ∧ ∀ i, i < len → w.cell? ⟨xb, xo + i, none⟩ = some (.int .u8 (f i)))

theorem Bytes.keep {W w' : World} {xa : Option Addr} {len cap : Nat} {f : Nat → Int} (h : Bytes W xa len cap f) (hb : Below W.heap.size W w') : Bytes w' xa len cap f := by
  obtain ⟨h1, h2, h3, h4⟩ := h
  refine ⟨h1, h2, h3, ?_⟩
  rcases h4 with h4 | ⟨xb, xo, e, hx, hr⟩
  · exact .inl h4
  · exact .inr ⟨xb, xo, e, Nat.lt_of_lt_of_le hx hb.size, fun i hi => by rw [(bcell hb).1 _ _ hx]; exact hr i hi⟩

theorem Bytes.reader {W : World} {xa : Option Addr} {len cap : Nat} {f : Nat → Int} (h : Bytes W xa len cap f) (c : Nat) : Reader (W.alloc (.cells #[.slice xa (min len 2000) c, .int .i64 0] 103)) W.heap.size xa (min len 2000) c f 0 := by
  have hb : Below W.heap.size W (W.alloc (.cells #[.slice xa (min len 2000) c, .int .i64 0] 103)) := by go_grown
  obtain ⟨h1, h2, h3, h4⟩ := h
  refine ⟨by simp [go_sem], by simp [go_sem], by simp [go_sem], by omega, h3, by simp, ?_⟩
  rcases h4 with h4 | ⟨xb, xo, e, hx, hr⟩
  · exact .inl (by omega)
  · exact .inr ⟨xb, xo, e, hx, fun i hi => by rw [(bcell hb).1 _ _ hx]; exact hr i (by omega)⟩

theorem add_at {w : World} {b off i : Nat} {v : Value} (h : w.cell? ((⟨b, off, none⟩ : Addr).add i) = some v) : w.cell? ⟨b, off + i, none⟩ = some v := by
  by_cases hi : i = 0
  · subst hi; simpa [Addr.add] using h
  · simpa [Addr.add, hi] using h

theorem IsRow.bytes {w : World} {a : Option Addr} {len cap : Nat} {zs : List Int} (h : IsRow w a len cap zs) : ∃ f, Bytes w a len cap f := by
  rcases h with ⟨rfl, rfl, rfl, rfl⟩ | ⟨x, rfl, hl, hm, hz, hcell, hwz⟩
  · exact ⟨fun _ => 0, Nat.le_refl _, Nat.zero_le _, fun _ => ⟨by simp, by simp⟩, .inl rfl⟩
  · refine ⟨fun i => zs.getD i 0, hl, hm, fun i => ?_, ?_⟩
    · by_cases hi : i < zs.length
      · have := hwz (zs.getD i 0) (by rw [List.getD_eq_getElem?_getD, List.getElem?_eq_getElem hi]; exact List.getElem_mem hi)
        simpa [Lit.wf, IntKind.min, IntKind.max, IntKind.signed, IntKind.bits] using this
      · show 0 ≤ zs.getD i 0 ∧ zs.getD i 0 ≤ 255
        rw [List.getD_eq_getElem?_getD, List.getElem?_eq_none (by omega)]; simp
    · by_cases h0 : len = 0
      · exact .inl h0
      · obtain ⟨b, off, spot⟩ := x
        have hc := hcell 0 (by omega)
        have hspot : spot = none := by simpa [Addr.add] using World.cell?_spot hc
        subst hspot
        exact .inr ⟨b, off, rfl, by simpa [Addr.add] using World.block_lt_of_cell? w _ hc, fun i hi => add_at (hcell i (by omega))⟩

end Go.Proofs.Ytifijknogofklaa
