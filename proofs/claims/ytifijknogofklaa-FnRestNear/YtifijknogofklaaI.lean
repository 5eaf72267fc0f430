/- The reader of codes: its state, what may turn behind a read, and the contracts of pick and num. -/
import Derived.Test.YtifijknogofklaaH
namespace Go.Proofs.Ytifijknogofklaa
open Go.RowKit

/-- Of what was there nothing has turned but block r. -/
structure But (r : Nat) (W w' : World) : Prop where
  os : w'.os = W.os
  tape : w'.tape = W.tape
  output : w'.output = W.output
  size : W.heap.size ≤ w'.heap.size
  block : ∀ k, k ≠ r → k < W.heap.size → w'.heap[k]? = W.heap[k]?

theorem But.refl (r : Nat) (W : World) : But r W W := ⟨rfl, rfl, rfl, Nat.le_refl _, fun _ _ _ => rfl⟩
theorem But.trans {r : Nat} {a b c : World} (h : But r a b) (k : But r b c) : But r a c :=
  ⟨k.os.trans h.os, k.tape.trans h.tape, k.output.trans h.output, Nat.le_trans h.size k.size, fun i hi hl => (k.block i hi (Nat.lt_of_lt_of_le hl h.size)).trans (h.block i hi hl)⟩
theorem But.of_below {r : Nat} {W w' : World} (h : Below W.heap.size W w') : But r W w' := ⟨h.os, h.tape, h.output, h.size, fun k _ hk => h.block k hk⟩
theorem But.below {r B : Nat} {W w' : World} (h : But r W w') (hr : B ≤ r) (hB : B ≤ W.heap.size) : Below B W w' :=
  ⟨h.os, h.tape, h.output, h.size, fun k hk => h.block k (by omega) (by omega)⟩
theorem But.cell {r : Nat} {W w' : World} (h : But r W w') : (∀ b o, b ≠ r → b < W.heap.size → w'.cell? ⟨b, o, none⟩ = W.cell? ⟨b, o, none⟩) ∧ (∀ b o, b ≠ r → b < W.heap.size → w'.frozen? ⟨b, o, none⟩ = W.frozen? ⟨b, o, none⟩) :=
  ⟨fun b _ h1 h2 => World.cell?_of_block (w := W) (h.block b h1 h2), fun b _ h1 h2 => World.frozen?_of_block (w := W) (h.block b h1 h2)⟩
theorem But.drew {r : Nat} {W w' : World} (h : But r W w') : But r W w'.drew := ⟨h.os, h.tape, h.output, h.size, h.block⟩
theorem But.alloc {r : Nat} {W w' : World} (h : But r W w') (o : Obj) : But r W (w'.alloc o) :=
  h.trans (.of_below ((Below.refl _ _).alloc (Nat.le_refl _) _))
theorem But.setCell {r : Nat} {W w' : World} (h : But r W w') {p : Addr} (hp : p.block = r ∨ W.heap.size ≤ p.block) (u : Value) : But r W (w'.setCell p u) :=
  ⟨h.os, h.tape, h.output, by simpa using h.size, fun k hk hl => (Below.heap_setCell _ _ _ _ (by omega)).trans (h.block k hk hl)⟩
theorem But.drewN {r : Nat} {W w' : World} (h : But r W w') (j : Nat) : But r W (w'.drewN j) := ⟨h.os, h.tape, h.output, h.size, h.block⟩

/-- The reader at block r: its bytes (at most 2000, in an older block) and its place p. -/
def Reader (W : World) (r : Nat) (xa : Option Addr) (len cap : Nat) (f : Nat → Int) (p : Int) : Prop :=
  W.cell? ⟨r, 0, none⟩ = some (.slice xa len cap) ∧ W.cell? ⟨r, 1, none⟩ = some (.int .i64 p) ∧ W.frozen? ⟨r, 1, none⟩ = false ∧ len ≤ 2000 ∧ (∀ i, 0 ≤ f i ∧ f i ≤ 255) ∧ r < W.heap.size ∧
    (len = 0 ∨ ∃ xb xo, xa = some ⟨xb, xo, none⟩ ∧ xb < r ∧ ∀ i, i < len → W.cell? ⟨xb, xo + i, none⟩ = some (.int .u8 (f i)))

theorem Reader.keep {W w' : World} {r : Nat} {xa : Option Addr} {len cap : Nat} {f : Nat → Int} {p : Int} (h : Reader W r xa len cap f p) (hb : Below W.heap.size W w') : Reader w' r xa len cap f p := by
  obtain ⟨h1, h2, h3, h4, h5, h6, h7⟩ := h
  refine ⟨by rw [(bcell hb).1 _ _ h6]; exact h1, by rw [(bcell hb).1 _ _ h6]; exact h2, by rw [(bcell hb).2 _ _ h6]; exact h3, h4, h5, Nat.lt_of_lt_of_le h6 hb.size, ?_⟩
  rcases h7 with h7 | ⟨xb, xo, e, hx, hr⟩
  · exact .inl h7
  · exact .inr ⟨xb, xo, e, hx, fun i hi => by rw [(bcell hb).1 _ _ (by omega)]; exact hr i hi⟩

theorem Reader.next {W : World} {r : Nat} {xa : Option Addr} {len cap : Nat} {f : Nat → Int} {p : Int} (h : Reader W r xa len cap f p) (q : Int) (j : Nat) : Reader ((W.setCell ⟨r, 1, none⟩ (.int .i64 q)).drewN j) r xa len cap f q := by
  obtain ⟨h1, h2, h3, h4, h5, h6, h7⟩ := h
  have hd : ∀ (V : World) a, (V.drewN j).cell? a = V.cell? a := fun _ _ => rfl
  have hg : ∀ (V : World) a, (V.drewN j).frozen? a = V.frozen? a := fun _ _ => rfl
  refine ⟨by rw [hd]; simpa [go_sem] using h1, by rw [hd]; simp [go_sem, h2], by rw [hg]; simpa [go_sem] using h3, h4, h5, by simpa [World.drewN] using h6, ?_⟩
  rcases h7 with h7 | ⟨xb, xo, e, hx, hr⟩
  · exact .inl h7
  · exact .inr ⟨xb, xo, e, hx, fun i hi => by rw [hd, World.cell?_setCell_far _ _ _ _ (by simp; omega)]; exact hr i hi⟩

theorem pick_any (r : Nat) (p n : Int) (xa : Option Addr) (len cap : Nat) (f : Nat → Int) (w : World) (hR : Reader w r xa len cap f p) (hp0 : 0 ≤ p) (hp1 : p ≤ 100000) (hn0 : 1 ≤ n) (hn1 : n ≤ 10000) :
    Calls Try.prog 22 #[.pointer (some ⟨r, 0, none⟩), .int .i64 n] w fun e w' => ∃ k, e = .returned (.int .i64 k) ∧ 0 ≤ k ∧ k < n ∧ Reader w' r xa len cap f (p + 1) ∧ But r w w' := by
  have hR' := hR
  obtain ⟨h1, h2, h3, h4, h5, h6, h7⟩ := hR
  have hB : ∀ j, But r w ((w.setCell ⟨r, 1, none⟩ (.int .i64 (p + 1))).drewN j) := fun j => ((But.refl r w).setCell (.inl rfl) _).drewN j
  by_cases hl : len = 0
  · refine (pick_a r p n xa len cap w hp0 hp1 hn0 h1 h2 h3 hl).mono ?_
    rintro e w' ⟨k, rfl, k0, k1, rfl⟩
    exact ⟨k, rfl, k0, k1, hR'.next _ 0, hB 0⟩
  · rcases h7 with h7 | ⟨xb, xo, rfl, hx, hr⟩
    · exact absurd h7 hl
    · by_cases hlt : p < len
      · refine (pick_b r xb xo p n len cap f w hp0 hp1 hn0 hn1 h1 h2 h3 (by omega) h4 (by omega) hr h5 hlt).mono ?_
        rintro e w' ⟨k, rfl, k0, k1, rfl⟩
        exact ⟨k, rfl, k0, k1, hR'.next _ 0, hB 0⟩
      · refine (pick_c r xb xo p n len cap f w hp0 hp1 hn0 hn1 h1 h2 h3 (by omega) h4 (by omega) hr h5 (by omega)).mono ?_
        rintro e w' ⟨k, rfl, k0, k1, j, rfl⟩
        exact ⟨k, rfl, k0, k1, hR'.next _ j, hB j⟩

set_option maxHeartbeats 1000000 in
theorem num_any (r s so ll cc : Nat) (p : Int) (xa : Option Addr) (len cap : Nat) (f g : Nat → Int) (w : World) (hR : Reader w r xa len cap f p) (hp0 : 0 ≤ p) (hp1 : p ≤ 100000) (hl0 : 0 < ll) (hl1 : ll ≤ 10000)
    (hs : s ≠ r) (hs2 : s < w.heap.size) (hg : ∀ i, i < ll → w.cell? ⟨s, so + i, none⟩ = some (.int .i64 (g i))) :
    Calls Try.prog 54 #[.pointer (some ⟨r, 0, none⟩), .slice (some ⟨s, so, none⟩) ll cc] w fun e w' => ∃ i, i < ll ∧ e = .returned (.int .i64 (g i)) ∧ Reader w' r xa len cap f (p + 1) ∧ But r w w' := by
  go_enter Try.func54, Try.ntmps54
  go_wp2_with (go_at_call 22; refine (pick_any r p _ xa len cap f _ hR hp0 hp1 (by omega) (by omega)).mono ?_; rintro e w1 ⟨k, rfl, hk0, hk1, hR1, hB⟩; have hv := ((hB.cell).1 s (so + k.toNat) hs hs2).trans (hg k.toNat (by omega)))
  go_ret
  exact ⟨k.toNat, by omega, rfl, hR1, hB⟩
end Go.Proofs.Ytifijknogofklaa
