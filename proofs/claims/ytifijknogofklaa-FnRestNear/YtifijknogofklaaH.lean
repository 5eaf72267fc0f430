/- The reader of codes: what a pick answers. -/
import Derived.Test.YtifijknogofklaaG
import Derived.BigQuiet
import Derived.WalkSmall
namespace Go.Proofs.Ytifijknogofklaa
open Go.RowKit

set_option maxHeartbeats 1000000 in
theorem pick_a (r : Nat) (p n : Int) (xa : Option Addr) (len cap : Nat) (w : World) (hp0 : 0 ≤ p) (hp1 : p ≤ 100000) (hn0 : 1 ≤ n)
    (h0 : w.cell? ⟨r, 0, none⟩ = some (.slice xa len cap)) (h1 : w.cell? ⟨r, 1, none⟩ = some (.int .i64 p)) (hf : w.frozen? ⟨r, 1, none⟩ = false) (hl : len = 0) :
    Calls Try.prog 22 #[.pointer (some ⟨r, 0, none⟩), .int .i64 n] w fun e w' => ∃ k, e = .returned (.int .i64 k) ∧ 0 ≤ k ∧ k < n ∧ w' = (w.setCell ⟨r, 1, none⟩ (.int .i64 (p + 1))) := by
  subst hl
  have hn : ¬ n < 1 := by omega
  go_enter Try.func22, Try.ntmps22
  go_wp2
  go_ret
  exact ⟨_, rfl, by omega, by omega, rfl⟩

theorem mod_in (a n : Int) (h : 1 ≤ n) : 0 ≤ a % n ∧ a % n < n := ⟨Int.emod_nonneg _ (by omega), Int.emod_lt_of_pos _ (by omega)⟩

set_option maxHeartbeats 1000000 in
theorem pick_b (r xb xo : Nat) (p n : Int) (len cap : Nat) (f : Nat → Int) (w : World) (hp0 : 0 ≤ p) (hp1 : p ≤ 100000) (hn0 : 1 ≤ n) (hn1 : n ≤ 10000)
    (h0 : w.cell? ⟨r, 0, none⟩ = some (.slice (some ⟨xb, xo, none⟩) len cap)) (h1 : w.cell? ⟨r, 1, none⟩ = some (.int .i64 p)) (hf : w.frozen? ⟨r, 1, none⟩ = false) (hl : 0 < len) (hl2 : len ≤ 2000) (hr : xb ≠ r)
    (hrow : ∀ i, i < len → w.cell? ⟨xb, xo + i, none⟩ = some (.int .u8 (f i))) (hby : ∀ i, 0 ≤ f i ∧ f i ≤ 255) (hlt : p < len) :
    Calls Try.prog 22 #[.pointer (some ⟨r, 0, none⟩), .int .i64 n] w fun e w' => ∃ k, e = .returned (.int .i64 k) ∧ 0 ≤ k ∧ k < n ∧ w' = (w.setCell ⟨r, 1, none⟩ (.int .i64 (p + 1))) := by
  have hn : ¬ n < 1 := by omega
  have hln : ((len : Int) == 0) = false := by simp; omega
  have hrow2 : ∀ i, i < len → (w.setCell ⟨r, 1, none⟩ (.int .i64 (p + 1))).cell? ⟨xb, xo + i, none⟩ = some (.int .u8 (f i)) := fun i hi => by
    rw [World.cell?_setCell_far _ _ _ _ (by simpa using fun h => hr h.symm)]; exact hrow i hi
  have hk := hrow2 p.toNat (by omega)
  obtain ⟨b0, b1⟩ := hby p.toNat
  clear hrow hby
  go_enter Try.func22, Try.ntmps22
  go_wp2
  go_ret
  exact ⟨_, rfl, (mod_in _ _ hn0).1, (mod_in _ _ hn0).2, rfl⟩

theorem bits_xor_i64_nat (a b : Nat) (ha : a < 4611686018427387904) (hb : b < 4611686018427387904) : bits .xor .i64 (a : Int) (b : Int) = ((a ^^^ b : Nat) : Int) := by
  have hx : a ^^^ b < 2 ^ 62 := Nat.xor_lt_two_pow (by omega) (by omega)
  have h1 : (BitVec.ofInt 64 (a : Int)).toNat = a := by
    rw [BitVec.ofInt_natCast, BitVec.toNat_ofNat]; exact Nat.mod_eq_of_lt (by omega)
  have h2 : (BitVec.ofInt 64 (b : Int)).toNat = b := by
    rw [BitVec.ofInt_natCast, BitVec.toNat_ofNat]; exact Nat.mod_eq_of_lt (by omega)
  show IntKind.i64.wrap ((BitVec.ofInt 64 (a : Int) ^^^ BitVec.ofInt 64 (b : Int)).toNat : Int) = _
  rw [BitVec.toNat_xor, h1, h2, IntKind.wrap_i64]
  omega

theorem xor_tmod (a b n : Int) (ha : 0 ≤ a) (ha2 : a < 4611686018427387904) (hb : 0 ≤ b) (hb2 : b < 4611686018427387904) (hn : 1 ≤ n) : 0 ≤ (bits .xor .i64 a b).tmod n ∧ (bits .xor .i64 a b).tmod n < n := by
  obtain ⟨x, rfl⟩ := Int.eq_ofNat_of_zero_le ha
  obtain ⟨y, rfl⟩ := Int.eq_ofNat_of_zero_le hb
  rw [bits_xor_i64_nat x y (by omega) (by omega), Int.tmod_eq_emod_of_nonneg (by omega)]
  exact mod_in _ _ hn

set_option maxHeartbeats 2000000 in
theorem pick_c (r xb xo : Nat) (p n : Int) (len cap : Nat) (f : Nat → Int) (w : World) (hp0 : 0 ≤ p) (hp1 : p ≤ 100000) (hn0 : 1 ≤ n) (hn1 : n ≤ 10000)
    (h0 : w.cell? ⟨r, 0, none⟩ = some (.slice (some ⟨xb, xo, none⟩) len cap)) (h1 : w.cell? ⟨r, 1, none⟩ = some (.int .i64 p)) (hf : w.frozen? ⟨r, 1, none⟩ = false) (hl : 0 < len) (hl2 : len ≤ 2000) (hr : xb ≠ r)
    (hrow : ∀ i, i < len → w.cell? ⟨xb, xo + i, none⟩ = some (.int .u8 (f i))) (hby : ∀ i, 0 ≤ f i ∧ f i ≤ 255) (hge : (len : Int) ≤ p) :
    Calls Try.prog 22 #[.pointer (some ⟨r, 0, none⟩), .int .i64 n] w fun e w' => ∃ k, e = .returned (.int .i64 k) ∧ 0 ≤ k ∧ k < n ∧ ∃ j, w' = (w.setCell ⟨r, 1, none⟩ (.int .i64 (p + 1))).drewN j := by
  have hn : ¬ n < 1 := by omega
  have hln : ((len : Int) == 0) = false := by simp; omega
  have hlp : (0 : Int) < (len : Int) := by omega
  have hrow2 : ∀ i, i < len → (w.setCell ⟨r, 1, none⟩ (.int .i64 (p + 1))).cell? ⟨xb, xo + i, none⟩ = some (.int .u8 (f i)) := fun i hi => by
    rw [World.cell?_setCell_far _ _ _ _ (by simpa using fun h => hr h.symm)]; exact hrow i hi
  have m1 := mod_in p len (by omega)
  have m2 := mod_in (p * 7 + 3) len (by omega)
  have hk1 := hrow2 (p % len).toNat (by omega)
  have hk2 := hrow2 ((p * 7 + 3) % len).toNat (by omega)
  obtain ⟨b0, b1⟩ := hby (p % len).toNat
  obtain ⟨c0, c1⟩ := hby ((p * 7 + 3) % len).toNat
  obtain ⟨m10, m11⟩ := m1
  have d0 : 0 ≤ p / (len : Int) := Int.ediv_nonneg hp0 (by omega)
  have d1 : p / (len : Int) ≤ 100000 := Int.le_trans (Int.ediv_le_self _ hp0) hp1
  obtain ⟨m20, m21⟩ := m2
  clear hrow hby
  go_enter Try.func22, Try.ntmps22
  go_wp2
  go_quiet (fail)
  go_wp2
  go_ret
  exact ⟨_, rfl, (xor_tmod _ _ n (by omega) (by omega) (by omega) (by omega) hn0).1, (xor_tmod _ _ n (by omega) (by omega) (by omega) (by omega) hn0).2, _, rfl⟩
end Go.Proofs.Ytifijknogofklaa
