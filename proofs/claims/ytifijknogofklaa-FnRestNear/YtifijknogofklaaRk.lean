/- The draw of what is asked, a work, a load and pods. -/
import Derived.Test.YtifijknogofklaaRj
import Derived.Test.YtifijknogofklaaRd
namespace Go.Proofs.Ytifijknogofklaa
open Go.RowKit

theorem Firm.target {w : World} {base : Nat} {aw : Option Addr} {lw cw : Nat} {ag : Option Addr} {lg cg : Nat} {s k i b : Int} {c : Cf} (h : Firm w base (.agg #[.slice aw lw cw, .slice ag lg cg, .int .i64 s, .int .i64 k, .int .i64 i, .int .i64 b]) c) {j : Nat} (hj : j < c.works.length) :
    ∃ b o, ∃ tg : Int, aw = some ⟨b, o, none⟩ ∧ w.cell? ⟨b, o + j * 8 + 4, none⟩ = some (.int .i64 tg) ∧ ∀ w', Only (fun k => k < base) w w' → w'.cell? ⟨b, o + j * 8 + 4, none⟩ = some (.int .i64 tg) := by
  have go : ∀ w', CfgAt w' (.agg #[.slice aw lw cw, .slice ag lg cg, .int .i64 s, .int .i64 k, .int .i64 i, .int .i64 b]) c → ∃ b o, aw = some ⟨b, o, none⟩ ∧ w'.cell? ⟨b, o + j * 8 + 4, none⟩ = some (.int .i64 c.works[j].target) := by
    intro w' hc
    obtain ⟨aw', lw', cw', ag', lg', cg', he, ⟨h1, h2, h3⟩, _⟩ := hc
    simp only [Value.agg.injEq, Array.mk.injEq, List.cons.injEq, Value.slice.injEq] at he
    obtain ⟨⟨rfl, rfl, rfl⟩, _⟩ := he
    obtain ⟨b, o, ha, _, _, _, _, _, h4, _⟩ := h3.at j hj
    exact ⟨b, o, ha, h4⟩
  obtain ⟨b, o, rfl, h4⟩ := go w h.1
  refine ⟨b, o, _, rfl, h4, fun w' ho => ?_⟩
  obtain ⟨b', o', ha, h5⟩ := go w' (h.2 w' ho)
  cases ha
  exact h5

set_option maxRecDepth 100000 in
set_option maxHeartbeats 4000000 in
theorem drawRestNear_any (xa : Option Addr) (len cap : Nat) (f : Nat → Int) (w : World) (hby : Bytes w xa len cap f) :
    Calls Try.prog 7 #[.slice xa len cap] w fun e w' => ∃ v c k n q, e = .returned (.tuple #[v, .int .i64 k, .int .i64 n, .int .i64 q]) ∧ CfgAt w' v c ∧ c.works.length ≤ 3 ∧ c.groups.length ≤ 3 ∧ 0 ≤ q ∧ q ≤ 8 ∧ Below w.heap.size w w' := by
  have HBY := hide hby
  go_enter Try.func7, Try.ntmps7
  go_wp2_with fail
  have hby0 := hby.keep (w' := w.alloc (.cells #[.slice none 0 0, .slice none 0 0, .int .i64 0, .int .i64 0, .int .i64 0, .int .i64 0] 26)) (by go_grown)
  refine (open_rd xa len cap f _ hby0).mono ?_
  rintro e w0 ⟨r, rfl, hr, hrd, hb0, hrl⟩
  simp at hr
  subst hr
  have hBN : Blk w0 w.heap.size #[.slice none 0 0, .slice none 0 0, .int .i64 0, .int .i64 0, .int .i64 0, .int .i64 0] 26 := (Blk.new w _ _).below hb0 (by simp)
  have hbw : Below w.heap.size w w0 := Below.trans (by go_grown) (hb0.mono (by simp))
  clear hby hby0 hb0
  go_wp2_with fail
  refine (drawRestWant_any xa len cap f w0 (HBY.out.keep hbw)).mono ?_
  rintro e w1 ⟨v, c, k, n, rfl, hF, l1, l2, k0, k1, n0, n1, hB1⟩
  have hBN1 := hBN.below hB1 hBN.lt
  have hs1 := hB1.size
  have hR1 := hrd.keep hB1
  obtain ⟨aw, lw, cw, ag, lg, cg, rfl, ⟨hh0, hh1, hh3⟩, hh2⟩ := hF.1
  have HF := hide hF
  have HL := hide hh0
  have HB1 : Hid (Below w.heap.size w w1) := hbw.trans (hB1.mono (by omega))
  clear hrd hBN hh1 hh2 hh3 hF hB1 hh0
  go_wp2_with fail
  refine (pickR (w.heap.size + 1) 9 _ _ (hR1.keep (by go_grown)) (by omega) (by omega) (by omega)).mono ?_
  rintro e w2 ⟨q, rfl, q0, q1, hR2, hB2⟩
  have hX2 : Blk w2 w1.heap.size #[.slice aw lw cw, .slice ag lg cg, .int .i64 c.start, .int .i64 c.calm, .int .i64 c.idle, .int .i64 c.back] 26 := (Blk.new w1 _ _).but hB2 (by omega)
  have hN2 : Blk w2 w.heap.size #[.slice none 0 0, .slice none 0 0, .int .i64 0, .int .i64 0, .int .i64 0, .int .i64 0] 26 := (hBN1.alloc _).but hB2 (by omega)
  have HO2 : Hid (Only (fun k => k < w0.heap.size) w1 w2) := ((Only.refl _ _).alloc _).trans (.of_but hB2 hrl)
  have HB2 : Hid (Below w.heap.size w w2) := HB1.out.trans (Below.trans (by go_grown) (hB2.below (by omega) (by simp; omega)))
  have hNs : w.heap.size < w0.heap.size := by omega
  have hXl := hX2.lt
  have hNl := hN2.lt
  have hXc := hX2.cell
  have hNc := hN2.cell
  have hNf := hN2.frozen
  clear hR1 hBN1 hB2
  cases hin : isAt k lw
  · have hno : ¬ (0 ≤ k ∧ k < (lw : Int)) := by intro h; simp [isAt, h.1, h.2] at hin
    by_cases hk : 0 ≤ k
    · have hk2 : ¬ k < (lw : Int) := fun h => hno ⟨hk, h⟩
      clear hin hno
      go_wp2
      repeat (first | go_values | go_skip | go_guarded | go_step | go_upon)
      refine bodyPost_ret (v := .tuple #[.agg #[.slice aw lw cw, .slice ag lg cg, .int .i64 c.start, .int .i64 c.calm, .int .i64 c.idle, .int .i64 c.back], .int .i64 k, .int .i64 n, .int .i64 q]) (by simp [results, Try.results7, go_sem, *]) rfl ⟨_, c, k, n, q, rfl, HF.out.2 _ ?_, l1, l2, q0, by omega, ?_⟩
      · exact ((((((HO2.out.set (p := ⟨w.heap.size, 0, none⟩) hNs _).set (p := ⟨w.heap.size, 1, none⟩) hNs _).set (p := ⟨w.heap.size, 2, none⟩) hNs _).set (p := ⟨w.heap.size, 3, none⟩) hNs _).set (p := ⟨w.heap.size, 4, none⟩) hNs _).set (p := ⟨w.heap.size, 5, none⟩) hNs _)
      · exact ((((((HB2.out.setCell (p := ⟨w.heap.size, 0, none⟩) (Nat.le_refl _) _).setCell (p := ⟨w.heap.size, 1, none⟩) (Nat.le_refl _) _).setCell (p := ⟨w.heap.size, 2, none⟩) (Nat.le_refl _) _).setCell (p := ⟨w.heap.size, 3, none⟩) (Nat.le_refl _) _).setCell (p := ⟨w.heap.size, 4, none⟩) (Nat.le_refl _) _).setCell (p := ⟨w.heap.size, 5, none⟩) (Nat.le_refl _) _)
    · clear hin hno
      go_wp2
      repeat (first | go_values | go_skip | go_guarded | go_step | go_upon)
      refine bodyPost_ret (v := .tuple #[.agg #[.slice aw lw cw, .slice ag lg cg, .int .i64 c.start, .int .i64 c.calm, .int .i64 c.idle, .int .i64 c.back], .int .i64 k, .int .i64 n, .int .i64 q]) (by simp [results, Try.results7, go_sem, *]) rfl ⟨_, c, k, n, q, rfl, HF.out.2 _ ?_, l1, l2, q0, by omega, ?_⟩
      · exact ((((((HO2.out.set (p := ⟨w.heap.size, 0, none⟩) hNs _).set (p := ⟨w.heap.size, 1, none⟩) hNs _).set (p := ⟨w.heap.size, 2, none⟩) hNs _).set (p := ⟨w.heap.size, 3, none⟩) hNs _).set (p := ⟨w.heap.size, 4, none⟩) hNs _).set (p := ⟨w.heap.size, 5, none⟩) hNs _)
      · exact ((((((HB2.out.setCell (p := ⟨w.heap.size, 0, none⟩) (Nat.le_refl _) _).setCell (p := ⟨w.heap.size, 1, none⟩) (Nat.le_refl _) _).setCell (p := ⟨w.heap.size, 2, none⟩) (Nat.le_refl _) _).setCell (p := ⟨w.heap.size, 3, none⟩) (Nat.le_refl _) _).setCell (p := ⟨w.heap.size, 4, none⟩) (Nat.le_refl _) _).setCell (p := ⟨w.heap.size, 5, none⟩) (Nat.le_refl _) _)
  · obtain ⟨j, hj1, hj2⟩ := isAt_nat hin
    obtain ⟨b, o, tg, rfl, ht1, ht⟩ := HF.out.target (j := j) (by rw [HL.out]; exact hj2)
    have ht2 := ht _ HO2.out
    have HT := hide ht
    have hk0 : (0 : Int) ≤ (j : Int) := by omega
    have hkn : (j : Int) < (lw : Int) := by omega
    subst hj1
    clear hin ht ht1 hj2
    go_wp2_with fail
    refine (pickR (w.heap.size + 1) 2 _ _ hR2 (by omega) (by omega) (by omega)).mono ?_
    rintro e w3 ⟨q2, rfl, q20, q21, hR3, hB3⟩
    have hX3 := hX2.but hB3 (by omega)
    have hN3 := hN2.but hB3 (by omega)
    have HO3 : Hid (Only (fun k => k < w0.heap.size) w1 w3) := HO2.out.trans (.of_but hB3 hrl)
    have HB3 : Hid (Below w.heap.size w w3) := HB2.out.trans (hB3.below (by omega) (by omega))
    have ht3 := HT.out _ HO3.out
    clear hXc hNc hNf hXl hNl ht2 hB3 hX2 hN2 HO2 HB2
    have hXl := hX3.lt
    have hNl := hN3.lt
    have hXc := hX3.cell
    have hNc := hN3.cell
    have hNf := hN3.frozen
    by_cases hq : q2 = 0
    · go_wp2
      have hrd : Rd w3.drew (w.heap.size + 1) (0 + 1 + 1) := hR3.keep ((Below.refl _ _).drew)
      have hrp := hide hR3
      have hne : w1.heap.size ≠ w.heap.size + 1 := by omega
      have hne2 : w.heap.size ≠ w.heap.size + 1 := by omega
      clear hR3
      go_region_with (first | (go_at_call 22; refine (pickR (w.heap.size + 1) 5 _ _ hrp.out (by omega) (by omega) (by omega)).mono ?_; rintro e w4 ⟨q3, rfl, q30, q31, hR4, hB4⟩; have hX4 := hX3.but hB4 hne; have hN4 := hN3.but hB4 hne2; have HO4 : Hid (Only (fun k => k < w0.heap.size) w1 w4) := HO3.out.trans (.of_but hB4 hrl); have ht4 := HT.out _ HO4.out; have hXc4 := hX4.cell; have hNc4 := hN4.cell; have hNf4 := hN4.frozen; have HB4 : Hid (Below w.heap.size w w4) := HB3.out.trans (hB4.below (by omega) (by omega))) | (go_at_call 22; refine (pickR (w.heap.size + 1) 5 _ _ hrd (by omega) (by omega) (by omega)).mono ?_; rintro e w4 ⟨q3, rfl, q30, q31, hR4, hB4⟩; have hB4' : But (w.heap.size + 1) w3 w4 := ((But.refl _ w3).drew).trans hB4; have hX4 := hX3.but hB4' hne; have hN4 := hN3.but hB4' hne2; have HO4 : Hid (Only (fun k => k < w0.heap.size) w1 w4) := HO3.out.trans (.of_but hB4' hrl); have ht4 := HT.out _ HO4.out; have hXc4 := hX4.cell; have hNc4 := hN4.cell; have hNf4 := hN4.frozen; have HB4 : Hid (Below w.heap.size w w4) := HB3.out.trans (hB4'.below (by omega) (by omega))))
      all_goals generalize hn4 : IntKind.i64.wrap (IntKind.i64.wrap (IntKind.i64.wrap (tg * q) + q3) - 2) = n4
      all_goals go_wp2
      all_goals refine bodyPost_ret (v := .tuple #[.agg #[.slice (some ⟨b, o, none⟩) lw cw, .slice ag lg cg, .int .i64 c.start, .int .i64 c.calm, .int .i64 c.idle, .int .i64 c.back], .int .i64 j, .int .i64 n4, .int .i64 q]) (by simp [results, Try.results7, go_sem, *]) rfl ⟨_, c, j, n4, q, rfl, HF.out.2 _ ?_, l1, l2, q0, by omega, ?_⟩
      all_goals first
        | exact ((((((HO4.out.set (p := ⟨w.heap.size, 0, none⟩) hNs _).set (p := ⟨w.heap.size, 1, none⟩) hNs _).set (p := ⟨w.heap.size, 2, none⟩) hNs _).set (p := ⟨w.heap.size, 3, none⟩) hNs _).set (p := ⟨w.heap.size, 4, none⟩) hNs _).set (p := ⟨w.heap.size, 5, none⟩) hNs _)
        | exact ((((((HB4.out.setCell (p := ⟨w.heap.size, 0, none⟩) (Nat.le_refl _) _).setCell (p := ⟨w.heap.size, 1, none⟩) (Nat.le_refl _) _).setCell (p := ⟨w.heap.size, 2, none⟩) (Nat.le_refl _) _).setCell (p := ⟨w.heap.size, 3, none⟩) (Nat.le_refl _) _).setCell (p := ⟨w.heap.size, 4, none⟩) (Nat.le_refl _) _).setCell (p := ⟨w.heap.size, 5, none⟩) (Nat.le_refl _) _)
    · go_wp2
      repeat (first | go_values | go_skip | go_guarded | go_step | go_upon)
      refine bodyPost_ret (v := .tuple #[.agg #[.slice (some ⟨b, o, none⟩) lw cw, .slice ag lg cg, .int .i64 c.start, .int .i64 c.calm, .int .i64 c.idle, .int .i64 c.back], .int .i64 j, .int .i64 n, .int .i64 q]) (by simp [results, Try.results7, go_sem, *]) rfl ⟨_, c, j, n, q, rfl, HF.out.2 _ ?_, l1, l2, q0, by omega, ?_⟩
      · exact ((((((HO3.out.set (p := ⟨w.heap.size, 0, none⟩) hNs _).set (p := ⟨w.heap.size, 1, none⟩) hNs _).set (p := ⟨w.heap.size, 2, none⟩) hNs _).set (p := ⟨w.heap.size, 3, none⟩) hNs _).set (p := ⟨w.heap.size, 4, none⟩) hNs _).set (p := ⟨w.heap.size, 5, none⟩) hNs _)
      · exact ((((((HB3.out.setCell (p := ⟨w.heap.size, 0, none⟩) (Nat.le_refl _) _).setCell (p := ⟨w.heap.size, 1, none⟩) (Nat.le_refl _) _).setCell (p := ⟨w.heap.size, 2, none⟩) (Nat.le_refl _) _).setCell (p := ⟨w.heap.size, 3, none⟩) (Nat.le_refl _) _).setCell (p := ⟨w.heap.size, 4, none⟩) (Nat.le_refl _) _).setCell (p := ⟨w.heap.size, 5, none⟩) (Nat.le_refl _) _)
end Go.Proofs.Ytifijknogofklaa
