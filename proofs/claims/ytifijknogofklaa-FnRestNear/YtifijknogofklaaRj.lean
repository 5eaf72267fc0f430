/- The draw of what is asked, a work and a load. -/
import Derived.Test.YtifijknogofklaaDf
namespace Go.Proofs.Ytifijknogofklaa
open Go.RowKit

theorem Firm.of {w1 w' : World} {base base' : Nat} {v : Value} {c : Cf} (h : Firm w1 base v c) (ho : Only (fun k => k < base) w1 w') (hb : base' ≤ base) : Firm w' base' v c :=
  ⟨h.2 _ ho, fun _ h2 => h.2 _ (ho.trans (h2.mono fun k hk => Nat.lt_of_lt_of_le (show k < base' from hk) hb))⟩

theorem lit10 : ∀ i, i < 10 → ∃ v, (#[Value.int .i64 0, .int .i64 1, .int .i64 9, .int .i64 10, .int .i64 11, .int .i64 150, .int .i64 700, .int .i64 1000000, .int .i64 1000001, .int .i64 (-1)] : Array Value)[i]? = some (.int .i64 v) ∧ -1 ≤ v ∧ v ≤ 1000001 := by
  intro i hi
  match i, hi with
  | 0, _ => exact ⟨_, rfl, by omega, by omega⟩
  | 1, _ => exact ⟨_, rfl, by omega, by omega⟩
  | 2, _ => exact ⟨_, rfl, by omega, by omega⟩
  | 3, _ => exact ⟨_, rfl, by omega, by omega⟩
  | 4, _ => exact ⟨_, rfl, by omega, by omega⟩
  | 5, _ => exact ⟨_, rfl, by omega, by omega⟩
  | 6, _ => exact ⟨_, rfl, by omega, by omega⟩
  | 7, _ => exact ⟨_, rfl, by omega, by omega⟩
  | 8, _ => exact ⟨_, rfl, by omega, by omega⟩
  | 9, _ => exact ⟨_, rfl, by omega, by omega⟩

set_option maxRecDepth 100000 in
set_option maxHeartbeats 2000000 in
theorem drawRestWant_any (xa : Option Addr) (len cap : Nat) (f : Nat → Int) (w : World) (hby : Bytes w xa len cap f) :
    Calls Try.prog 21 #[.slice xa len cap] w fun e w' => ∃ v c k n, e = .returned (.tuple #[v, .int .i64 k, .int .i64 n]) ∧ Firm w' w.heap.size v c ∧ c.works.length ≤ 3 ∧ c.groups.length ≤ 3 ∧ -1 ≤ k ∧ k ≤ 3 ∧ -1 ≤ n ∧ n ≤ 1000001 ∧ Below w.heap.size w w' := by
  go_enter Try.func21, Try.ntmps21
  go_wp2_with fail
  have hby0 := hby.keep (w' := w.alloc (.cells #[.slice none 0 0, .slice none 0 0, .int .i64 0, .int .i64 0, .int .i64 0, .int .i64 0] 26)) (by go_grown)
  refine (open_rd xa len cap f _ hby0).mono ?_
  rintro e w0 ⟨r, rfl, hr, hrd, hb0, hrl⟩
  simp at hr
  subst hr
  have hBN : Blk w0 w.heap.size #[.slice none 0 0, .slice none 0 0, .int .i64 0, .int .i64 0, .int .i64 0, .int .i64 0] 26 := (Blk.new w _ _).below hb0 (by simp)
  have hbw : Below w.heap.size w w0 := Below.trans (by go_grown) (hb0.mono (by simp))
  clear hby hby0 hb0
  go_wp2_with fail
  refine (l2Bent_any (w.heap.size + 1) 0 w0 hrd (by omega)).mono ?_
  rintro e w1 ⟨v, c, rfl, hF, l1, l2, hR1, hB1⟩
  have hBN1 := hBN.but hB1 (by omega)
  have hs1 := hB1.size
  have hlt1 := hBN1.lt
  obtain ⟨aw, lw, cw, ag, lg, cg, rfl, hh1, hh2⟩ := hF.1
  have HF := hide hF
  have HB1 := hide (hB1.below (B := w.heap.size) (by omega) (by omega))
  clear hrd hBN hh1 hh2 hF hB1
  go_wp2_with fail
  refine (pickR (w.heap.size + 1) 5 _ _ (hR1.keep (by go_grown)) (by omega) (by omega) (by omega)).mono ?_
  rintro e w2 ⟨k0, rfl, k00, k01, hR2, hB2⟩
  have hX2 : Blk w2 w1.heap.size #[.slice aw lw cw, .slice ag lg cg, .int .i64 c.start, .int .i64 c.calm, .int .i64 c.idle, .int .i64 c.back] 26 := (Blk.new w1 _ _).but hB2 (by omega)
  have hN2 : Blk w2 w.heap.size #[.slice none 0 0, .slice none 0 0, .int .i64 0, .int .i64 0, .int .i64 0, .int .i64 0] 26 := (hBN1.alloc _).but hB2 (by omega)
  have HO2 : Hid (Only (fun k => k < w0.heap.size) w1 w2) := ((Only.refl _ _).alloc _).trans (.of_but hB2 hrl)
  have HB2 : Hid (Below w.heap.size w w2) := hbw.trans (HB1.out.trans (Below.trans (by go_grown) (hB2.below (by omega) (by simp; omega))))
  have hrW : Rd w2.drew (w.heap.size + 1) (0 + 600 + 1) := hR2.keep ((Below.refl _ _).drew)
  have hne : w1.heap.size ≠ w.heap.size + 1 := by omega
  have hne2 : w.heap.size ≠ w.heap.size + 1 := by omega
  have hXl := hX2.lt
  have hNl := hN2.lt
  have hcs : w2.cell? ⟨w1.heap.size, 0, none⟩ = some (.slice aw lw cw) ∧ w2.cell? ⟨w1.heap.size, 1, none⟩ = some (.slice ag lg cg) ∧ w2.cell? ⟨w1.heap.size, 2, none⟩ = some (.int .i64 c.start) ∧ w2.cell? ⟨w1.heap.size, 3, none⟩ = some (.int .i64 c.calm) ∧ w2.cell? ⟨w1.heap.size, 4, none⟩ = some (.int .i64 c.idle) ∧ w2.cell? ⟨w1.heap.size, 5, none⟩ = some (.int .i64 c.back) := ⟨hX2.cell 0, hX2.cell 1, hX2.cell 2, hX2.cell 3, hX2.cell 4, hX2.cell 5⟩
  have hns := hN2.cell
  have hnf := hN2.frozen
  have hR2' := hR2
  have hXc := hX2.cell
  clear hR1 hBN1 hB2 hR2
  go_wp2
  go_region_with (first | (go_at_call 54; refine (numRd (w.heap.size + 1) _ 10 _ _ (-1) 1000001 w2 _ hrW (by omega) (by omega) (by omega) rfl lit10).mono ?_; rintro e w3 ⟨n, rfl, n0, n1, hR3, hB3⟩; have hX3 := hX2.but hB3 hne; have hN3 := hN2.but hB3 hne2; have hXc3 := hX3.cell; have hnc3 := hN3.cell; have hnf3 := hN3.frozen) | (go_at_call 54; refine (numR (w.heap.size + 1) _ 10 _ _ (-1) 1000001 w2 _ hR2' (by omega) (by omega) (by omega) rfl lit10).mono ?_; rintro e w3 ⟨n, rfl, n0, n1, hR3, hB3⟩; have hX3 := hX2.but hB3 hne; have hN3 := hN2.but hB3 hne2; have hXc3 := hX3.cell; have hnc3 := hN3.cell; have hnf3 := hN3.frozen))
  all_goals have HO3 : Only (fun k => k < w0.heap.size) w1 w3 := HO2.out.trans (.of_but hB3 hrl)
  all_goals have hS3 : Below w.heap.size w w3 := HB2.out.trans (hB3.below (by omega) (by omega))
  all_goals have hNs : w.heap.size < w0.heap.size := by omega
  all_goals simp only [Exit.then]
  all_goals repeat (first | go_values | go_skip | go_guarded | go_step | go_upon)
  all_goals refine bodyPost_ret (v := .tuple #[.agg #[.slice aw lw cw, .slice ag lg cg, .int .i64 c.start, .int .i64 c.calm, .int .i64 c.idle, .int .i64 c.back], .int .i64 (k0 - 1), .int .i64 n]) (by simp [results, Try.results21, go_sem, *]) rfl ⟨_, c, k0 - 1, n, rfl, HF.out.of ?_ (by omega), l1, l2, by omega, by omega, n0, n1, ?_⟩
  all_goals first
    | exact ((((((HO3.set (p := ⟨w.heap.size, 0, none⟩) hNs _).set (p := ⟨w.heap.size, 1, none⟩) hNs _).set (p := ⟨w.heap.size, 2, none⟩) hNs _).set (p := ⟨w.heap.size, 3, none⟩) hNs _).set (p := ⟨w.heap.size, 4, none⟩) hNs _).set (p := ⟨w.heap.size, 5, none⟩) hNs _)
    | exact ((((((hS3.setCell (p := ⟨w.heap.size, 0, none⟩) (Nat.le_refl _) _).setCell (p := ⟨w.heap.size, 1, none⟩) (Nat.le_refl _) _).setCell (p := ⟨w.heap.size, 2, none⟩) (Nat.le_refl _) _).setCell (p := ⟨w.heap.size, 3, none⟩) (Nat.le_refl _) _).setCell (p := ⟨w.heap.size, 4, none⟩) (Nat.le_refl _) _).setCell (p := ⟨w.heap.size, 5, none⟩) (Nat.le_refl _) _)
end Go.Proofs.Ytifijknogofklaa
