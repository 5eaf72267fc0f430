/- What is drawn to be asked, with room for all. -/
import Derived.Test.YtifijknogofklaaDc
import Derived.Test.YtifijknogofklaaSf
import Derived.Test.YtifijknogofklaaLas
namespace Go.Proofs.Ytifijknogofklaa
open Go.RowKit

theorem run_field0 (x y : Int) (w : World) : (Instr.field 32 (.agg #[.int .i64 x, .int .i64 y]) 0).run Try.prog w = .ok (.int .i64 x) w := by
  simp [Instr.field, asAgg, run_underlying Try.underlying32, go_sem]
theorem run_field1 (x y : Int) (w : World) : (Instr.field 32 (.agg #[.int .i64 x, .int .i64 y]) 1).run Try.prog w = .ok (.int .i64 y) w := by
  simp [Instr.field, asAgg, run_underlying Try.underlying32, go_sem]

set_option maxRecDepth 100000 in
set_option maxHeartbeats 4000000 in
theorem l2Roomy_any (r : Nat) (b : Int) (w : World) (hR : Rd w r b) (hb : b ≤ 90000) :
    Calls Try.prog 78 #[.pointer (some ⟨r, 0, none⟩)] w fun e w' => ∃ v, e = .returned v ∧ OwnCfg w' w.heap.size v ∧ Rd w' r (b + 300) ∧ But r w w' := by
  have hrl := hR.lt
  go_enter Try.func78, Try.ntmps78
  go_wp2_with fail
  refine (l2Cfg_any r b _ (hR.keep (by go_grown)) hb).mono ?_
  rintro e w1 ⟨v, rfl, ⟨g1, n1, c1, g2, n2, c2, xs1, xs2, s, k, i, b0, rfl, ⟨p1, p2, o1, j1⟩, ⟨p3, p4, o2, j2⟩, hgg⟩, hR1, hB1⟩
  have hN1 : Blk w1 w.heap.size #[.slice none 0 0, .slice none 0 0, .int .i64 0, .int .i64 0, .int .i64 0, .int .i64 0] 26 := (Blk.new w _ _).but hB1 (by omega)
  have hb1 := o1.lt g1 rfl
  have hb2 := o2.lt g2 rfl
  simp at hb1 hb2
  have hM1 : Mine r w (w1.alloc (.cells #[.slice (some ⟨g1, 0, none⟩) n1 c1, .slice (some ⟨g2, 0, none⟩) n2 c2, .int .i64 s, .int .i64 k, .int .i64 i, .int .i64 b0] 26)) (w.heap.size + 1) w.heap.size w1.heap.size g1 n1 c1 g2 n2 c2 s k i b0 xs1 xs2 #[.slice none 0 0, .slice none 0 0, .int .i64 0, .int .i64 0, .int .i64 0, .int .i64 0] (b + 200) := ⟨((But.of_below (by go_grown)).trans hB1).alloc _, hR1.keep (by go_grown), hN1.alloc _, Blk.new _ _ _, by simpa using o1.alloc _, j1, by simpa using o2.alloc _, j2⟩
  have HM1 := hide hM1
  have hN1l := hN1.lt
  clear hM1 o1 o2 j1 j2 hN1 hB1
  go_wp2_with fail
  refine (pickR r _ _ _ HM1.out.2.1 (by omega) (by omega) (by omega)).mono ?_
  rintro e w2 ⟨kz, rfl, kz0, kz1, hR2, hB2⟩
  obtain ⟨kk, rfl⟩ := Int.eq_ofNat_of_zero_le kz0
  have hM2 := (HM1.out.but hB2 hR2 (by omega) (by omega) (by omega)).mono (bd' := b + 250) (by omega)
  have HM2 := hide hM2
  have uc := hM2.2.2.2.1.cell
  have hCl := hM2.2.2.2.1.lt
  have hg2l := (hM2.2.2.2.2.2.2.1.lt g2 rfl).2
  have hkk : kk < n2 := by omega
  have hk5 : kk * 5 + 5 ≤ n2 * 5 := by have := Nat.mul_le_mul_right 5 (show kk + 1 ≤ n2 from hkk); omega
  have q0 := (hM2.gcell (kk * 5) (by omega)).1
  have q1 := (hM2.gcell (kk * 5 + 1) (by omega)).1
  have HCF := hide (hM2.cfg p2 p4)
  clear hM2 HM1 hB2 hR2 hR1
  have hfd0 := run_field0
  have hfd1 := run_field1
  go_wp2
  refine wp_region_below_lastT (by kernel_rfl) (by simp) (by kernel_rfl) (by kernel_rfl) ?_
  simp only [frontOf, lastOf]
  repeat (first
    | (apply quiet_at (hg := rfl); (· (intro w' hw'; obtain ⟨hc, hf⟩ := bcell hw'; go_simp; first | (go_at_call 89; refine (sMost_any _ _ _ (HCF.out.keep hw')).mono ?_; rintro e w9 ⟨rfl, hb9⟩; exact ⟨rfl, bel_trans hw' hb9⟩) | (go_at_call 88; refine (specMost_any _ _ _ _ _).mono ?_; rintro e w9 ⟨rfl, hb9⟩; exact ⟨rfl, bel_trans hw' hb9⟩) | rfl)); simp only [Act.put, List.setIfInBounds_toArray, List.set_cons_zero, List.set_cons_succ]))
  refine wpQuiet_nil ?_
  intro w3 hw3
  have hM3 := HM2.out.bel hw3
  have HM3 := hide hM3
  have vc := hM3.2.2.2.1.cell
  have y0 := hM3.gcell (kk * 5) (by omega)
  have y1 := hM3.gcell (kk * 5 + 1) (by omega)
  have y3 := hM3.gcell (kk * 5 + 3) (by omega)
  obtain ⟨y00, y01⟩ := y0
  obtain ⟨y10, y11⟩ := y1
  obtain ⟨y30, y31⟩ := y3
  have hCg : w1.heap.size ≠ g2 := by omega
  have hCg1 : w1.heap.size ≠ g1 := by omega
  clear hM3 HM2 HCF uc q0 q1 hw3 hfd0 hfd1
  go_wp2
  go_loopw [5] (fun i' w' => ∃ kq : Nat, kq ≤ n1 ∧ i' = .int .i64 kq ∧ ∃ ys1 ys2, Hid (Mine r w w' (w.heap.size + 1) w.heap.size w1.heap.size g1 n1 c1 g2 n2 c2 s k i b0 ys1 ys2 #[.slice none 0 0, .slice none 0 0, .int .i64 0, .int .i64 0, .int .i64 0, .int .i64 0] (b + 250))) (fun i' _ => n1 - (intOf i').toNat)
  case atStart => exact ⟨0, by omega, rfl, _, _, ((HM3.out.group (by omega) (by omega) (by omega) hCg hgg _ _).group (by omega) (by omega) (by omega) hCg hgg _ _).group (by omega) (by omega) (by omega) hCg hgg _ _⟩
  case round =>
    clear HM3 vc y00 y01 y10 y11 y30 y31
    obtain ⟨kq, hkq, rfl, ys1, ys2, HM⟩ := hrel
    have vc := HM.out.2.2.2.1.cell
    have hCr := HM.out.2.2.2.1.lt
    by_cases hlt : kq < n1
    · have hlt' : (kq : Int) < (n1 : Int) := by omega
      go_wp2_with fail
      refine (sRoomy_any _ _ _ (HM.out.cfg p2 p4)).mono ?_
      rintro e w4 ⟨rfl, hB4⟩
      have hM4 := HM.out.bel hB4
      have HM4 := hide hM4
      have vc4 := hM4.2.2.2.1.cell
      have hCr4 := hM4.2.2.2.1.lt
      clear hM4 HM vc hCr
      cases roomyB _
      · have z2 := HM4.out.wcell (kq * 8 + 2) (by have := Nat.mul_le_mul_right 8 (show kq + 1 ≤ n1 from hlt); omega)
        have z3 := HM4.out.wcell (kq * 8 + 3) (by have := Nat.mul_le_mul_right 8 (show kq + 1 ≤ n1 from hlt); omega)
        obtain ⟨z20, z21⟩ := z2
        obtain ⟨z30, z31⟩ := z3
        have hg1l := (HM4.out.2.2.2.2.1.lt g1 rfl).2
        have hk0 : (0 : Int) ≤ (kq : Int) := by omega
        go_wp2
        refine wp_region_below_lastT (by kernel_rfl) (by simp) (by kernel_rfl) (by kernel_rfl) ?_
        simp only [frontOf, lastOf]
        repeat (first
          | (apply quiet_at (hg := rfl); (· (intro w' hw'; obtain ⟨hc, hf⟩ := bcell hw'; go_simp; first | rfl)); simp only [Act.put, List.setIfInBounds_toArray, List.set_cons_zero, List.set_cons_succ]))
        refine wpQuiet_nil ?_
        intro w5 hw5
        have HM5 := hide (HM4.out.bel hw5)
        have x3 := HM5.out.wcell (kq * 8 + 3) (by have := Nat.mul_le_mul_right 8 (show kq + 1 ≤ n1 from hlt); omega)
        obtain ⟨x30, x31⟩ := x3
        clear HM4 hw5 z20 z21 z30 z31 vc4
        go_wp2
        go_roundw
        case rel => exact ⟨kq + 1, by omega, by go_num, _, _, HM5.out.work (by omega) (by omega) (by omega) hCg1 hgg _ _⟩
        case measure => simp [intOf]; omega
      · have bc := HM4.out.2.2.1.cell
        have bf := HM4.out.2.2.1.frozen
        have hNl := HM4.out.2.2.1.lt
        have hCN : w.heap.size ≠ w1.heap.size := by omega
        try dsimp only
        repeat (first | go_values | go_skip | go_guarded | go_step | go_upon)
        refine bodyPost_ret (v := .agg #[.slice (some ⟨g1, 0, none⟩) n1 c1, .slice (some ⟨g2, 0, none⟩) n2 c2, .int .i64 s, .int .i64 k, .int .i64 i, .int .i64 b0]) (by simp [results, Try.results78, go_sem, *]) rfl ⟨_, rfl, ⟨g1, n1, c1, g2, n2, c2, ys1, ys2, _, _, _, _, rfl, ⟨p1, p2, ?_, HM4.out.2.2.2.2.2.1⟩, ⟨p3, p4, ?_, HM4.out.2.2.2.2.2.2.2⟩, hgg⟩, ?_, ?_⟩
        · repeat (refine owns_far ?_ _ (fun k hk => by simp [Value.ownBlock] at hk; simp; omega))
          exact owns_mono HM4.out.2.2.2.2.1 (by omega)
        · repeat (refine owns_far ?_ _ (fun k hk => by simp [Value.ownBlock] at hk; simp; omega))
          exact owns_mono HM4.out.2.2.2.2.2.2.1 (by omega)
        · refine (Rd.far (w := w4) HM4.out.2.1 ?_).mono (by omega)
          repeat (refine Below.setCell ?_ (by simp; omega) _)
          exact Below.refl _ _
        · repeat (refine But.setCell ?_ (.inr (by simp)) _)
          exact HM4.out.1
    · have bc := HM.out.2.2.1.cell
      have bf := HM.out.2.2.1.frozen
      have hNl := HM.out.2.2.1.lt
      have hCN : w.heap.size ≠ w1.heap.size := by omega
      try dsimp only
      repeat (first | go_values | go_skip | go_guarded | go_step | go_upon)
      refine bodyPost_ret (v := .agg #[.slice (some ⟨g1, 0, none⟩) n1 c1, .slice (some ⟨g2, 0, none⟩) n2 c2, .int .i64 s, .int .i64 k, .int .i64 i, .int .i64 b0]) (by simp [results, Try.results78, go_sem, *]) rfl ⟨_, rfl, ⟨g1, n1, c1, g2, n2, c2, ys1, ys2, _, _, _, _, rfl, ⟨p1, p2, ?_, HM.out.2.2.2.2.2.1⟩, ⟨p3, p4, ?_, HM.out.2.2.2.2.2.2.2⟩, hgg⟩, ?_, ?_⟩
      · repeat (refine owns_far ?_ _ (fun k hk => by simp [Value.ownBlock] at hk; simp; omega))
        exact owns_mono HM.out.2.2.2.2.1 (by omega)
      · repeat (refine owns_far ?_ _ (fun k hk => by simp [Value.ownBlock] at hk; simp; omega))
        exact owns_mono HM.out.2.2.2.2.2.2.1 (by omega)
      · refine (Rd.far (w := wr) HM.out.2.1 ?_).mono (by omega)
        repeat (refine Below.setCell ?_ (by simp; omega) _)
        exact Below.refl _ _
      · repeat (refine But.setCell ?_ (.inr (by simp)) _)
        exact HM.out.1
end Go.Proofs.Ytifijknogofklaa
