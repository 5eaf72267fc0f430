/- The walk of the law FnRestNear. -/
import Derived.Test.YtifijknogofklaaRk
namespace Go.Proofs.Ytifijknogofklaa
open Go.RowKit

theorem want_bd {x : Wk} (l : Int) (hx : wOk x = true) : x.min ≤ wantI x l ∧ wantI x l ≤ x.max := by
  obtain ⟨_, _, _, _, m1, m2, m3, _⟩ := wOk_bd hx
  unfold wantI maxI minI
  split <;> split <;> omega
theorem ceil_mono {l l' t : Int} (h : l ≤ l') (ht : 1 ≤ t) : ceilI l t ≤ ceilI l' t := by
  unfold ceilI
  exact Int.ediv_le_ediv (by omega) (by omega)
theorem want_mono {x : Wk} {l l' : Int} (h : l ≤ l') (ht : 1 ≤ x.target) : wantI x l ≤ wantI x l' := by
  have := ceil_mono h ht
  unfold wantI maxI minI
  repeat' split
  all_goals omega
theorem ceil_mul (l t : Int) (ht : 1 ≤ t) : l ≤ ceilI l t * t ∧ (ceilI l t - 1) * t < l := by
  have h1 := Int.mul_ediv_add_emod (l + t - 1) t
  have h2 := Int.emod_nonneg (l + t - 1) (show t ≠ 0 by omega)
  have h3 := Int.emod_lt_of_pos (l + t - 1) (show 0 < t by omega)
  have h4 : ceilI l t * t = t * ((l + t - 1) / t) := Int.mul_comm _ _
  have h5 : (ceilI l t - 1) * t = ceilI l t * t - t := by rw [Int.sub_mul, Int.one_mul]
  omega
theorem want_up {x : Wk} (l : Int) (ht : 1 ≤ x.target) (hn : ¬ wantI x l = x.max) (hb : wantI x l ≤ x.max) : l ≤ wantI x l * x.target := by
  have h1 : ceilI l x.target ≤ wantI x l := by
    revert hn hb
    unfold wantI maxI minI
    split <;> split <;> omega
  have h2 := Int.mul_le_mul_of_nonneg_right h1 (show 0 ≤ x.target by omega)
  have := (ceil_mul l x.target ht).1
  omega
theorem want_low {x : Wk} (l : Int) (ht : 1 ≤ x.target) (hn : ¬ wantI x l = x.min) (hb : x.min ≤ wantI x l) : (wantI x l - 1) * x.target < l := by
  have h1 : wantI x l ≤ ceilI l x.target := by
    revert hn hb
    unfold wantI maxI minI
    split <;> split <;> omega
  have h2 := Int.mul_le_mul_of_nonneg_right (show wantI x l - 1 ≤ ceilI l x.target - 1 by omega) (show 0 ≤ x.target by omega)
  have := (ceil_mul l x.target ht).2
  omega

set_option maxRecDepth 100000 in
set_option maxHeartbeats 8000000 in
theorem restNear_walk (xa : Option Addr) (len cap : Nat) (f : Nat → Int) (w : World) (hby : Bytes w xa len cap f) :
    Calls Try.prog 3 #[.slice xa len cap] w fun e w' => e = .returned (.bool true) ∧ Below w.heap.size w w' := by
  have hcap := hby.2.1
  have hlc := hby.1
  unfold maxLen at hcap
  by_cases hlen : len ≤ 1048576
  · go_enter Try.func3, Try.ntmps3
    go_wp2_with fail
    refine (drawRestNear_any xa len cap f _ hby).mono ?_
    rintro e w1 ⟨v, c, k, l, p, rfl, hC, l1, l2, p0, p1, hB1⟩
    have HC1 := hide hC
    obtain ⟨aw, lw, cw, ag, lg, cg, rfl, ⟨e1, e2, hW⟩, ⟨e3, e4, hG⟩⟩ := hC
    have HE := hide e1
    clear hW hG hby hcap hlc hlen e1 e3
    cases hok : canL c k l
    · have hr : Hid (restWantI c k l = 0) := by simp [restWantI, hok, Hid]
      have hn : Hid (restNearB c k l p = false) := by simp [restNearB, hok, Hid]
      clear hok
      go_wp2_with fail
      refine (restNear_any _ c k l p _ (HC1.out.keep (by go_grown))).mono ?_
      rintro e w2 ⟨rfl, hb2⟩
      rw [hn.out]
      have hbel : Below w1.heap.size w1 w2 := Below.trans (by go_grown) (hb2.mono (by simp))
      have HX2 := hide (show Blk w2 w1.heap.size #[.slice aw lw cw, .slice ag lg cg, .int .i64 c.start, .int .i64 c.calm, .int .i64 c.idle, .int .i64 c.back] 26 from (Blk.new w1 _ _).below hb2 (by simp))
      have HC2 := hide (HC1.out.keep hbel)
      have HB2 := hide (Below.trans hB1 (hbel.mono hB1.size))
      have A2 := HX2.out.cell
      have z2 := HX2.out.lt
      clear HC1 hb2 hbel
      go_wp2_with fail
      refine (restWant_any _ c k l _ HC2.out).mono ?_
      rintro e w3 ⟨rfl, hb⟩
      rw [hr.out]
      have HX3 := hide (HX2.out.below hb HX2.out.lt)
      have HC3 := hide (HC2.out.keep hb)
      have HB3 := hide (Below.trans HB2.out (hb.mono HB2.out.size))
      have A3 := HX3.out.cell
      have z3 := HX3.out.lt
      clear HC2 HX2 hb A2 z2
      go_wp2_with fail
      refine (sRestNear_any _ c k l p _ HC3.out).mono ?_
      rintro e w4 ⟨rfl, hb⟩
      rw [hn.out]
      have HX4 := hide (HX3.out.below hb HX3.out.lt)
      have HC4 := hide (HC3.out.keep hb)
      have HB4 := hide (Below.trans HB3.out (hb.mono HB3.out.size))
      have A4 := HX4.out.cell
      have z4 := HX4.out.lt
      clear HC3 HX3 hb A3 z3
      go_wp2_with fail
      refine (sRestWant_any _ c k l _ HC4.out).mono ?_
      rintro e w5 ⟨rfl, hb⟩
      rw [hr.out]
      have HX5 := hide (HX4.out.below hb HX4.out.lt)
      have HC5 := hide (HC4.out.keep hb)
      have HB5 := hide (Below.trans HB4.out (hb.mono HB4.out.size))
      have A5 := HX5.out.cell
      have z5 := HX5.out.lt
      clear HC4 HX4 hb A4 z4
      have hfin := HB5.out
      go_wp2
      all_goals go_ret
      all_goals exact ⟨rfl, hfin⟩
    · obtain ⟨k1, k2, k3, k4⟩ := canL_iff.1 hok
      obtain ⟨j, rfl, hj⟩ := isAt_nat k2
      have hx := hide (work_ok k1 hj)
      have hj2 : j < lw := by rw [← HE.out]; exact hj
      have hr : Hid (restWantI c j l = wantI c.works[j] l) := by simp [restWantI, hok, workOf_nat hj, Hid]
      have hq : Hid (restNearB c j l (wantI c.works[j] l) = true) := by
        have hb := want_bd l hx.out
        have hi : inB (wantI c.works[j] l) c.works[j].min c.works[j].max = true := in_iff.2 hb
        simp [restNearB, hok, workOf_nat hj, Hid, rightI, hi]
      have hm : Hid (l < 1000000 → restWantI c j (l + 1) = wantI c.works[j] (l + 1)) := by
        intro hl
        have : canL c j (l + 1) = true := canL_iff.2 ⟨k1, k2, by omega, by omega⟩
        simp [restWantI, this, workOf_nat hj]
      have HWK : Hid (∀ W, CfgAt W (.agg #[.slice aw lw cw, .slice ag lg cg, .int .i64 c.start, .int .i64 c.calm, .int .i64 c.idle, .int .i64 c.back]) c → ∃ b o, aw = some ⟨b, o, none⟩ ∧ b < W.heap.size ∧ W.cell? ⟨b, o + j * 8, none⟩ = some (.int .i64 c.works[j].cpu) ∧ W.cell? ⟨b, o + j * 8 + 1, none⟩ = some (.int .i64 c.works[j].mem) ∧ W.cell? ⟨b, o + j * 8 + 2, none⟩ = some (.int .i64 c.works[j].min) ∧ W.cell? ⟨b, o + j * 8 + 3, none⟩ = some (.int .i64 c.works[j].max) ∧ W.cell? ⟨b, o + j * 8 + 4, none⟩ = some (.int .i64 c.works[j].target) ∧ W.cell? ⟨b, o + j * 8 + 5, none⟩ = some (.int .i64 c.works[j].limit) ∧ W.cell? ⟨b, o + j * 8 + 6, none⟩ = some (.int .i64 c.works[j].tol) ∧ W.cell? ⟨b, o + j * 8 + 7, none⟩ = some (.int .i64 c.works[j].rank)) := by
        intro W hc
        obtain ⟨aw', lw', cw', ag', lg', cg', he, ⟨h1, h2, h3⟩, _⟩ := hc
        simp only [Value.agg.injEq, Array.mk.injEq, List.cons.injEq, Value.slice.injEq] at he
        obtain ⟨⟨rfl, rfl, rfl⟩, _⟩ := he
        exact h3.at j hj
      have HJ := hide hj
      have hk0 : (0 : Int) ≤ (j : Int) := by omega
      have hkn : (j : Int) < (lw : Int) := by omega
      generalize c.works[j] = x at *
      obtain ⟨_, _, _, _, m1, m2, m3, t1, t2, t3, o1, o2, _⟩ := wOk_bd hx.out
      obtain ⟨b1, b2⟩ := want_bd l hx.out
      have HU := hide (want_up l t1)
      have HL := hide (want_low l t1)
      have HM := hide (fun h : l ≤ l + 1 => want_mono h t1)
      have HM0 : Hid (¬ l < 1000000 → restWantI c j (l + 1) = 0) := by
        intro hl
        have : canL c j (l + 1) = false := by
          cases h : canL c j (l + 1)
          · rfl
          · have := (canL_iff.1 h).2.2.2
            omega
        simp [restWantI, this]
      generalize wantI x l = nn at *
      generalize hmm : restWantI c j (l + 1) = mm at *
      have HMM := hide hmm
      have hn0 : ¬ nn = 0 := by omega
      clear hok k2 hj hj2 hmm
      go_wp2_with fail
      refine (restNear_any _ c j l p _ (HC1.out.keep (by go_grown))).mono ?_
      rintro e w2 ⟨rfl, hb2⟩
      have hbel : Below w1.heap.size w1 w2 := Below.trans (by go_grown) (hb2.mono (by simp))
      have HX2 := hide (show Blk w2 w1.heap.size #[.slice aw lw cw, .slice ag lg cg, .int .i64 c.start, .int .i64 c.calm, .int .i64 c.idle, .int .i64 c.back] 26 from (Blk.new w1 _ _).below hb2 (by simp))
      have HC2 := hide (HC1.out.keep hbel)
      have HB2 := hide (Below.trans hB1 (hbel.mono hB1.size))
      have A2 := HX2.out.cell
      have z2 := HX2.out.lt
      clear HC1 hb2 hbel
      go_wp2_with fail
      refine (restWant_any _ c j l _ HC2.out).mono ?_
      rintro e w3 ⟨rfl, hb⟩
      rw [hr.out]
      have HX3 := hide (HX2.out.below hb HX2.out.lt)
      have HC3 := hide (HC2.out.keep hb)
      have HB3 := hide (Below.trans HB2.out (hb.mono HB2.out.size))
      have A3 := HX3.out.cell
      have z3 := HX3.out.lt
      clear HC2 HX2 hb A2 z2
      go_wp2_with fail
      refine (sRestNear_any _ c j l p _ HC3.out).mono ?_
      rintro e w4 ⟨rfl, hb⟩
      have HX4 := hide (HX3.out.below hb HX3.out.lt)
      have HC4 := hide (HC3.out.keep hb)
      have HB4 := hide (Below.trans HB3.out (hb.mono HB3.out.size))
      have A4 := HX4.out.cell
      have z4 := HX4.out.lt
      clear HC3 HX3 hb A3 z3
      go_wp2_with fail
      refine (sRestWant_any _ c j l _ HC4.out).mono ?_
      rintro e w5 ⟨rfl, hb⟩
      rw [hr.out]
      have HX5 := hide (HX4.out.below hb HX4.out.lt)
      have HC5 := hide (HC4.out.keep hb)
      have HB5 := hide (Below.trans HB4.out (hb.mono HB4.out.size))
      have A5 := HX5.out.cell
      have z5 := HX5.out.lt
      clear HC4 HX4 hb A4 z4
      obtain ⟨b, o, rfl, hbl, c0, c1, c2, c3, c4, c5, c6, c7⟩ := HWK.out _ HC5.out
      clear HWK
      have hl1 : IntKind.i64.wrap (l + 1) = l + 1 := by rw [IntKind.wrap_i64]; omega
      obtain ⟨g0, g1⟩ := mul_bd3 nn x.target 8 10000 (by omega) (by omega) (by omega) (by omega)
      obtain ⟨g2, g3⟩ := mul_bd3 (nn - 1) x.target 8 10000 (by omega) (by omega) (by omega) (by omega)
      replace g1 : nn * x.target ≤ 80000 := by omega
      replace g3 : (nn - 1) * x.target ≤ 80000 := by omega
      go_wp2_with fail
      refine (restWant_any _ c j (l + 1) _ (HC5.out.keep (by go_grown))).mono ?_
      rintro e w6 ⟨rfl, hb6⟩
      rw [HMM.out]
      have hbel : Below w5.heap.size w5 w6 := Below.trans (by go_grown) (hb6.mono (by simp))
      have hX6 : Blk w6 w1.heap.size #[.slice (some ⟨b, o, none⟩) lw cw, .slice ag lg cg, .int .i64 c.start, .int .i64 c.calm, .int .i64 c.idle, .int .i64 c.back] 26 := (HX5.out.alloc _).below hb6 (by simp; omega)
      have hY6 : Blk w6 w5.heap.size #[.int .i64 x.cpu, .int .i64 x.mem, .int .i64 x.min, .int .i64 x.max, .int .i64 x.target, .int .i64 x.limit, .int .i64 x.tol, .int .i64 x.rank] 34 := (Blk.new w5 _ _).below hb6 (by simp)
      have HC6 := hide (HC5.out.keep hbel)
      have HB6 := hide (Below.trans HB5.out (hbel.mono HB5.out.size))
      have HX6 := hide hX6
      have HY6 := hide hY6
      have X6 := hX6.cell
      have Y6 := hY6.cell
      have zx := hX6.lt
      have zy := hY6.lt
      clear HC5 HX5 hb6 hbel A5 z5 hX6 hY6 HB2 HB3 HB4 c0 c1 c2 c3 c4 c5 c6 c7 hbl
      have hmc : (l < 1000000 ∧ nn ≤ mm) ∨ ((l == 1000000) = true ∧ ¬ nn ≤ mm) := by
        by_cases hl : l < 1000000
        · refine .inl ⟨hl, ?_⟩
          rw [hm.out hl]
          exact HM.out (by omega)
        · refine .inr ⟨by simp; omega, ?_⟩
          have := HM0.out (by omega)
          omega
      have hxc : (nn == x.max) = true ∨ ((nn == x.max) = false ∧ l ≤ nn * x.target) := by
        by_cases h : nn = x.max
        · exact .inl (by simp [h])
        · exact .inr ⟨by simp [h], HU.out h b2⟩
      have hnc : (nn == x.min) = true ∨ ((nn == x.min) = false ∧ (nn - 1) * x.target < l) := by
        by_cases h : nn = x.min
        · exact .inl (by simp [h])
        · exact .inr ⟨by simp [h], HL.out h b1⟩
      clear HU HL HM hm HM0 HMM
      go_wp2_with fail
      refine (restNear_any _ c j l nn _ HC6.out).mono ?_
      rintro e w7 ⟨rfl, hb7⟩
      rw [hq.out]
      have hX7 := HX6.out.below hb7 HX6.out.lt
      have hY7 := HY6.out.below hb7 HY6.out.lt
      have HB7 := hide (Below.trans HB6.out (hb7.mono HB6.out.size))
      clear HX6 HY6 X6 Y6 zx zy HC6 hb7 HB6
      have X7 := hX7.cell
      have Y7 := hY7.cell
      clear hX7 hY7
      rcases hmc with ⟨hl, hge⟩ | ⟨hl, hge⟩ <;> rcases hxc with hx1 | ⟨hx1, hx2⟩ <;> rcases hnc with hy1 | ⟨hy1, hy2⟩
      all_goals go_wp2
      all_goals go_ret
      all_goals exact ⟨ret_bool (by simp), HB7.out⟩
  · go_enter Try.func3, Try.ntmps3
    go_wp2
    all_goals go_ret
    all_goals exact ⟨rfl, by go_grown⟩
end Go.Proofs.Ytifijknogofklaa
