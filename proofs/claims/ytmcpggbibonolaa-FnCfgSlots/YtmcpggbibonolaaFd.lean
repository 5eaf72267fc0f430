/- The walk of the law FnCfgSlots. -/
import Derived.Test.YtmcpggbibonolaaDf
import Derived.Test.YtmcpggbibonolaaFc
namespace Go.Proofs.Ytmcpggbibonolaa
open Go.RowKit

set_option maxRecDepth 100000 in
set_option maxHeartbeats 4000000 in
theorem cfgSlots_walk (xa : Option Addr) (len cap : Nat) (f : Nat → Int) (ya : Option Addr) (len2 cap2 : Nat) (g : Nat → Int) (w : World) (hby : Bytes w xa len cap f) (hby2 : Bytes w ya len2 cap2 g) :
    Calls Try.prog 4 #[.slice xa len cap, .slice ya len2 cap2] w fun e w' => e = .returned (.bool true) ∧ Below w.heap.size w w' := by
  have hcap := hby.2.1
  have hlc := hby.1
  have hcap2 := hby2.2.1
  have hlc2 := hby2.1
  unfold maxLen at hcap hcap2
  by_cases hlen : len ≤ 1048576
  · by_cases hlen2 : len2 ≤ 1048576
    · have HY := hide hby2
      clear hby2
      go_enter Try.func4, Try.ntmps4
      go_wp2_with fail
      refine (drawRoomy_any xa len cap f _ hby).mono ?_
      rintro e w1 ⟨v, c, rfl, hC, l1, l2, hB1⟩
      have HC1 := hide hC
      obtain ⟨aw, lw, cw, ag, lg, cg, rfl, ⟨e1, e2, hW⟩, ⟨e3, e4, hG⟩⟩ := hC
      have HW1 := hide hW
      have HG1 := hide hG
      clear hW hG hby hcap hlc hlen hcap2 hlc2
      go_wp2_with fail
      refine (sCfgOk_any _ c _ (HC1.out.keep (by go_grown))).mono ?_
      rintro e w2 ⟨rfl, hb2⟩
      have hbel : Below w1.heap.size w1 w2 := Below.trans (by go_grown) (hb2.mono (by simp))
      have hbx : Blk w2 w1.heap.size #[.slice aw lw cw, .slice ag lg cg, .int .i64 c.start, .int .i64 c.calm, .int .i64 c.idle, .int .i64 c.back] 26 := (Blk.new w1 _ _).below hb2 (by simp)
      have HC2 := hide (HC1.out.keep hbel)
      have HW2 := hide (HW1.out.keep hbel)
      have HG2 := hide (HG1.out.keep hbel)
      have A2 := hbx.cell
      have z2 := hbx.lt
      have HX2 := hide hbx
      have hB2 := Below.trans hB1 (hbel.mono hB1.size)
      clear HC1 HW1 HG1 hb2 hbel hbx hB1
      cases hok : cfgOk c
      · have q1 := most_no c hok
        have HM := hide (show Calls Try.prog 21 #[.agg #[.slice aw lw cw, .slice ag lg cg, .int .i64 c.start, .int .i64 c.calm, .int .i64 c.idle, .int .i64 c.back]] w2 fun e w' => e = .returned (.agg #[.int .i64 0, .int .i64 0]) ∧ Below w2.heap.size w2 w' from by have := most_any _ c w2 HC2.out; rwa [q1.1, q1.2] at this)
        go_wp2_with fail
        refine HM.out.mono ?_
        rintro e w3 ⟨rfl, hb3⟩
        have hfin := Below.trans hB2 (hb3.mono hB2.size)
        go_wp2
        go_ret
        exact ⟨rfl, hfin⟩
      · have hg := ok_of_groups hok
        obtain ⟨wk1, wk2, wk3⟩ := ok_of_works hok
        rw [e1] at wk2 wk3
        clear hg wk1
        go_wp2_with fail
        refine (most_any _ c _ HC2.out).mono ?_
        rintro e w3 ⟨rfl, hb3⟩
        have hB3 := Below.trans hB2 (hb3.mono hB2.size)
        have HC3 := hide (HC2.out.keep hb3)
        have HW3 := hide (HW2.out.keep hb3)
        have HG3 := hide (HG2.out.keep hb3)
        have HX3 := hide (HX2.out.below hb3 z2)
        clear HC2 HW2 HG2 HX2 hb3 A2 z2 hB2
        go_wp2
        refine wp_gen (fun W => Below w.heap.size w W ∧ Blk W w1.heap.size #[.slice aw lw cw, .slice ag lg cg, .int .i64 c.start, .int .i64 c.calm, .int .i64 c.idle, .int .i64 c.back] 26 ∧ Blk W w3.heap.size #[.int .i64 (mostOfC c), .int .i64 (mostOfM c)] 33 ∧ Hid (CfgAt W (.agg #[.slice aw lw cw, .slice ag lg cg, .int .i64 c.start, .int .i64 c.calm, .int .i64 c.idle, .int .i64 c.back]) c) ∧ Hid (WorksAt W aw c.works) ∧ Hid (GroupsAt W ag c.groups)) ⟨hB3.alloc hB3.size _, HX3.out.alloc _, Blk.new _ _ _, HC3.out.keep (by go_grown), HW3.out.keep (by go_grown), HG3.out.keep (by go_grown)⟩ ?_
        clear HC3 HW3 HG3 HX3 hB3
        rintro W ⟨hBW, hX, hY, HC, HW, HG⟩
        have HB := hide (HY.out.keep hBW)
        have zx := hX.lt
        have zy := hY.lt
        have HX := hide hX
        have HM := hide hY
        have A := hX.cell
        have B := hY.cell
        clear hX hY
        refine wp_region_below (by kernel_rfl) (by kernel_rfl) ?_
        repeat (first
          | (apply quiet_at (hg := rfl); (· (intro w' hw'; obtain ⟨hc, hf⟩ := bcell hw'; go_simp; first | (go_at_call 25; refine (sMost_any _ c _ (HC.out.keep hw')).mono ?_; rintro e w9 ⟨rfl, hb9⟩; exact ⟨rfl, bel_trans hw' hb9⟩) | rfl)); simp only [Act.put, List.setIfInBounds_toArray, List.set_cons_zero, List.set_cons_succ]))
        refine wpQuiet_nil ?_
        intro w4 hw4
        clear A B
        go_wp2
        go_loopw [7] (fun i w' => ∃ k : Nat, k ≤ lg ∧ i = .int .i64 k ∧ Below W.heap.size W w') (fun i _ => lg - (intOf i).toNat)
        case atStart => exact ⟨0, by omega, rfl, hw4⟩
        case round =>
          clear hw4
          obtain ⟨k, hk, rfl, hbel⟩ := hrel
          have hX := HX.out.below hbel zx
          have hY := HM.out.below hbel zy
          have A := hX.cell
          have B := hY.cell
          have zx' := hX.lt
          have zy' := hY.lt
          clear hX hY
          by_cases hlt : k < lg
          · obtain ⟨b, o, ha, hbl, g0, g1, g2, g3, g4⟩ := (HG.out.keep hbel).at k (by rw [e3]; exact hlt)
            have hkl : k < c.groups.length := by rw [e3]; exact hlt
            have hgs := group_size hok k hkl
            have hsb := slotsI_bd (mostOfC c) (mostOfM c) c.groups[k].cpu c.groups[k].mem
            have HI0 := hide (SlotInv.zero (mc := mostOfC c) (mm := mostOfM c) hgs)
            clear hgs
            subst ha
            have hk0 : (0 : Int) ≤ (k : Int) := by omega
            have hkn : (k : Int) < (lg : Int) := by omega
            go_wp2
            refine wp_region_below (by kernel_rfl) (by kernel_rfl) ?_
            repeat (first
              | (apply quiet_at (hg := rfl); (· (intro w' hw'; obtain ⟨hc, hf⟩ := bcell hw'; go_simp; first | (go_at_call 22; refine (implSlots_any _ _ _ _ _).mono ?_; rintro e w9 ⟨rfl, hb9⟩; exact ⟨rfl, bel_trans hw' hb9⟩) | rfl)); simp only [Act.put, List.setIfInBounds_toArray, List.set_cons_zero, List.set_cons_succ]))
            refine wpQuiet_nil ?_
            intro w6 hw6
            generalize hn : slotsI (mostOfC c) (mostOfM c) c.groups[k].cpu c.groups[k].mem = n at hsb HI0 ⊢
            have A6 := (HX.out.below (bel_trans hbel hw6) zx).cell
            have G0 : w6.cell? ⟨b, o + k * 5, none⟩ = some (.int .i64 c.groups[k].cpu) := by rw [(bcell hw6).1 _ _ hbl]; exact g0
            have G1 : w6.cell? ⟨b, o + k * 5 + 1, none⟩ = some (.int .i64 c.groups[k].mem) := by rw [(bcell hw6).1 _ _ hbl]; exact g1
            have hbl6 : b < w6.heap.size := Nat.lt_of_lt_of_le hbl hw6.size
            have hbel6 := bel_trans hbel hw6
            clear g0 g1 g2 g3 g4 hbl hw6 A B zx' zy' hn hbel
            go_wp2
            refine wp_gen (fun V => Below W.heap.size W V ∧ Blk V w6.heap.size #[.int .i64 c.groups[k].cpu, .int .i64 c.groups[k].mem] 33) ⟨hbel6.alloc hbel6.size _, Blk.new _ _ _⟩ ?_
            rintro V ⟨hBV, hL⟩
            have hWV := hbel6.size
            clear A6 G0 G1 hbl6
            go_loopw [10] (fun i w' => ∃ j : Nat, ∃ lc lm : Int, i = .int .i64 j ∧ (j : Int) + 1 ≤ n + 1 ∧ (j = 0 ∨ (j : Int) + 1 ≤ n) ∧ Hid (SlotInv n (mostOfC c) (mostOfM c) j lc lm) ∧ Below W.heap.size W w' ∧ Blk w' w6.heap.size #[.int .i64 lc, .int .i64 lm] 33) (fun i _ => n.toNat - (intOf i).toNat)
            case atStart => exact ⟨0, _, _, rfl, by omega, .inl rfl, HI0, hBV, hL⟩
            case round =>
              clear HI0 hBV hL
              obtain ⟨j, lc, lm, rfl, hj0, hj, HI, hbel2, hL⟩ := hrel
              have A := (HX.out.below hbel2 zx).cell
              have L := hL.cell
              have LF := hL.frozen
              have zl := hL.lt
              have HL := hide hL
              have hzx : w1.heap.size < wr.heap.size := (HX.out.below hbel2 zx).lt
              clear hL
              by_cases hjn : (j : Int) + 1 < n
              · by_cases hjm : (j : Int) < (len2 : Int)
                · obtain ⟨u1, u2, u3, u4⟩ := HB.out.keep hbel2
                  rcases u4 with u4 | ⟨yb, yo, hya, hyl, hrow⟩
                  · exfalso; omega
                  have hY := hrow j (by omega)
                  obtain ⟨t0, t1⟩ := u3 j
                  obtain ⟨q, hq, hql⟩ := byte_mod (g j) lw (by omega)
                  subst hya
                  have hj00 : (0 : Int) ≤ (j : Int) := by omega
                  have hlw0 : (0 : Int) < (lw : Int) := by omega
                  have hlw2 : ¬ lw = 0 := by omega
                  have hqw : (IntKind.i64.wrap (g j)).tmod (lw : Int) = (q : Int) := by rw [show IntKind.i64.wrap (g j) = g j by rw [IntKind.wrap_i64]; omega, Int.tmod_eq_emod_of_nonneg t0]; exact hq
                  clear u1 u2 u3 hrow
                  go_wp2
                  refine wp_region_below (by kernel_rfl) (by kernel_rfl) ?_
                  repeat (first
                    | (apply quiet_at (hg := rfl); (· (intro w' hw'; obtain ⟨hc, hf⟩ := bcell hw'; go_simp; first | (rw [if_neg hlw2, hqw]; exact ⟨rfl, rfl⟩) | rfl)); simp only [Act.put, List.setIfInBounds_toArray, List.set_cons_zero, List.set_cons_succ]))
                  refine wpQuiet_nil ?_
                  intro w7 hw7
                  have hbel7 := bel_trans hbel2 hw7
                  obtain ⟨b2, o2, ha2, hbl2, x0, x1, x2, x3, x4, x5, x6, x7⟩ := HW.out.at q (by omega)
                  have hql2 : q < c.works.length := by omega
                  have hN0 : W.cell? ⟨w1.heap.size, 0, none⟩ = some (.slice aw lw cw) := HX.out.cell 0
                  have hL7 := HL.out.below hw7 zl
                  have L7 := hL7.cell
                  have LF7 := hL7.frozen
                  have zl7 := hL7.lt
                  have HIs := hide (HI.out.step hjn (work_size hok q hql2) (fits_most c hok q hql2))
                  have hq0 : (0 : Int) ≤ ((q : Nat) : Int) := by omega
                  have hqn : ((q : Nat) : Int) < (lw : Int) := by omega
                  subst ha2
                  clear A L LF x2 x3 x4 x5 x6 x7
                  go_wp2
                  have y0 := ((bcell hbel7).1 _ _ hbl2).trans x0
                  have y1 := ((bcell hbel7).1 _ _ hbl2).trans x1
                  have yN := ((bcell hbel7).1 _ _ zx).trans hN0
                  go_region_with (first | (go_at_call 26; refine (implLess_any _ _ _ _ _).mono ?_; rintro e w9 ⟨rfl, hb9⟩; have L9 := (hL7.drew.below hb9 zl7).cell; have LF9 := (hL7.drew.below hb9 zl7).frozen))
                  all_goals
                    go_wp2
                    go_roundw
                    case rel =>
                      have hs := ((hL7.drew.below hb9 zl7).set 0 (.int .i64 (lessC lc lm c.works[q].cpu c.works[q].mem))).set 1 (.int .i64 (lessM lc lm c.works[q].cpu c.works[q].mem))
                      exact ⟨j + 1, _, _, by go_num, by omega, .inr (by omega), HIs, (((Below.trans hbel7.drew (hb9.mono hbel7.drew.size))).setCell hWV _).setCell hWV _, by simpa using hs⟩
                    case measure => simp [intOf]; omega
                · have hlw0 : (0 : Int) < (lw : Int) := by omega
                  obtain ⟨b2, o2, ha2, hbl2, x0, x1, x2, x3, x4, x5, x6, x7⟩ := HW.out.at 0 (by omega)
                  have hql2 : 0 < c.works.length := by omega
                  have hN0 : W.cell? ⟨w1.heap.size, 0, none⟩ = some (.slice aw lw cw) := HX.out.cell 0
                  have hL7 := HL.out
                  have L7 := hL7.cell
                  have LF7 := hL7.frozen
                  have zl7 := hL7.lt
                  have HIs := hide (HI.out.step hjn (work_size hok 0 hql2) (fits_most c hok 0 hql2))
                  have hq0 : (0 : Int) ≤ ((0 : Nat) : Int) := by omega
                  have hqn : ((0 : Nat) : Int) < (lw : Int) := by omega
                  subst ha2
                  have hlw3 : 0 < lw := by omega
                  simp only [Nat.zero_mul, Nat.add_zero] at x0 x1
                  clear A L LF x2 x3 x4 x5 x6 x7
                  go_wp2
                  have y0 := ((bcell hbel2).1 _ _ hbl2).trans x0
                  have y1 := ((bcell hbel2).1 _ _ hbl2).trans x1
                  have yN := ((bcell hbel2).1 _ _ zx).trans hN0
                  go_region_with (first | (go_at_call 26; refine (implLess_any _ _ _ _ _).mono ?_; rintro e w9 ⟨rfl, hb9⟩; have L9 := (hL7.drew.below hb9 zl7).cell; have LF9 := (hL7.drew.below hb9 zl7).frozen))
                  all_goals
                    go_wp2
                    go_roundw
                    case rel =>
                      have hs := ((hL7.drew.below hb9 zl7).set 0 (.int .i64 (lessC lc lm c.works[0].cpu c.works[0].mem))).set 1 (.int .i64 (lessM lc lm c.works[0].cpu c.works[0].mem))
                      exact ⟨j + 1, _, _, by go_num, by omega, .inr (by omega), HIs, (((Below.trans hbel2.drew (hb9.mono hbel2.drew.size))).setCell hWV _).setCell hWV _, by simpa using hs⟩
                    case measure => simp [intOf]; omega
              · by_cases hn0 : 0 < n
                · have HF := hide (show ∀ q (hq : q < c.works.length) w', Calls Try.prog 23 #[.agg #[.int .i64 c.works[q].cpu, .int .i64 c.works[q].mem], .agg #[.int .i64 lc, .int .i64 lm]] w' fun e w'' => e = .returned (.bool true) ∧ Below w'.heap.size w' w'' from fun q hq w' => by have := implFits_any c.works[q].cpu c.works[q].mem lc lm w'; rwa [HI.out.fits (by omega) (work_size hok q hq) (fits_most c hok q hq)] at this)
                  go_wp2
                  obtain ⟨wo, hwo⟩ : ∃ wo : World, wo = wr := ⟨_, rfl⟩
                  subst hwo
                  go_loopw [12] (fun i w' => ∃ q : Nat, q ≤ lw ∧ i = .int .i64 q ∧ Below wo.heap.size wo w') (fun i _ => lw - (intOf i).toNat)
                  case atStart => exact ⟨0, by omega, rfl, Below.refl _ _⟩
                  case round =>
                    clear A L LF
                    obtain ⟨q, hq, rfl, hbel3⟩ := hrel
                    have A := ((HX.out.below hbel2 zx).below hbel3 hzx).cell
                    have L := (HL.out.below hbel3 zl).cell
                    have hbel4 := bel_trans hbel2 hbel3
                    by_cases hlt2 : q < lw
                    · obtain ⟨b2, o2, ha2, hbl2, x0, x1, x2, x3, x4, x5, x6, x7⟩ := (HW.out.keep hbel4).at q (by omega)
                      have HFq := hide (HF.out q (by omega))
                      subst ha2
                      have hk0 : (0 : Int) ≤ (q : Int) := by omega
                      have hkn : (q : Int) < (lw : Int) := by omega
                      have zx4 : w1.heap.size < wr.heap.size := ((HX.out.below hbel2 zx).below hbel3 hzx).lt
                      have zl4 : w6.heap.size < wr.heap.size := (HL.out.below hbel3 zl).lt
                      clear x2 x3 x4 x5 x6 x7
                      go_wp2
                      refine wp_region_below (by kernel_rfl) (by kernel_rfl) ?_
                      repeat (first
                        | (apply quiet_at (hg := rfl); (· (intro w' hw'; obtain ⟨hc, hf⟩ := bcell hw'; go_simp; first | (go_at_call 23; refine (HFq.out _).mono ?_; rintro e w9 ⟨rfl, hb9⟩; exact ⟨rfl, bel_trans hw' hb9⟩) | rfl)); simp only [Act.put, List.setIfInBounds_toArray, List.set_cons_zero, List.set_cons_succ]))
                      refine wpQuiet_nil ?_
                      intro w9 hw9
                      go_wp2
                      go_roundw
                      case rel => exact ⟨q + 1, by omega, by go_num, bel_trans hbel3 hw9⟩
                      case measure => simp [intOf]; omega
                    · go_wp2
                      go_roundw
                      case rel => exact ⟨k + 1, by omega, by go_num, hbel4⟩
                      case measure => simp [intOf]; omega
                · go_wp2
                  refine wp_loop_once ?_
                  go_wp2
                  go_roundw
                  case rel => exact ⟨k + 1, by omega, by go_num, hbel2⟩
                  case measure => simp [intOf]; omega
          · have hfin := Below.trans hBW (hbel.mono hBW.size)
            go_wp2
            go_ret
            exact ⟨rfl, hfin⟩
    · go_enter Try.func4, Try.ntmps4
      have hgt : (1048576 : Int) < (len2 : Int) := by omega
      have hle : ¬ (1048576 : Int) < (len : Int) := by omega
      go_wp2
      go_ret
      exact ⟨rfl, Below.refl _ _⟩
  · go_enter Try.func4, Try.ntmps4
    have hgt : (1048576 : Int) < (len : Int) := by omega
    go_wp2
    go_ret
    exact ⟨rfl, Below.refl _ _⟩
end Go.Proofs.Ytmcpggbibonolaa
