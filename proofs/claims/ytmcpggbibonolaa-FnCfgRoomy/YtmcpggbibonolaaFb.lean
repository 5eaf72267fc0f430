/- The walk of the law FnCfgRoomy. -/
import Derived.Test.YtmcpggbibonolaaDf
import Derived.Test.YtmcpggbibonolaaFa
import Derived.Test.YtmcpggbibonolaaSg
namespace Go.Proofs.Ytmcpggbibonolaa
open Go.RowKit

set_option maxRecDepth 100000 in
set_option maxHeartbeats 4000000 in
theorem cfgRoomy_walk (xa : Option Addr) (len cap : Nat) (f : Nat → Int) (w : World) (hby : Bytes w xa len cap f) :
    Calls Try.prog 3 #[.slice xa len cap] w fun e w' => e = .returned (.bool true) ∧ Below w.heap.size w w' := by
  have hcap := hby.2.1
  have hlc := hby.1
  unfold maxLen at hcap
  by_cases hlen : len ≤ 1048576
  · go_enter Try.func3, Try.ntmps3
    go_wp2_with fail
    refine (drawBound_any xa len cap f _ hby).mono ?_
    rintro e w1 ⟨v, c, n, rfl, hC, l1, l2, n0, n1, hB1⟩
    have HC1 := hide hC
    obtain ⟨aw, lw, cw, ag, lg, cg, rfl, ⟨e1, e2, hW⟩, ⟨e3, e4, hG⟩⟩ := hC
    have HW1 := hide hW
    have HG1 := hide hG
    clear hW hG hby hcap hlc hlen
    go_wp2_with fail
    refine (bound_any _ c _ _ (HC1.out.keep (by go_grown))).mono ?_
    rintro e w2 ⟨rfl, hb2⟩
    have hbel : Below w1.heap.size w1 w2 := Below.trans (by go_grown) (hb2.mono (by simp))
    have hbx : Blk w2 w1.heap.size #[.slice aw lw cw, .slice ag lg cg, .int .i64 c.start, .int .i64 c.calm, .int .i64 c.idle, .int .i64 c.back] 26 := (Blk.new w1 _ _).below hb2 (by simp)
    have HC2 := hide (HC1.out.keep hbel)
    have HW2 := hide (HW1.out.keep hbel)
    have HG2 := hide (HG1.out.keep hbel)
    have A2 := hbx.cell
    have z2 := hbx.lt
    have HX2 := hide hbx
    have hB2 := Below.trans hB1 (hbel.mono hB1.size)
    clear HC1 HW1 HG1 hb2 hbel hbx hB1
    go_wp2
    refine wp_region_below (by kernel_rfl) (by kernel_rfl) ?_
    repeat (first
      | (apply quiet_at (hg := rfl); (· (intro w' hw'; obtain ⟨hc, hf⟩ := bcell hw'; go_simp; first | (go_at_call 14; refine (sBound_any _ c _ _ (HC2.out.keep hw')).mono ?_; rintro e w9 ⟨rfl, hb9⟩; exact ⟨rfl, bel_trans hw' hb9⟩) | (go_at_call 15; refine (cfgOk_any _ c _ (HC2.out.keep hw')).mono ?_; rintro e w9 ⟨rfl, hb9⟩; exact ⟨rfl, bel_trans hw' hb9⟩) | (go_at_call 16; refine (sCfgOk_any _ c _ (HC2.out.keep hw')).mono ?_; rintro e w9 ⟨rfl, hb9⟩; exact ⟨rfl, bel_trans hw' hb9⟩) | (go_at_call 17; refine (roomy_any _ c _ (HC2.out.keep hw')).mono ?_; rintro e w9 ⟨rfl, hb9⟩; exact ⟨rfl, bel_trans hw' hb9⟩) | (go_at_call 18; refine (sRoomy_any _ c _ (HC2.out.keep hw')).mono ?_; rintro e w9 ⟨rfl, hb9⟩; exact ⟨rfl, bel_trans hw' hb9⟩) | rfl)); simp only [Act.put, List.setIfInBounds_toArray, List.set_cons_zero, List.set_cons_succ]))
    refine wpQuiet_nil ?_
    intro w3 hw3
    have HC3 := hide (HC2.out.keep hw3)
    have HW3 := hide (HW2.out.keep hw3)
    have HG3 := hide (HG2.out.keep hw3)
    have HX3 := hide (HX2.out.below hw3 z2)
    have A3 := HX3.out.cell
    have z3 := HX3.out.lt
    have hB3 := Below.trans hB2 (hw3.mono hB2.size)
    clear HC2 HW2 HG2 HX2 hw3 A2 z2 hB2
    go_wp2_with fail
    refine (sCfgOk_any _ c _ HC3.out).mono ?_
    rintro e w4 ⟨rfl, hb4⟩
    have HC4 := hide (HC3.out.keep hb4)
    have HW4 := hide (HW3.out.keep hb4)
    have HG4 := hide (HG3.out.keep hb4)
    have HX4 := hide (HX3.out.below hb4 z3)
    have A4 := HX4.out.cell
    have z4 := HX4.out.lt
    have hB4 := Below.trans hB3 (hb4.mono hB3.size)
    clear HC3 HW3 HG3 HX3 hb4 A3 z3 hB3
    cases hok : cfgOk c
    · have q1 := bound_no c hok n
      have q2 := pods_no c hok
      have q3 := nodes_no c hok
      go_wp2_with fail
      refine (pods_any _ c _ HC4.out).mono ?_
      rintro e w5 ⟨rfl, hb5⟩
      have A5 := (HX4.out.below hb5 z4).cell
      go_wp2_with fail
      refine (nodes_any _ c _ (HC4.out.keep hb5)).mono ?_
      rintro e w6 ⟨rfl, hb6⟩
      have hfin := Below.trans hB4 ((bel_trans hb5 hb6).mono hB4.size)
      go_wp2
      go_ret
      exact ⟨rfl, hfin⟩
    · have hg := ok_of_groups hok
      have hgall := hide hg.1
      clear hg
      go_wp2_with fail
      refine (most_any _ c _ HC4.out).mono ?_
      rintro e w5 ⟨rfl, hb5⟩
      have hB5 := Below.trans hB4 (hb5.mono hB4.size)
      have HC5 := hide (HC4.out.keep hb5)
      have HW5 := hide (HW4.out.keep hb5)
      have HG5 := hide (HG4.out.keep hb5)
      have HX5 := hide (HX4.out.below hb5 z4)
      clear HC4 HW4 HG4 HX4 hb5 A4 z4 hB4
      go_wp2
      refine wp_gen (fun W => Below w.heap.size w W ∧ Blk W w1.heap.size #[.slice aw lw cw, .slice ag lg cg, .int .i64 c.start, .int .i64 c.calm, .int .i64 c.idle, .int .i64 c.back] 26 ∧ Blk W w5.heap.size #[.int .i64 (mostOfC c), .int .i64 (mostOfM c)] 33 ∧ Hid (CfgAt W (.agg #[.slice aw lw cw, .slice ag lg cg, .int .i64 c.start, .int .i64 c.calm, .int .i64 c.idle, .int .i64 c.back]) c) ∧ Hid (WorksAt W aw c.works) ∧ Hid (GroupsAt W ag c.groups)) ⟨hB5.alloc hB5.size _, HX5.out.alloc _, Blk.new _ _ _, HC5.out.keep (by go_grown), HW5.out.keep (by go_grown), HG5.out.keep (by go_grown)⟩ ?_
      clear HC5 HW5 HG5 HX5 hB5
      rintro W ⟨hBW, hX, hY, HC, HW, HG⟩
      have zx := hX.lt
      have zy := hY.lt
      have HX := hide hX
      have HY := hide hY
      clear hX hY
      go_loopw [7, 8] (fun x i w' => ∃ k : Nat, k ≤ lg ∧ i = .int .i64 k ∧ x = .bool ((c.groups.take k).any (roomG (podsOf c) (mostOfC c) (mostOfM c))) ∧ Below W.heap.size W w') (fun _ i _ => lg - (intOf i).toNat)
      case atStart => exact ⟨0, by omega, rfl, by simp, Below.refl _ _⟩
      case round =>
        obtain ⟨k, hk, rfl, rfl, hbel⟩ := hrel
        have hX := HX.out.below hbel zx
        have hY := HY.out.below hbel zy
        have A := hX.cell
        have B := hY.cell
        have zx' := hX.lt
        have zy' := hY.lt
        have HCr := hide (HC.out.keep hbel)
        clear hX hY
        by_cases hlt : k < lg
        · obtain ⟨b, o, ha, hbl, g0, g1, g2, g3, g4⟩ := (HG.out.keep hbel).at k (by rw [e3]; exact hlt)
          have hkl : k < c.groups.length := by rw [e3]; exact hlt
          have hgb := gOk_bd (all_at hgall.out k hkl)
          have hmul := slots_mul (mostOfC c) (mostOfM c) c.groups[k].cpu c.groups[k].mem c.groups[k].max (by omega) (by omega)
          have htk := take_any (roomG (podsOf c) (mostOfC c) (mostOfM c)) c.groups k hkl
          have HTK := hide htk
          clear htk hgb
          subst ha
          have hk0 : (0 : Int) ≤ (k : Int) := by omega
          have hkn : (k : Int) < (lg : Int) := by omega
          cases hany : (c.groups.take k).any (roomG (podsOf c) (mostOfC c) (mostOfM c))
          · go_wp2
            refine wp_region_below (by kernel_rfl) (by kernel_rfl) ?_
            repeat (first
              | (apply quiet_at (hg := rfl); (· (intro w' hw'; obtain ⟨hc, hf⟩ := bcell hw'; go_simp; first | (go_at_call 22; refine (implSlots_any _ _ _ _ _).mono ?_; rintro e w9 ⟨rfl, hb9⟩; exact ⟨rfl, bel_trans hw' hb9⟩) | (go_at_call 19; refine (pods_any _ c _ (HCr.out.keep hw')).mono ?_; rintro e w9 ⟨rfl, hb9⟩; exact ⟨rfl, bel_trans hw' hb9⟩) | rfl)); simp only [Act.put, List.setIfInBounds_toArray, List.set_cons_zero, List.set_cons_succ]))
            refine wpQuiet_nil ?_
            intro w6 hw6
            go_wp2
            go_roundw
            case rel =>
              refine ⟨k + 1, by omega, by go_num, ?_, bel_trans hbel hw6⟩
              rw [← HTK.out, hany, Bool.false_or]
              rfl
            case measure => simp [intOf]; omega
          · go_wp2
            refine wp_region_below (by kernel_rfl) (by kernel_rfl) ?_
            (apply quiet_at (hg := rfl); (· (intro w' hw'; obtain ⟨hc, hf⟩ := bcell hw'; go_simp; rfl)); simp only [Act.put, List.setIfInBounds_toArray, List.set_cons_zero, List.set_cons_succ])
            (apply quiet_at (hg := rfl); (· (intro w' hw'; obtain ⟨hc, hf⟩ := bcell hw'; go_simp; rfl)); simp only [Act.put, List.setIfInBounds_toArray, List.set_cons_zero, List.set_cons_succ])
            go_big_quiet_skip
            go_big_quiet_skip
            go_big_quiet_skip
            go_big_quiet_skip
            go_big_quiet_skip
            go_big_quiet_skip
            go_big_quiet_skip
            go_big_quiet_skip
            go_big_quiet_skip
            go_big_quiet_skip
            go_big_quiet_skip
            go_big_quiet_skip
            go_big_quiet_skip
            go_big_quiet_skip
            go_big_quiet_skip
            go_big_quiet_skip
            go_big_quiet_skip
            go_big_quiet_skip
            (apply quiet_at (hg := rfl); (· (intro w' hw'; obtain ⟨hc, hf⟩ := bcell hw'; go_simp; rfl)); simp only [Act.put, List.setIfInBounds_toArray, List.set_cons_zero, List.set_cons_succ])
            (apply quiet_at (hg := rfl); (· (intro w' hw'; obtain ⟨hc, hf⟩ := bcell hw'; go_simp; rfl)); simp only [Act.put, List.setIfInBounds_toArray, List.set_cons_zero, List.set_cons_succ])
            refine wpQuiet_nil ?_
            intro w6 hw6
            go_wp2
            go_roundw
            case rel => exact ⟨k + 1, by omega, by go_num, by rw [← HTK.out, hany, Bool.true_or], bel_trans hbel hw6⟩
            case measure => simp [intOf]; omega
        · have hkk : k = lg := by omega
          subst hkk
          have hr : (c.groups.take k).any (roomG (podsOf c) (mostOfC c) (mostOfM c)) = roomyB c := by rw [List.take_of_length_le (by omega)]; exact roomy_yes c hok
          simp only [hr]
          clear hr hlt
          go_wp2
          go_loopw [9] (fun i w' => ∃ q : Nat, q ≤ lw ∧ i = .int .i64 q ∧ Below W.heap.size W w') (fun i _ => lw - (intOf i).toNat)
          case atStart => exact ⟨0, by omega, rfl, hbel⟩
          case round =>
            clear A B HCr zx' zy'
            obtain ⟨q, hq, rfl, hbel2⟩ := hrel
            have hX := HX.out.below hbel2 zx
            have hY := HY.out.below hbel2 zy
            have A := hX.cell
            have B := hY.cell
            have zx' := hX.lt
            have zy' := hY.lt
            have HCr := hide (HC.out.keep hbel2)
            clear hY
            by_cases hlt2 : q < lw
            · clear hX
              obtain ⟨b, o, ha, hbl, g0, g1, g2, g3, g4, g5, g6, g7⟩ := (HW.out.keep hbel2).at q (by rw [e1]; exact hlt2)
              have hql : q < c.works.length := by rw [e1]; exact hlt2
              have HFit := hide (show ∀ w', Calls Try.prog 23 #[.agg #[.int .i64 c.works[q].cpu, .int .i64 c.works[q].mem], .agg #[.int .i64 (mostOfC c), .int .i64 (mostOfM c)]] w' fun e w'' => e = .returned (.bool true) ∧ Below w'.heap.size w' w'' from fun w' => by have := implFits_any c.works[q].cpu c.works[q].mem (mostOfC c) (mostOfM c) w'; rwa [fits_most c hok q hql] at this)
              have hmx := max_pods c hok q hql
              have hmx' : ¬ podsOf c < c.works[q].max := by omega
              subst ha
              have hk0 : (0 : Int) ≤ (q : Int) := by omega
              have hkn : (q : Int) < (lw : Int) := by omega
              go_wp2
              refine wp_region_below (by kernel_rfl) (by kernel_rfl) ?_
              repeat (first
                | (apply quiet_at (hg := rfl); (· (intro w' hw'; obtain ⟨hc, hf⟩ := bcell hw'; go_simp; first | (go_at_call 23; refine (HFit.out _).mono ?_; rintro e w9 ⟨rfl, hb9⟩; exact ⟨rfl, bel_trans hw' hb9⟩) | (go_at_call 19; refine (pods_any _ c _ (HCr.out.keep hw')).mono ?_; rintro e w9 ⟨rfl, hb9⟩; exact ⟨rfl, bel_trans hw' hb9⟩) | rfl)); simp only [Act.put, List.setIfInBounds_toArray, List.set_cons_zero, List.set_cons_succ]))
              refine wpQuiet_nil ?_
              intro w6 hw6
              go_wp2
              go_roundw
              case rel => exact ⟨q + 1, by omega, by go_num, bel_trans hbel2 hw6⟩
              case measure => simp [intOf]; omega
            · go_wp2_with fail
              refine (roomy_any _ c _ HCr.out).mono ?_
              rintro e w7 ⟨rfl, hb7⟩
              have A7 := (hX.below hb7 zx').cell
              have hfin := Below.trans hBW ((bel_trans hbel2 hb7).mono hBW.size)
              clear hX A B
              by_cases hn1 : n < 0
              · go_wp2
                go_ret
                exact ⟨rfl, hfin⟩
              · by_cases hn2 : 100 ≤ n
                · go_wp2
                  go_ret
                  exact ⟨rfl, hfin⟩
                · have hmo := bound_more c hok n (by omega) (by omega)
                  obtain ⟨hmo1, hmo2⟩ := hmo
                  go_wp2_with fail
                  refine (bound_any _ c _ _ (HCr.out.keep hb7)).mono ?_
                  rintro e w8 ⟨rfl, hb8⟩
                  have hfin2 := Below.trans hfin (hb8.mono hfin.size)
                  go_wp2
                  go_ret
                  exact ⟨rfl, hfin2⟩
  · go_enter Try.func3, Try.ntmps3
    have hgt : (1048576 : Int) < (len : Int) := by omega
    go_wp2
    go_ret
    exact ⟨rfl, Below.refl _ _⟩
end Go.Proofs.Ytmcpggbibonolaa
