/- What is asked, whole: the document's bound. -/
import Derived.Test.YtmcpggbibonolaaSf
namespace Go.Proofs.Ytmcpggbibonolaa
open Go.RowKit

set_option maxRecDepth 100000 in

set_option maxHeartbeats 4000000 in
theorem sBound_any (v : Value) (c : Cf) (f : Int) (w : World) (h : CfgAt w v c) :
    Calls Try.prog 14 #[v, .int .i64 f] w fun e w' => e = .returned (.int .i64 (boundOf c f)) ∧ Below w.heap.size w w' := by
  have H := hide h
  obtain ⟨aw, lw, cw, ag, lg, cg, rfl, h1, h2⟩ := h
  by_cases hin : cfgOk c = true ∧ 0 ≤ f ∧ f ≤ 100
  · obtain ⟨hok, f1, f2⟩ := hin
    have hp : Hid (boundOf c f = boundI (nodesOf c) (mostBoot c.groups) (2 + sumTurns c.works) c.start c.calm c.idle c.back f) := by
      have : inB f 0 100 = true := in_iff.2 ⟨f1, f2⟩
      simp [boundOf, hok, this, Hid]
    obtain ⟨h1, h3, h4⟩ := h1
    obtain ⟨g1, g3, g4⟩ := h2
    obtain ⟨kw1, kw2, kw3⟩ := ok_of_works hok
    obtain ⟨kg1, kg2, kg3⟩ := ok_of_groups hok
    have KW := hide kw1
    have KG := hide kg1
    rw [h1] at kw2 kw3
    rw [g1] at kg2 kg3
    have H1 := hide h1
    have H4 := hide h4
    have G1 := hide g1
    have G4 := hide g4
    clear h1 h4 g1 g4 kw1 kg1
    obtain ⟨n1, n2⟩ := nodesOf_bd c hok
    obtain ⟨b1, b2⟩ := mostBoot_bd' c hok
    obtain ⟨t1, t2⟩ := sumTurns_bd' c hok
    obtain ⟨⟨s1, s2⟩, ⟨k1, k2⟩, ⟨q1, q2⟩, ⟨i1, i2⟩⟩ := ok_of_waits hok
    obtain ⟨⟨p1, p2⟩, ⟨p3, p4⟩, ⟨p5, p6⟩, ⟨p7, p8⟩⟩ := bound_facts (nodesOf c) (mostBoot c.groups) (2 + sumTurns c.works) c.start c.calm c.idle c.back f n1 n2 b1 b2 (by omega) (by omega) s1 s2 k1 k2 i1 i2 q1 q2 f1 f2
    have r1 := wrap_of _ p1 (Int.le_trans p2 (by omega))
    have r2 := wrap_of _ p3 (Int.le_trans p4 (by omega))
    have r3 := wrap_of _ p5 (Int.le_trans p6 (by omega))
    have r4 := wrap_of _ p7 (Int.le_trans p8 (by omega))
    go_enter Try.func14, Try.ntmps14
    go_wp2_with (first | (go_at_call 16; refine (sCfgOk_any _ c _ (H.out.keep (by go_grown))).mono ?_; rintro e w1 ⟨rfl, hb⟩; obtain ⟨hc, hf⟩ := bcell hb; have hs : w.heap.size < w1.heap.size := (by have := hb.size; simp at this; omega)))
    refine wp_gen (fun W => Below w.heap.size w W ∧ w.heap.size < W.heap.size ∧ W.cell? ⟨w.heap.size, 0, none⟩ = some (.slice aw lw cw) ∧ W.cell? ⟨w.heap.size, 1, none⟩ = some (.slice ag lg cg) ∧ W.cell? ⟨w.heap.size, 2, none⟩ = some (.int .i64 c.start) ∧ W.cell? ⟨w.heap.size, 3, none⟩ = some (.int .i64 c.calm) ∧ W.cell? ⟨w.heap.size, 4, none⟩ = some (.int .i64 c.idle) ∧ W.cell? ⟨w.heap.size, 5, none⟩ = some (.int .i64 c.back)) ⟨bel_trans (by go_grown) hb, by simp [*, go_sem]⟩ ?_
    clear hc hf hb hs
    rintro W ⟨hW, hzW, hsixW⟩
    go_loopw [5, 7] (fun t i w' => ∃ k : Nat, k ≤ lw ∧ i = .int .i64 k ∧ t = .int .i64 (2 + sumTurns (c.works.take k)) ∧ Below w.heap.size w w' ∧ w.heap.size < w'.heap.size ∧ w'.cell? ⟨w.heap.size, 0, none⟩ = some (.slice aw lw cw) ∧ w'.cell? ⟨w.heap.size, 1, none⟩ = some (.slice ag lg cg) ∧ w'.cell? ⟨w.heap.size, 2, none⟩ = some (.int .i64 c.start) ∧ w'.cell? ⟨w.heap.size, 3, none⟩ = some (.int .i64 c.calm) ∧ w'.cell? ⟨w.heap.size, 4, none⟩ = some (.int .i64 c.idle) ∧ w'.cell? ⟨w.heap.size, 5, none⟩ = some (.int .i64 c.back)) (fun _ i _ => lw - (intOf i).toNat)
    case atStart => exact ⟨0, Nat.zero_le _, rfl, by simp [sumTurns], hW, hzW, hsixW⟩
    case round =>
      clear hsixW
      obtain ⟨k, hk, rfl, rfl, hbel, hz, hsix⟩ := hrel
      have HS := hide hsix
      obtain ⟨d0, d1, d2, d3, d4, d5⟩ := hsix
      by_cases hlt : k < lw
      · obtain ⟨b, o, ha, hbl, c0, c1, c2, c3, c4, c5, c6, c7⟩ := (H4.out.keep hbel).at k (by rw [H1.out]; exact hlt)
        subst ha
        have hk0 : (0 : Int) ≤ (k : Int) := by omega
        have hkn : (k : Int) < (lw : Int) := by omega
        have hkl : k < c.works.length := by rw [H1.out]; exact hlt
        have hwb := wOk_bd (all_at KW.out k hkl)
        have hst := sumTurns_bd c.works KW.out k
        have u1 : 0 ≤ c.works[k].min := by omega
        have u2 : c.works[k].min ≤ 8 := by omega
        have u3 : 0 ≤ c.works[k].max := by omega
        have u4 : c.works[k].max ≤ 8 := by omega
        have v1 := hst.1
        have v2 : sumTurns (c.works.take k) ≤ 100 := by omega
        clear hwb hst c0 c1 c4 c5 c6 c7
        go_wp2
        refine wp_region_below (by kernel_rfl) (by kernel_rfl) ?_
        repeat (first
          | (apply quiet_at (hg := rfl); (· (intro w' hw'; obtain ⟨hc, hf⟩ := bcell hw'; go_simp; first | rfl)); simp only [Act.put, List.setIfInBounds_toArray, List.set_cons_zero, List.set_cons_succ]))
        refine wpQuiet_nil ?_
        intro w2 hw2
        go_wp2
        go_roundw
        case rel =>
          refine ⟨k + 1, by omega, by go_num, ?_, bel_trans hbel hw2, Nat.lt_of_lt_of_le hz hw2.size, six_keep hz hw2 HS.out⟩
          have : sumTurns (c.works.take (k + 1)) = sumTurns (c.works.take k) + (c.works[k].max - c.works[k].min + 2) := by unfold sumTurns; rw [take_sum _ _ _ hkl]
          rw [this]
          first | go_num | (congr 1; go_unwrap; omega)
        case measure => simp [intOf]; omega
      · have ht : c.works.take k = c.works := List.take_of_length_le (by rw [H1.out]; omega)
        rw [ht]
        go_wp2
        go_loopw [6, 8] (fun t i w' => ∃ j : Nat, j ≤ lg ∧ i = .int .i64 j ∧ t = .int .i64 (mostBoot (c.groups.take j)) ∧ Below w.heap.size w w' ∧ w.heap.size < w'.heap.size ∧ w'.cell? ⟨w.heap.size, 0, none⟩ = some (.slice aw lw cw) ∧ w'.cell? ⟨w.heap.size, 1, none⟩ = some (.slice ag lg cg) ∧ w'.cell? ⟨w.heap.size, 2, none⟩ = some (.int .i64 c.start) ∧ w'.cell? ⟨w.heap.size, 3, none⟩ = some (.int .i64 c.calm) ∧ w'.cell? ⟨w.heap.size, 4, none⟩ = some (.int .i64 c.idle) ∧ w'.cell? ⟨w.heap.size, 5, none⟩ = some (.int .i64 c.back)) (fun _ i _ => lg - (intOf i).toNat)
        case atStart => exact ⟨0, Nat.zero_le _, rfl, by simp [mostBoot], hbel, hz, HS.out⟩
        case round =>
          clear d0 d1 d2 d3 d4 d5
          obtain ⟨j, hj, rfl, rfl, hbel2, hz2, hsix2⟩ := hrel
          have HS2 := hide hsix2
          obtain ⟨d0, d1, d2, d3, d4, d5⟩ := hsix2
          by_cases hlt2 : j < lg
          · obtain ⟨b, o, ha, hbl, c0, c1, c2, c3, c4⟩ := (G4.out.keep hbel2).at j (by rw [G1.out]; exact hlt2)
            subst ha
            have hk0 : (0 : Int) ≤ (j : Int) := by omega
            have hkn : (j : Int) < (lg : Int) := by omega
            have hkl : j < c.groups.length := by rw [G1.out]; exact hlt2
            clear c0 c1 c2 c3
            go_wp2_with (first | (go_at_call 39; refine (l1Max_any _ _ _).mono ?_; rintro e w' ⟨rfl, rfl⟩))
            go_roundw
            case rel =>
              refine ⟨j + 1, by omega, by go_num, ?_, hbel2, hz2, HS2.out⟩
              have : mostBoot (c.groups.take (j + 1)) = maxI (mostBoot (c.groups.take j)) c.groups[j].boot := by unfold mostBoot; rw [take_foldl _ _ _ _ hkl]
              rw [this]
            case measure => simp [intOf]; omega
          · have ht2 : c.groups.take j = c.groups := List.take_of_length_le (by rw [G1.out]; omega)
            rw [ht2]
            go_wp2
            refine wp_region_below (by kernel_rfl) (by kernel_rfl) ?_
            repeat (first
              | (apply quiet_at (hg := rfl); (· (intro w' hw'; obtain ⟨hc, hf⟩ := bcell hw'; go_simp; first | (go_at_call 32; refine (sNodes_any _ c _ (H.out.keep (bel_trans hbel2 hw'))).mono ?_; rintro e w9 ⟨rfl, hb9⟩; exact ⟨rfl, bel_trans hw' hb9⟩) | rfl)); simp only [Act.put, List.setIfInBounds_toArray, List.set_cons_zero, List.set_cons_succ]))
            refine wpQuiet_nil ?_
            intro w2 hw2
            obtain ⟨e0, e1, e2, e3, e4, e5⟩ := six_keep hz2 hw2 HS2.out
            have y0 : w.heap.size < w2.heap.size := Nat.lt_of_lt_of_le hz2 hw2.size
            clear d0 d1 d2 d3 d4 d5
            go_wp2
            refine wp_region_below (by kernel_rfl) (by kernel_rfl) ?_
            repeat (first
              | (apply quiet_at (hg := rfl); (· (intro w' hw'; obtain ⟨hc, hf⟩ := bcell hw'; go_simp; first | (go_at_call 32; refine (sNodes_any _ c _ (H.out.keep (bel_trans (bel_trans hbel2 hw2) hw'))).mono ?_; rintro e w9 ⟨rfl, hb9⟩; exact ⟨rfl, bel_trans hw' hb9⟩) | rfl)); simp only [Act.put, List.setIfInBounds_toArray, List.set_cons_zero, List.set_cons_succ]))
            refine wpQuiet_nil ?_
            intro w3 hw3
            go_wp2
            go_ret
            refine ⟨ret_int ?_, bel_trans (bel_trans hbel2 hw2) hw3⟩
            rw [hp.out]
            unfold boundI
            go_unwrap
  · have hp : Hid (boundOf c f = 0) := by
      show _ = _
      unfold boundOf
      rw [if_neg]
      rw [Bool.and_eq_true, in_iff]
      exact fun h => hin ⟨h.1, h.2.1, h.2.2⟩
    clear h1 h2
    cases hok : cfgOk c
    · go_enter Try.func14, Try.ntmps14
      go_wp2_with (first | (go_at_call 16; refine (sCfgOk_any _ c _ (H.out.keep (by go_grown))).mono ?_; rintro e w1 ⟨rfl, hb⟩; obtain ⟨hc, hf⟩ := bcell hb))
      all_goals go_ret
      all_goals exact ⟨ret_int hp.out.symm, bel_trans (by go_grown) hb⟩
    · have hin2 : ¬ (0 ≤ f ∧ f ≤ 100) := fun h => hin ⟨hok, h⟩
      clear hin
      by_cases hf0 : f < 0
      · go_enter Try.func14, Try.ntmps14
        go_wp2_with (first | (go_at_call 16; refine (sCfgOk_any _ c _ (H.out.keep (by go_grown))).mono ?_; rintro e w1 ⟨rfl, hb⟩; obtain ⟨hc, hf⟩ := bcell hb))
        all_goals go_ret
        all_goals exact ⟨ret_int hp.out.symm, bel_trans (by go_grown) hb⟩
      · have hf1 : 100 < f := by omega
        go_enter Try.func14, Try.ntmps14
        go_wp2_with (first | (go_at_call 16; refine (sCfgOk_any _ c _ (H.out.keep (by go_grown))).mono ?_; rintro e w1 ⟨rfl, hb⟩; obtain ⟨hc, hf⟩ := bcell hb))
        all_goals go_ret
        all_goals exact ⟨ret_int hp.out.symm, bel_trans (by go_grown) hb⟩
end Go.Proofs.Ytmcpggbibonolaa
