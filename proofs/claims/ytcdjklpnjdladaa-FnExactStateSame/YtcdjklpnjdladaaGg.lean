/- What there is: two of them held against each other, by the document. -/
import Derived.Test.YtcdjklpnjdladaaGf
namespace Go.Proofs.Ytcdjklpnjdladaa
open Go.RowKit

set_option maxRecDepth 100000 in
set_option maxHeartbeats 8000000 in
theorem sSame_any (v v' : Value) (s s' : St) (w : World) (h : StateAt w v s) (h' : StateAt w v' s') :
    Calls Try.prog 16 #[v, v'] w fun e w' => e = .returned (.bool (decide (s = s'))) ∧ Below w.heap.size w w' := by
  obtain ⟨a1, l1, c1, a2, l2, c2, a3, l3, c3, a4, l4, c4, rfl, ⟨e1, m1, h1⟩, ⟨e2, m2, h2⟩, ⟨e3, m3, h3⟩, ⟨e4, m4, h4⟩⟩ := h
  obtain ⟨a1', l1', c1', a2', l2', c2', a3', l3', c3', a4', l4', c4', rfl, ⟨e1', m1', h1'⟩, ⟨e2', m2', h2'⟩, ⟨e3', m3', h3'⟩, ⟨e4', m4', h4'⟩⟩ := h'
  have H1 := hide h1
  have K1 := hide h1'
  have E1 := hide e1
  have F1 := hide e1'
  have H2 := hide h2
  have K2 := hide h2'
  have E2 := hide e2
  have F2 := hide e2'
  have H3 := hide h3
  have K3 := hide h3'
  have E3 := hide e3
  have F3 := hide e3'
  have H4 := hide h4
  have K4 := hide h4'
  have E4 := hide e4
  have F4 := hide e4'
  clear h1 h2 h3 h4 h1' h2' h3' h4' e1 e2 e3 e4 e1' e2' e3' e4'
  by_cases r1 : l1 = l1'
  · subst r1
    by_cases r2 : l2 = l2'
    · subst r2
      by_cases r3 : l3 = l3'
      · subst r3
        by_cases r4 : l4 = l4'
        · subst r4
          by_cases p0 : s.nextPod = s'.nextPod
          · by_cases p1 : s.nextNode = s'.nextNode
            · go_enter Try.func16, Try.ntmps16
              go_upto_region 3 with (fail)
              refine wp_gen (fun W => Below w.heap.size w W ∧ Blk W w.heap.size #[.slice a1 l1 c1, .slice a2 l2 c2, .slice a3 l3 c3, .slice a4 l4 c4, .int .i64 s'.nextPod, .int .i64 s'.nextNode] 32 ∧ Blk W (w.heap.size + 1) #[.slice a1' l1 c1', .slice a2' l2 c2', .slice a3' l3 c3', .slice a4' l4 c4', .int .i64 s'.nextPod, .int .i64 s'.nextNode] 32) ⟨by go_grown, (Blk.new w _ _).alloc _, by simpa using Blk.new (w.alloc _) _ _⟩ ?_
              rintro W ⟨hBW, hX, hY⟩
              have zx := hX.lt
              have zy := hY.lt
              have HX := hide hX
              have HY := hide hY
              clear hX hY
              replace H1 := hide (H1.out.keep hBW)
              replace K1 := hide (K1.out.keep hBW)
              replace H2 := hide (H2.out.keep hBW)
              replace K2 := hide (K2.out.keep hBW)
              replace H3 := hide (H3.out.keep hBW)
              replace K3 := hide (K3.out.keep hBW)
              replace H4 := hide (H4.out.keep hBW)
              replace K4 := hide (K4.out.keep hBW)
              go_wp2
              go_loopw [5] (fun i w' => ∃ k : Nat, k ≤ l1 ∧ i = .int .i64 k ∧ s.pods.take k = s'.pods.take k ∧ Below W.heap.size W w') (fun i _ => l1 - (intOf i).toNat)
              case atStart => exact ⟨0, Nat.zero_le _, rfl, by simp, Below.refl _ _⟩
              case round =>
                obtain ⟨k, hk, rfl, htk, hb1⟩ := hrel
                have A := (HX.out.below hb1 zx).cell
                have B := (HY.out.below hb1 zy).cell
                have zx' := (HX.out.below hb1 zx).lt
                have zy' := (HY.out.below hb1 zy).lt
                by_cases hlt : k < l1
                · have hkl : k < s.pods.length := by rw [E1.out]; exact hlt
                  have hkl' : k < s'.pods.length := by rw [F1.out]; exact hlt
                  obtain ⟨b, o, ha, hbl, x0, x1, x2, x3, x4⟩ := (H1.out.keep hb1).at k hkl
                  obtain ⟨b', o', ha', hbl', y0, y1, y2, y3, y4⟩ := (K1.out.keep hb1).at k hkl'
                  subst ha ha'
                  have hk0 : (0 : Int) ≤ (k : Int) := by omega
                  have hkn : (k : Int) < (l1 : Int) := by omega
                  by_cases h0 : s.pods[k].id = s'.pods[k].id
                  · by_cases h1 : s.pods[k].work = s'.pods[k].work
                    · by_cases h2 : s.pods[k].node = s'.pods[k].node
                      · by_cases h3 : s.pods[k].nom = s'.pods[k].nom
                        · by_cases h4 : s.pods[k].wait = s'.pods[k].wait
                          · have hee : s.pods[k] = s'.pods[k] := (pd_ext _ _).2 ⟨h0, h1, h2, h3, h4⟩
                            go_wp2
                            refine wp_region_below (by kernel_rfl) (by kernel_rfl) ?_
                            repeat (first
                              | (apply quiet_at (hg := rfl); (· (intro w' hw'; obtain ⟨hc, hf⟩ := bcell hw'; go_simp; first | rfl)); simp only [Act.put, List.setIfInBounds_toArray, List.set_cons_zero, List.set_cons_succ]))
                            refine wpQuiet_nil ?_
                            intro w2 hw2
                            go_wp2
                            go_roundw
                            case rel => exact ⟨k + 1, by omega, by go_num, take_next htk hkl hkl' hee, bel_trans hb1 hw2⟩
                            case measure => simp [intOf]; omega
                          · have hne : ¬ s.pods[k] = s'.pods[k] := fun e => h4 (by rw [e])
                            go_wp2
                            refine wp_region_below (by kernel_rfl) (by kernel_rfl) ?_
                            repeat (first
                              | (apply quiet_at (hg := rfl); (· (intro w' hw'; obtain ⟨hc, hf⟩ := bcell hw'; go_simp; first | rfl)); simp only [Act.put, List.setIfInBounds_toArray, List.set_cons_zero, List.set_cons_succ]))
                            refine wpQuiet_nil ?_
                            intro w2 hw2
                            go_wp2
                            go_ret
                            exact ⟨ret_bool (decide_eq_false fun e => hne (by subst e; rfl)).symm, Below.trans hBW ((bel_trans hb1 hw2).mono hBW.size)⟩
                        · have hne : ¬ s.pods[k] = s'.pods[k] := fun e => h3 (by rw [e])
                          go_wp2
                          refine wp_region_below (by kernel_rfl) (by kernel_rfl) ?_
                          repeat (first
                            | (apply quiet_at (hg := rfl); (· (intro w' hw'; obtain ⟨hc, hf⟩ := bcell hw'; go_simp; first | rfl)); simp only [Act.put, List.setIfInBounds_toArray, List.set_cons_zero, List.set_cons_succ]))
                          refine wpQuiet_nil ?_
                          intro w2 hw2
                          go_wp2
                          go_ret
                          exact ⟨ret_bool (decide_eq_false fun e => hne (by subst e; rfl)).symm, Below.trans hBW ((bel_trans hb1 hw2).mono hBW.size)⟩
                      · have hne : ¬ s.pods[k] = s'.pods[k] := fun e => h2 (by rw [e])
                        go_wp2
                        refine wp_region_below (by kernel_rfl) (by kernel_rfl) ?_
                        repeat (first
                          | (apply quiet_at (hg := rfl); (· (intro w' hw'; obtain ⟨hc, hf⟩ := bcell hw'; go_simp; first | rfl)); simp only [Act.put, List.setIfInBounds_toArray, List.set_cons_zero, List.set_cons_succ]))
                        refine wpQuiet_nil ?_
                        intro w2 hw2
                        go_wp2
                        go_ret
                        exact ⟨ret_bool (decide_eq_false fun e => hne (by subst e; rfl)).symm, Below.trans hBW ((bel_trans hb1 hw2).mono hBW.size)⟩
                    · have hne : ¬ s.pods[k] = s'.pods[k] := fun e => h1 (by rw [e])
                      go_wp2
                      refine wp_region_below (by kernel_rfl) (by kernel_rfl) ?_
                      repeat (first
                        | (apply quiet_at (hg := rfl); (· (intro w' hw'; obtain ⟨hc, hf⟩ := bcell hw'; go_simp; first | rfl)); simp only [Act.put, List.setIfInBounds_toArray, List.set_cons_zero, List.set_cons_succ]))
                      refine wpQuiet_nil ?_
                      intro w2 hw2
                      go_wp2
                      go_ret
                      exact ⟨ret_bool (decide_eq_false fun e => hne (by subst e; rfl)).symm, Below.trans hBW ((bel_trans hb1 hw2).mono hBW.size)⟩
                  · have hne : ¬ s.pods[k] = s'.pods[k] := fun e => h0 (by rw [e])
                    go_wp2
                    refine wp_region_below (by kernel_rfl) (by kernel_rfl) ?_
                    repeat (first
                      | (apply quiet_at (hg := rfl); (· (intro w' hw'; obtain ⟨hc, hf⟩ := bcell hw'; go_simp; first | rfl)); simp only [Act.put, List.setIfInBounds_toArray, List.set_cons_zero, List.set_cons_succ]))
                    refine wpQuiet_nil ?_
                    intro w2 hw2
                    go_wp2
                    go_ret
                    exact ⟨ret_bool (decide_eq_false fun e => hne (by subst e; rfl)).symm, Below.trans hBW ((bel_trans hb1 hw2).mono hBW.size)⟩
                · have hkk : k = l1 := by omega
                  have hkk2 : (k : Int) = (l1 : Int) := by omega
                  have Q1 : Hid (s.pods = s'.pods) := by
                    have h1 : s.pods.take k = s.pods := List.take_of_length_le (by rw [E1.out]; omega)
                    have h2 : s'.pods.take k = s'.pods := List.take_of_length_le (by rw [F1.out]; omega)
                    exact (by rw [← h1, htk, h2] : s.pods = s'.pods)
                  clear htk
                  go_wp2
                  go_loopw [6] (fun i w' => ∃ k : Nat, k ≤ l2 ∧ i = .int .i64 k ∧ s.nodes.take k = s'.nodes.take k ∧ Below W.heap.size W w') (fun i _ => l2 - (intOf i).toNat)
                  case atStart => exact ⟨0, Nat.zero_le _, rfl, by simp, hb1⟩
                  case round =>
                    clear A B zx' zy'
                    obtain ⟨k, hk, rfl, htk, hb2⟩ := hrel
                    have A := (HX.out.below hb2 zx).cell
                    have B := (HY.out.below hb2 zy).cell
                    have zx' := (HX.out.below hb2 zx).lt
                    have zy' := (HY.out.below hb2 zy).lt
                    by_cases hlt : k < l2
                    · have hkl : k < s.nodes.length := by rw [E2.out]; exact hlt
                      have hkl' : k < s'.nodes.length := by rw [F2.out]; exact hlt
                      obtain ⟨b, o, ha, hbl, x0, x1, x2, x3⟩ := (H2.out.keep hb2).at k hkl
                      obtain ⟨b', o', ha', hbl', y0, y1, y2, y3⟩ := (K2.out.keep hb2).at k hkl'
                      subst ha ha'
                      have hk0 : (0 : Int) ≤ (k : Int) := by omega
                      have hkn : (k : Int) < (l2 : Int) := by omega
                      by_cases h0 : s.nodes[k].id = s'.nodes[k].id
                      · by_cases h1 : s.nodes[k].group = s'.nodes[k].group
                        · by_cases h2 : s.nodes[k].boot = s'.nodes[k].boot
                          · by_cases h3 : s.nodes[k].idle = s'.nodes[k].idle
                            · have hee : s.nodes[k] = s'.nodes[k] := (nd_ext _ _).2 ⟨h0, h1, h2, h3⟩
                              go_wp2
                              refine wp_region_below (by kernel_rfl) (by kernel_rfl) ?_
                              repeat (first
                                | (apply quiet_at (hg := rfl); (· (intro w' hw'; obtain ⟨hc, hf⟩ := bcell hw'; go_simp; first | rfl)); simp only [Act.put, List.setIfInBounds_toArray, List.set_cons_zero, List.set_cons_succ]))
                              refine wpQuiet_nil ?_
                              intro w2 hw2
                              go_wp2
                              go_roundw
                              case rel => exact ⟨k + 1, by omega, by go_num, take_next htk hkl hkl' hee, bel_trans hb2 hw2⟩
                              case measure => simp [intOf]; omega
                            · have hne : ¬ s.nodes[k] = s'.nodes[k] := fun e => h3 (by rw [e])
                              go_wp2
                              refine wp_region_below (by kernel_rfl) (by kernel_rfl) ?_
                              repeat (first
                                | (apply quiet_at (hg := rfl); (· (intro w' hw'; obtain ⟨hc, hf⟩ := bcell hw'; go_simp; first | rfl)); simp only [Act.put, List.setIfInBounds_toArray, List.set_cons_zero, List.set_cons_succ]))
                              refine wpQuiet_nil ?_
                              intro w2 hw2
                              go_wp2
                              go_ret
                              exact ⟨ret_bool (decide_eq_false fun e => hne (by subst e; rfl)).symm, Below.trans hBW ((bel_trans hb2 hw2).mono hBW.size)⟩
                          · have hne : ¬ s.nodes[k] = s'.nodes[k] := fun e => h2 (by rw [e])
                            go_wp2
                            refine wp_region_below (by kernel_rfl) (by kernel_rfl) ?_
                            repeat (first
                              | (apply quiet_at (hg := rfl); (· (intro w' hw'; obtain ⟨hc, hf⟩ := bcell hw'; go_simp; first | rfl)); simp only [Act.put, List.setIfInBounds_toArray, List.set_cons_zero, List.set_cons_succ]))
                            refine wpQuiet_nil ?_
                            intro w2 hw2
                            go_wp2
                            go_ret
                            exact ⟨ret_bool (decide_eq_false fun e => hne (by subst e; rfl)).symm, Below.trans hBW ((bel_trans hb2 hw2).mono hBW.size)⟩
                        · have hne : ¬ s.nodes[k] = s'.nodes[k] := fun e => h1 (by rw [e])
                          go_wp2
                          refine wp_region_below (by kernel_rfl) (by kernel_rfl) ?_
                          repeat (first
                            | (apply quiet_at (hg := rfl); (· (intro w' hw'; obtain ⟨hc, hf⟩ := bcell hw'; go_simp; first | rfl)); simp only [Act.put, List.setIfInBounds_toArray, List.set_cons_zero, List.set_cons_succ]))
                          refine wpQuiet_nil ?_
                          intro w2 hw2
                          go_wp2
                          go_ret
                          exact ⟨ret_bool (decide_eq_false fun e => hne (by subst e; rfl)).symm, Below.trans hBW ((bel_trans hb2 hw2).mono hBW.size)⟩
                      · have hne : ¬ s.nodes[k] = s'.nodes[k] := fun e => h0 (by rw [e])
                        go_wp2
                        refine wp_region_below (by kernel_rfl) (by kernel_rfl) ?_
                        repeat (first
                          | (apply quiet_at (hg := rfl); (· (intro w' hw'; obtain ⟨hc, hf⟩ := bcell hw'; go_simp; first | rfl)); simp only [Act.put, List.setIfInBounds_toArray, List.set_cons_zero, List.set_cons_succ]))
                        refine wpQuiet_nil ?_
                        intro w2 hw2
                        go_wp2
                        go_ret
                        exact ⟨ret_bool (decide_eq_false fun e => hne (by subst e; rfl)).symm, Below.trans hBW ((bel_trans hb2 hw2).mono hBW.size)⟩
                    · have hkk : k = l2 := by omega
                      have hkk2 : (k : Int) = (l2 : Int) := by omega
                      have Q2 : Hid (s.nodes = s'.nodes) := by
                        have h1 : s.nodes.take k = s.nodes := List.take_of_length_le (by rw [E2.out]; omega)
                        have h2 : s'.nodes.take k = s'.nodes := List.take_of_length_le (by rw [F2.out]; omega)
                        exact (by rw [← h1, htk, h2] : s.nodes = s'.nodes)
                      clear htk
                      go_wp2
                      go_loopw [7] (fun i w' => ∃ k : Nat, k ≤ l3 ∧ i = .int .i64 k ∧ s.works.take k = s'.works.take k ∧ Below W.heap.size W w') (fun i _ => l3 - (intOf i).toNat)
                      case atStart => exact ⟨0, Nat.zero_le _, rfl, by simp, hb2⟩
                      case round =>
                        clear A B zx' zy'
                        obtain ⟨k, hk, rfl, htk, hb3⟩ := hrel
                        have A := (HX.out.below hb3 zx).cell
                        have B := (HY.out.below hb3 zy).cell
                        have zx' := (HX.out.below hb3 zx).lt
                        have zy' := (HY.out.below hb3 zy).lt
                        by_cases hlt : k < l3
                        · have hkl : k < s.works.length := by rw [E3.out]; exact hlt
                          have hkl' : k < s'.works.length := by rw [F3.out]; exact hlt
                          obtain ⟨b, o, ha, hbl, x0, x1, x2⟩ := (H3.out.keep hb3).at k hkl
                          obtain ⟨b', o', ha', hbl', y0, y1, y2⟩ := (K3.out.keep hb3).at k hkl'
                          subst ha ha'
                          have hk0 : (0 : Int) ≤ (k : Int) := by omega
                          have hkn : (k : Int) < (l3 : Int) := by omega
                          by_cases h0 : s.works[k].want = s'.works[k].want
                          · by_cases h1 : s.works[k].load = s'.works[k].load
                            · by_cases h2 : s.works[k].low = s'.works[k].low
                              · have hee : s.works[k] = s'.works[k] := (ws_ext _ _).2 ⟨h0, h1, h2⟩
                                go_wp2
                                refine wp_region_below (by kernel_rfl) (by kernel_rfl) ?_
                                repeat (first
                                  | (apply quiet_at (hg := rfl); (· (intro w' hw'; obtain ⟨hc, hf⟩ := bcell hw'; go_simp; first | rfl)); simp only [Act.put, List.setIfInBounds_toArray, List.set_cons_zero, List.set_cons_succ]))
                                refine wpQuiet_nil ?_
                                intro w2 hw2
                                go_wp2
                                go_roundw
                                case rel => exact ⟨k + 1, by omega, by go_num, take_next htk hkl hkl' hee, bel_trans hb3 hw2⟩
                                case measure => simp [intOf]; omega
                              · have hne : ¬ s.works[k] = s'.works[k] := fun e => h2 (by rw [e])
                                go_wp2
                                refine wp_region_below (by kernel_rfl) (by kernel_rfl) ?_
                                repeat (first
                                  | (apply quiet_at (hg := rfl); (· (intro w' hw'; obtain ⟨hc, hf⟩ := bcell hw'; go_simp; first | rfl)); simp only [Act.put, List.setIfInBounds_toArray, List.set_cons_zero, List.set_cons_succ]))
                                refine wpQuiet_nil ?_
                                intro w2 hw2
                                go_wp2
                                go_ret
                                exact ⟨ret_bool (decide_eq_false fun e => hne (by subst e; rfl)).symm, Below.trans hBW ((bel_trans hb3 hw2).mono hBW.size)⟩
                            · have hne : ¬ s.works[k] = s'.works[k] := fun e => h1 (by rw [e])
                              go_wp2
                              refine wp_region_below (by kernel_rfl) (by kernel_rfl) ?_
                              repeat (first
                                | (apply quiet_at (hg := rfl); (· (intro w' hw'; obtain ⟨hc, hf⟩ := bcell hw'; go_simp; first | rfl)); simp only [Act.put, List.setIfInBounds_toArray, List.set_cons_zero, List.set_cons_succ]))
                              refine wpQuiet_nil ?_
                              intro w2 hw2
                              go_wp2
                              go_ret
                              exact ⟨ret_bool (decide_eq_false fun e => hne (by subst e; rfl)).symm, Below.trans hBW ((bel_trans hb3 hw2).mono hBW.size)⟩
                          · have hne : ¬ s.works[k] = s'.works[k] := fun e => h0 (by rw [e])
                            go_wp2
                            refine wp_region_below (by kernel_rfl) (by kernel_rfl) ?_
                            repeat (first
                              | (apply quiet_at (hg := rfl); (· (intro w' hw'; obtain ⟨hc, hf⟩ := bcell hw'; go_simp; first | rfl)); simp only [Act.put, List.setIfInBounds_toArray, List.set_cons_zero, List.set_cons_succ]))
                            refine wpQuiet_nil ?_
                            intro w2 hw2
                            go_wp2
                            go_ret
                            exact ⟨ret_bool (decide_eq_false fun e => hne (by subst e; rfl)).symm, Below.trans hBW ((bel_trans hb3 hw2).mono hBW.size)⟩
                        · have hkk : k = l3 := by omega
                          have hkk2 : (k : Int) = (l3 : Int) := by omega
                          have Q3 : Hid (s.works = s'.works) := by
                            have h1 : s.works.take k = s.works := List.take_of_length_le (by rw [E3.out]; omega)
                            have h2 : s'.works.take k = s'.works := List.take_of_length_le (by rw [F3.out]; omega)
                            exact (by rw [← h1, htk, h2] : s.works = s'.works)
                          clear htk
                          go_wp2
                          go_loopw [8] (fun i w' => ∃ k : Nat, k ≤ l4 ∧ i = .int .i64 k ∧ s.groups.take k = s'.groups.take k ∧ Below W.heap.size W w') (fun i _ => l4 - (intOf i).toNat)
                          case atStart => exact ⟨0, Nat.zero_le _, rfl, by simp, hb3⟩
                          case round =>
                            clear A B zx' zy'
                            obtain ⟨k, hk, rfl, htk, hb4⟩ := hrel
                            have A := (HX.out.below hb4 zx).cell
                            have B := (HY.out.below hb4 zy).cell
                            have zx' := (HX.out.below hb4 zx).lt
                            have zy' := (HY.out.below hb4 zy).lt
                            by_cases hlt : k < l4
                            · have hkl : k < s.groups.length := by rw [E4.out]; exact hlt
                              have hkl' : k < s'.groups.length := by rw [F4.out]; exact hlt
                              obtain ⟨b, o, ha, hbl, x0, x1, x2⟩ := (H4.out.keep hb4).at k hkl
                              obtain ⟨b', o', ha', hbl', y0, y1, y2⟩ := (K4.out.keep hb4).at k hkl'
                              subst ha ha'
                              have hk0 : (0 : Int) ≤ (k : Int) := by omega
                              have hkn : (k : Int) < (l4 : Int) := by omega
                              by_cases h0 : s.groups[k].asked = s'.groups[k].asked
                              · by_cases h1 : s.groups[k].rest = s'.groups[k].rest
                                · by_cases h2 : s.groups[k].fails = s'.groups[k].fails
                                  · have hee : s.groups[k] = s'.groups[k] := (gs_ext _ _).2 ⟨h0, h1, h2⟩
                                    go_wp2
                                    refine wp_region_below (by kernel_rfl) (by kernel_rfl) ?_
                                    repeat (first
                                      | (apply quiet_at (hg := rfl); (· (intro w' hw'; obtain ⟨hc, hf⟩ := bcell hw'; go_simp; first | rfl)); simp only [Act.put, List.setIfInBounds_toArray, List.set_cons_zero, List.set_cons_succ]))
                                    refine wpQuiet_nil ?_
                                    intro w2 hw2
                                    go_wp2
                                    go_roundw
                                    case rel => exact ⟨k + 1, by omega, by go_num, take_next htk hkl hkl' hee, bel_trans hb4 hw2⟩
                                    case measure => simp [intOf]; omega
                                  · have hne : ¬ s.groups[k] = s'.groups[k] := fun e => h2 (by rw [e])
                                    go_wp2
                                    refine wp_region_below (by kernel_rfl) (by kernel_rfl) ?_
                                    repeat (first
                                      | (apply quiet_at (hg := rfl); (· (intro w' hw'; obtain ⟨hc, hf⟩ := bcell hw'; go_simp; first | rfl)); simp only [Act.put, List.setIfInBounds_toArray, List.set_cons_zero, List.set_cons_succ]))
                                    refine wpQuiet_nil ?_
                                    intro w2 hw2
                                    go_wp2
                                    go_ret
                                    exact ⟨ret_bool (decide_eq_false fun e => hne (by subst e; rfl)).symm, Below.trans hBW ((bel_trans hb4 hw2).mono hBW.size)⟩
                                · have hne : ¬ s.groups[k] = s'.groups[k] := fun e => h1 (by rw [e])
                                  go_wp2
                                  refine wp_region_below (by kernel_rfl) (by kernel_rfl) ?_
                                  repeat (first
                                    | (apply quiet_at (hg := rfl); (· (intro w' hw'; obtain ⟨hc, hf⟩ := bcell hw'; go_simp; first | rfl)); simp only [Act.put, List.setIfInBounds_toArray, List.set_cons_zero, List.set_cons_succ]))
                                  refine wpQuiet_nil ?_
                                  intro w2 hw2
                                  go_wp2
                                  go_ret
                                  exact ⟨ret_bool (decide_eq_false fun e => hne (by subst e; rfl)).symm, Below.trans hBW ((bel_trans hb4 hw2).mono hBW.size)⟩
                              · have hne : ¬ s.groups[k] = s'.groups[k] := fun e => h0 (by rw [e])
                                go_wp2
                                refine wp_region_below (by kernel_rfl) (by kernel_rfl) ?_
                                repeat (first
                                  | (apply quiet_at (hg := rfl); (· (intro w' hw'; obtain ⟨hc, hf⟩ := bcell hw'; go_simp; first | rfl)); simp only [Act.put, List.setIfInBounds_toArray, List.set_cons_zero, List.set_cons_succ]))
                                refine wpQuiet_nil ?_
                                intro w2 hw2
                                go_wp2
                                go_ret
                                exact ⟨ret_bool (decide_eq_false fun e => hne (by subst e; rfl)).symm, Below.trans hBW ((bel_trans hb4 hw2).mono hBW.size)⟩
                            · have hkk : k = l4 := by omega
                              have hkk2 : (k : Int) = (l4 : Int) := by omega
                              have Q4 : Hid (s.groups = s'.groups) := by
                                have h1 : s.groups.take k = s.groups := List.take_of_length_le (by rw [E4.out]; omega)
                                have h2 : s'.groups.take k = s'.groups := List.take_of_length_le (by rw [F4.out]; omega)
                                exact (by rw [← h1, htk, h2] : s.groups = s'.groups)
                              clear htk
                              have HD := show decide (s = s') = true from by simp only [st_eq, p0, p1, Q1.out, Q2.out, Q3.out, Q4.out, and_self, decide_true]
                              go_wp2
                              go_ret
                              exact ⟨ret_bool HD.symm, Below.trans hBW (hb4.mono hBW.size)⟩
            · have HD := hide (show decide (s = s') = false from decide_eq_false fun e => p1 (by rw [e]))
              go_enter Try.func16, Try.ntmps16
              go_wp2
              all_goals go_ret
              all_goals exact ⟨ret_bool HD.out.symm, by go_grown⟩
          · have HD := hide (show decide (s = s') = false from decide_eq_false fun e => p0 (by rw [e]))
            go_enter Try.func16, Try.ntmps16
            go_wp2
            all_goals go_ret
            all_goals exact ⟨ret_bool HD.out.symm, by go_grown⟩
        · have hne : ¬ (l4 : Int) = (l4' : Int) := by omega
          have HD := hide (show decide (s = s') = false from decide_eq_false fun e => r4 (by rw [← E4.out, ← F4.out, e]))
          go_enter Try.func16, Try.ntmps16
          go_wp2
          all_goals go_ret
          all_goals exact ⟨ret_bool HD.out.symm, by go_grown⟩
      · have hne : ¬ (l3 : Int) = (l3' : Int) := by omega
        have HD := hide (show decide (s = s') = false from decide_eq_false fun e => r3 (by rw [← E3.out, ← F3.out, e]))
        go_enter Try.func16, Try.ntmps16
        go_wp2
        all_goals go_ret
        all_goals exact ⟨ret_bool HD.out.symm, by go_grown⟩
    · have hne : ¬ (l2 : Int) = (l2' : Int) := by omega
      have HD := hide (show decide (s = s') = false from decide_eq_false fun e => r2 (by rw [← E2.out, ← F2.out, e]))
      go_enter Try.func16, Try.ntmps16
      go_wp2
      all_goals go_ret
      all_goals exact ⟨ret_bool HD.out.symm, by go_grown⟩
  · have hne : ¬ (l1 : Int) = (l1' : Int) := by omega
    have HD := hide (show decide (s = s') = false from decide_eq_false fun e => r1 (by rw [← E1.out, ← F1.out, e]))
    go_enter Try.func16, Try.ntmps16
    go_wp2
    all_goals go_ret
    all_goals exact ⟨ret_bool HD.out.symm, by go_grown⟩
end Go.Proofs.Ytcdjklpnjdladaa
