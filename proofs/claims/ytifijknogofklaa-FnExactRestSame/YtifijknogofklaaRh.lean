/- At rest: two of what there is held against each other, by the document. -/
import Derived.Test.YtifijknogofklaaRf
namespace Go.Proofs.Ytifijknogofklaa
open Go.RowKit

set_option maxRecDepth 100000 in
set_option maxHeartbeats 8000000 in
theorem sRestSame_any (v v' : Value) (s s' : St) (w : World) (h : StateAt w v s) (h' : StateAt w v' s') :
    Calls Try.prog 16 #[v, v'] w fun e w' => e = .returned (.bool (decide (rsame s s'))) ∧ Below w.heap.size w w' := by
  obtain ⟨a1, l1, c1, a2, l2, c2, a3, l3, c3, a4, l4, c4, rfl, ⟨e1, m1, h1⟩, ⟨e2, m2, h2⟩, ⟨e3, m3, h3⟩, ⟨e4, m4, h4⟩⟩ := h
  obtain ⟨a1', l1', c1', a2', l2', c2', a3', l3', c3', a4', l4', c4', rfl, ⟨e1', m1', h1'⟩, ⟨e2', m2', h2'⟩, ⟨e3', m3', h3'⟩, ⟨e4', m4', h4'⟩⟩ := h'
  have H1 := hide h1
  have K1 := hide h1'
  have E1 := hide e1
  have F1 := hide e1'
  have H2 := hide h2
  have K2 := hide h2'
  have E2 := hide e2
  have F2 := hide e2'
  have H3 := hide h3
  have K3 := hide h3'
  have E3 := hide e3
  have F3 := hide e3'
  clear h1 h2 h3 h4 h1' h2' h3' h4' e1 e2 e3 e4 e1' e2' e3' e4'
  by_cases r1 : l1 = l1'
  · subst r1
    by_cases r2 : l2 = l2'
    · subst r2
      by_cases r3 : l3 = l3'
      · subst r3
        by_cases p0 : s.nextPod = s'.nextPod
        · by_cases p1 : s.nextNode = s'.nextNode
          · go_enter Try.func16, Try.ntmps16
            go_upto_region 3 with (fail)
            refine wp_gen (fun W => Below w.heap.size w W ∧ Blk W w.heap.size #[.slice a1 l1 c1, .slice a2 l2 c2, .slice a3 l3 c3, .slice a4 l4 c4, .int .i64 s'.nextPod, .int .i64 s'.nextNode] 58 ∧ Blk W (w.heap.size + 1) #[.slice a1' l1 c1', .slice a2' l2 c2', .slice a3' l3 c3', .slice a4' l4' c4', .int .i64 s'.nextPod, .int .i64 s'.nextNode] 58) ⟨by go_grown, (Blk.new w _ _).alloc _, by simpa using Blk.new (w.alloc _) _ _⟩ ?_
            rintro W ⟨hBW, hX, hY⟩
            have zx := hX.lt
            have zy := hY.lt
            have HX := hide hX
            have HY := hide hY
            clear hX hY
            replace H1 := hide (H1.out.keep hBW)
            replace K1 := hide (K1.out.keep hBW)
            replace H2 := hide (H2.out.keep hBW)
            replace K2 := hide (K2.out.keep hBW)
            replace H3 := hide (H3.out.keep hBW)
            replace K3 := hide (K3.out.keep hBW)
            go_wp2
            go_loopw [5] (fun i w' => ∃ k : Nat, k ≤ l1 ∧ i = .int .i64 k ∧ s.pods.take k = s'.pods.take k ∧ Below W.heap.size W w') (fun i _ => l1 - (intOf i).toNat)
            case atStart => exact ⟨0, Nat.zero_le _, rfl, by simp, Below.refl _ _⟩
            case round =>
              obtain ⟨k, hk, rfl, htk, hb1⟩ := hrel
              have A := (HX.out.below hb1 zx).cell
              have B := (HY.out.below hb1 zy).cell
              have zx' := (HX.out.below hb1 zx).lt
              have zy' := (HY.out.below hb1 zy).lt
              by_cases hlt : k < l1
              · have hkl : k < s.pods.length := by rw [E1.out]; exact hlt
                have hkl' : k < s'.pods.length := by rw [F1.out]; exact hlt
                obtain ⟨b, o, ha, hbl, x0, x1, x2, x3, x4⟩ := (H1.out.keep hb1).at k hkl
                obtain ⟨b', o', ha', hbl', y0, y1, y2, y3, y4⟩ := (K1.out.keep hb1).at k hkl'
                subst ha ha'
                have hk0 : (0 : Int) ≤ (k : Int) := by omega
                have hkn : (k : Int) < (l1 : Int) := by omega
                by_cases h0 : s.pods[k].id = s'.pods[k].id
                · by_cases h1 : s.pods[k].work = s'.pods[k].work
                  · by_cases h2 : s.pods[k].node = s'.pods[k].node
                    · by_cases h3 : s.pods[k].nom = s'.pods[k].nom
                      · by_cases h4 : s.pods[k].wait = s'.pods[k].wait
                        · have hee : s.pods[k] = s'.pods[k] := (pd_ext _ _).2 ⟨h0, h1, h2, h3, h4⟩
                          go_wp2
                          refine wp_region_below (by kernel_rfl) (by kernel_rfl) ?_
                          repeat (first
                            | (apply quiet_at (hg := rfl); (· (intro w' hw'; obtain ⟨hc, hf⟩ := bcell hw'; go_simp; first | rfl)); simp only [Act.put, List.setIfInBounds_toArray, List.set_cons_zero, List.set_cons_succ]))
                          refine wpQuiet_nil ?_
                          intro w2 hw2
                          go_wp2
                          go_roundw
                          case rel => exact ⟨k + 1, by omega, by go_num, take_next htk hkl hkl' hee, bel_trans hb1 hw2⟩
                          case measure => simp [intOf]; omega
                        · have hne : ¬ s.pods[k] = s'.pods[k] := fun e => h4 (by rw [e])
                          go_wp2
                          refine wp_region_below (by kernel_rfl) (by kernel_rfl) ?_
                          repeat (first
                            | (apply quiet_at (hg := rfl); (· (intro w' hw'; obtain ⟨hc, hf⟩ := bcell hw'; go_simp; first | rfl)); simp only [Act.put, List.setIfInBounds_toArray, List.set_cons_zero, List.set_cons_succ]))
                          refine wpQuiet_nil ?_
                          intro w2 hw2
                          go_wp2
                          go_ret
                          exact ⟨ret_bool (decide_eq_false (fun e => hne (by have := e.2.2.1; simp only [this]))).symm, Below.trans hBW ((bel_trans hb1 hw2).mono hBW.size)⟩
                      · have hne : ¬ s.pods[k] = s'.pods[k] := fun e => h3 (by rw [e])
                        go_wp2
                        refine wp_region_below (by kernel_rfl) (by kernel_rfl) ?_
                        repeat (first
                          | (apply quiet_at (hg := rfl); (· (intro w' hw'; obtain ⟨hc, hf⟩ := bcell hw'; go_simp; first | rfl)); simp only [Act.put, List.setIfInBounds_toArray, List.set_cons_zero, List.set_cons_succ]))
                        refine wpQuiet_nil ?_
                        intro w2 hw2
                        go_wp2
                        go_ret
                        exact ⟨ret_bool (decide_eq_false (fun e => hne (by have := e.2.2.1; simp only [this]))).symm, Below.trans hBW ((bel_trans hb1 hw2).mono hBW.size)⟩
                    · have hne : ¬ s.pods[k] = s'.pods[k] := fun e => h2 (by rw [e])
                      go_wp2
                      refine wp_region_below (by kernel_rfl) (by kernel_rfl) ?_
                      repeat (first
                        | (apply quiet_at (hg := rfl); (· (intro w' hw'; obtain ⟨hc, hf⟩ := bcell hw'; go_simp; first | rfl)); simp only [Act.put, List.setIfInBounds_toArray, List.set_cons_zero, List.set_cons_succ]))
                      refine wpQuiet_nil ?_
                      intro w2 hw2
                      go_wp2
                      go_ret
                      exact ⟨ret_bool (decide_eq_false (fun e => hne (by have := e.2.2.1; simp only [this]))).symm, Below.trans hBW ((bel_trans hb1 hw2).mono hBW.size)⟩
                  · have hne : ¬ s.pods[k] = s'.pods[k] := fun e => h1 (by rw [e])
                    go_wp2
                    refine wp_region_below (by kernel_rfl) (by kernel_rfl) ?_
                    repeat (first
                      | (apply quiet_at (hg := rfl); (· (intro w' hw'; obtain ⟨hc, hf⟩ := bcell hw'; go_simp; first | rfl)); simp only [Act.put, List.setIfInBounds_toArray, List.set_cons_zero, List.set_cons_succ]))
                    refine wpQuiet_nil ?_
                    intro w2 hw2
                    go_wp2
                    go_ret
                    exact ⟨ret_bool (decide_eq_false (fun e => hne (by have := e.2.2.1; simp only [this]))).symm, Below.trans hBW ((bel_trans hb1 hw2).mono hBW.size)⟩
                · have hne : ¬ s.pods[k] = s'.pods[k] := fun e => h0 (by rw [e])
                  go_wp2
                  refine wp_region_below (by kernel_rfl) (by kernel_rfl) ?_
                  repeat (first
                    | (apply quiet_at (hg := rfl); (· (intro w' hw'; obtain ⟨hc, hf⟩ := bcell hw'; go_simp; first | rfl)); simp only [Act.put, List.setIfInBounds_toArray, List.set_cons_zero, List.set_cons_succ]))
                  refine wpQuiet_nil ?_
                  intro w2 hw2
                  go_wp2
                  go_ret
                  exact ⟨ret_bool (decide_eq_false (fun e => hne (by have := e.2.2.1; simp only [this]))).symm, Below.trans hBW ((bel_trans hb1 hw2).mono hBW.size)⟩
              · have hkk : k = l1 := by omega
                have hkk2 : (k : Int) = (l1 : Int) := by omega
                have Q1 : Hid (s.pods = s'.pods) := by
                  have h1 : s.pods.take k = s.pods := List.take_of_length_le (by rw [E1.out]; omega)
                  have h2 : s'.pods.take k = s'.pods := List.take_of_length_le (by rw [F1.out]; omega)
                  exact (by rw [← h1, htk, h2] : s.pods = s'.pods)
                clear htk
                go_wp2
                go_loopw [6] (fun i w' => ∃ k : Nat, k ≤ l2 ∧ i = .int .i64 k ∧ (s.nodes.map nk).take k = (s'.nodes.map nk).take k ∧ Below W.heap.size W w') (fun i _ => l2 - (intOf i).toNat)
                case atStart => exact ⟨0, Nat.zero_le _, rfl, by simp, hb1⟩
                case round =>
                  clear A B zx' zy'
                  obtain ⟨k, hk, rfl, htk, hb2⟩ := hrel
                  have A := (HX.out.below hb2 zx).cell
                  have B := (HY.out.below hb2 zy).cell
                  have zx' := (HX.out.below hb2 zx).lt
                  have zy' := (HY.out.below hb2 zy).lt
                  by_cases hlt : k < l2
                  · have hkl : k < s.nodes.length := by rw [E2.out]; exact hlt
                    have hkl' : k < s'.nodes.length := by rw [F2.out]; exact hlt
                    obtain ⟨b, o, ha, hbl, x0, x1, x2, x3⟩ := (H2.out.keep hb2).at k hkl
                    obtain ⟨b', o', ha', hbl', y0, y1, y2, y3⟩ := (K2.out.keep hb2).at k hkl'
                    subst ha ha'
                    have hk0 : (0 : Int) ≤ (k : Int) := by omega
                    have hkn : (k : Int) < (l2 : Int) := by omega
                    by_cases h0 : s.nodes[k].id = s'.nodes[k].id
                    · by_cases h1 : s.nodes[k].group = s'.nodes[k].group
                      · by_cases h2 : s.nodes[k].boot = s'.nodes[k].boot
                        · have hee : nk s.nodes[k] = nk s'.nodes[k] := nk_eq.2 ⟨h0, h1, h2⟩
                          go_wp2
                          refine wp_region_below (by kernel_rfl) (by kernel_rfl) ?_
                          repeat (first
                            | (apply quiet_at (hg := rfl); (· (intro w' hw'; obtain ⟨hc, hf⟩ := bcell hw'; go_simp; first | rfl)); simp only [Act.put, List.setIfInBounds_toArray, List.set_cons_zero, List.set_cons_succ]))
                          refine wpQuiet_nil ?_
                          intro w2 hw2
                          go_wp2
                          go_roundw
                          case rel => exact ⟨k + 1, by omega, by go_num, take_nextM htk hkl hkl' hee, bel_trans hb2 hw2⟩
                          case measure => simp [intOf]; omega
                        · have hne : ¬ nk s.nodes[k] = nk s'.nodes[k] := fun e => h2 (nk_eq.1 e).2.2
                          have hnb : (s.nodes[k].boot != s'.nodes[k].boot) = true := bne_iff_ne.2 h2
                          go_wp2
                          refine wp_region_below (by kernel_rfl) (by kernel_rfl) ?_
                          repeat (first
                            | (apply quiet_at (hg := rfl); (· (intro w' hw'; obtain ⟨hc, hf⟩ := bcell hw'; go_simp; first | rfl)); simp only [Act.put, List.setIfInBounds_toArray, List.set_cons_zero, List.set_cons_succ]))
                          refine wpQuiet_nil ?_
                          intro w2 hw2
                          go_wp2
                          go_ret
                          exact ⟨ret_bool (decide_eq_false (fun e => ne_atM hkl hkl' hne e.2.2.2.1)).symm, Below.trans hBW ((bel_trans hb2 hw2).mono hBW.size)⟩
                      · have hne : ¬ nk s.nodes[k] = nk s'.nodes[k] := fun e => h1 (nk_eq.1 e).2.1
                        have hnb : (s.nodes[k].group != s'.nodes[k].group) = true := bne_iff_ne.2 h1
                        go_wp2
                        refine wp_region_below (by kernel_rfl) (by kernel_rfl) ?_
                        repeat (first
                          | go_big_quiet_skip
                          | (apply quiet_at (hg := rfl); (· (intro w' hw'; obtain ⟨hc, hf⟩ := bcell hw'; go_simp; first | rfl)); simp only [Act.put, List.setIfInBounds_toArray, List.set_cons_zero, List.set_cons_succ]))
                        refine wpQuiet_nil ?_
                        intro w2 hw2
                        go_wp2
                        go_ret
                        exact ⟨ret_bool (decide_eq_false (fun e => ne_atM hkl hkl' hne e.2.2.2.1)).symm, Below.trans hBW ((bel_trans hb2 hw2).mono hBW.size)⟩
                    · have hne : ¬ nk s.nodes[k] = nk s'.nodes[k] := fun e => h0 (nk_eq.1 e).1
                      have hnb : (s.nodes[k].id != s'.nodes[k].id) = true := bne_iff_ne.2 h0
                      go_wp2
                      refine wp_region_below (by kernel_rfl) (by kernel_rfl) ?_
                      repeat (first
                        | go_big_quiet_skip
                        | (apply quiet_at (hg := rfl); (· (intro w' hw'; obtain ⟨hc, hf⟩ := bcell hw'; go_simp; first | rfl)); simp only [Act.put, List.setIfInBounds_toArray, List.set_cons_zero, List.set_cons_succ]))
                      refine wpQuiet_nil ?_
                      intro w2 hw2
                      go_wp2
                      go_ret
                      exact ⟨ret_bool (decide_eq_false (fun e => ne_atM hkl hkl' hne e.2.2.2.1)).symm, Below.trans hBW ((bel_trans hb2 hw2).mono hBW.size)⟩
                  · have hkk : k = l2 := by omega
                    have hkk2 : (k : Int) = (l2 : Int) := by omega
                    have Q2 : Hid (s.nodes.map nk = s'.nodes.map nk) := all_M htk (by rw [E2.out]; omega) (by rw [F2.out]; omega)
                    clear htk
                    go_wp2
                    go_loopw [7] (fun i w' => ∃ k : Nat, k ≤ l3 ∧ i = .int .i64 k ∧ (s.works.map Ws.want).take k = (s'.works.map Ws.want).take k ∧ Below W.heap.size W w') (fun i _ => l3 - (intOf i).toNat)
                    case atStart => exact ⟨0, Nat.zero_le _, rfl, by simp, hb2⟩
                    case round =>
                      clear A B zx' zy'
                      obtain ⟨k, hk, rfl, htk, hb3⟩ := hrel
                      have A := (HX.out.below hb3 zx).cell
                      have B := (HY.out.below hb3 zy).cell
                      have zx' := (HX.out.below hb3 zx).lt
                      have zy' := (HY.out.below hb3 zy).lt
                      by_cases hlt : k < l3
                      · have hkl : k < s.works.length := by rw [E3.out]; exact hlt
                        have hkl' : k < s'.works.length := by rw [F3.out]; exact hlt
                        obtain ⟨b, o, ha, hbl, x0, x1, x2⟩ := (H3.out.keep hb3).at k hkl
                        obtain ⟨b', o', ha', hbl', y0, y1, y2⟩ := (K3.out.keep hb3).at k hkl'
                        subst ha ha'
                        have hk0 : (0 : Int) ≤ (k : Int) := by omega
                        have hkn : (k : Int) < (l3 : Int) := by omega
                        by_cases h0 : s.works[k].want = s'.works[k].want
                        · have hee : s.works[k].want = s'.works[k].want := h0
                          go_wp2
                          refine wp_region_below (by kernel_rfl) (by kernel_rfl) ?_
                          repeat (first
                            | (apply quiet_at (hg := rfl); (· (intro w' hw'; obtain ⟨hc, hf⟩ := bcell hw'; go_simp; first | rfl)); simp only [Act.put, List.setIfInBounds_toArray, List.set_cons_zero, List.set_cons_succ]))
                          refine wpQuiet_nil ?_
                          intro w2 hw2
                          go_wp2
                          go_roundw
                          case rel => exact ⟨k + 1, by omega, by go_num, take_nextM (f := Ws.want) htk hkl hkl' hee, bel_trans hb3 hw2⟩
                          case measure => simp [intOf]; omega
                        · have hne : ¬ s.works[k].want = s'.works[k].want := h0
                          go_wp2
                          refine wp_region_below (by kernel_rfl) (by kernel_rfl) ?_
                          repeat (first
                            | (apply quiet_at (hg := rfl); (· (intro w' hw'; obtain ⟨hc, hf⟩ := bcell hw'; go_simp; first | rfl)); simp only [Act.put, List.setIfInBounds_toArray, List.set_cons_zero, List.set_cons_succ]))
                          refine wpQuiet_nil ?_
                          intro w2 hw2
                          go_wp2
                          go_ret
                          exact ⟨ret_bool (decide_eq_false (fun e => ne_atM hkl hkl' hne e.2.2.2.2)).symm, Below.trans hBW ((bel_trans hb3 hw2).mono hBW.size)⟩
                      · have hkk : k = l3 := by omega
                        have hkk2 : (k : Int) = (l3 : Int) := by omega
                        have Q3 : Hid (s.works.map Ws.want = s'.works.map Ws.want) := all_M htk (by rw [E3.out]; omega) (by rw [F3.out]; omega)
                        clear htk
                        have HD := show decide (rsame s s') = true from decide_eq_true ⟨p0, p1, Q1.out, Q2.out, Q3.out⟩
                        go_wp2
                        go_ret
                        exact ⟨ret_bool HD.symm, Below.trans hBW (hb3.mono hBW.size)⟩
          · have HD := hide (show decide (rsame s s') = false from decide_eq_false fun e => p1 e.2.1)
            go_enter Try.func16, Try.ntmps16
            go_wp2
            all_goals go_ret
            all_goals exact ⟨ret_bool HD.out.symm, by go_grown⟩
        · have HD := hide (show decide (rsame s s') = false from decide_eq_false fun e => p0 e.1)
          go_enter Try.func16, Try.ntmps16
          go_wp2
          all_goals go_ret
          all_goals exact ⟨ret_bool HD.out.symm, by go_grown⟩
      · have hne : ¬ (l3 : Int) = (l3' : Int) := by omega
        have HD := hide (show decide (rsame s s') = false from decide_eq_false fun e => r3 (by have := congrArg List.length e.2.2.2.2; simpa [E3.out, F3.out] using this))
        go_enter Try.func16, Try.ntmps16
        go_wp2
        all_goals go_ret
        all_goals exact ⟨ret_bool HD.out.symm, by go_grown⟩
    · have hne : ¬ (l2 : Int) = (l2' : Int) := by omega
      have HD := hide (show decide (rsame s s') = false from decide_eq_false fun e => r2 (by have := congrArg List.length e.2.2.2.1; simpa [E2.out, F2.out] using this))
      go_enter Try.func16, Try.ntmps16
      go_wp2
      all_goals go_ret
      all_goals exact ⟨ret_bool HD.out.symm, by go_grown⟩
  · have hne : ¬ (l1 : Int) = (l1' : Int) := by omega
    have HD := hide (show decide (rsame s s') = false from decide_eq_false fun e => r1 (by rw [← E1.out, ← F1.out, e.2.2.1]))
    go_enter Try.func16, Try.ntmps16
    go_wp2
    all_goals go_ret
    all_goals exact ⟨ret_bool HD.out.symm, by go_grown⟩
end Go.Proofs.Ytifijknogofklaa
