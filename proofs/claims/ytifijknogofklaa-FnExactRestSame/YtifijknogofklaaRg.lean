/- At rest: two of what there is held against each other, by the program. -/
import Derived.Test.YtifijknogofklaaRf
namespace Go.Proofs.Ytifijknogofklaa
open Go.RowKit

set_option maxRecDepth 100000 in
set_option maxHeartbeats 4000000 in
theorem restSame_any (v v' : Value) (s s' : St) (w : World) (h : StateAt w v s) (h' : StateAt w v' s') :
    Calls Try.prog 18 #[v, v'] w fun e w' => e = .returned (.bool (decide (rsame s s'))) ∧ Below w.heap.size w w' := by
  obtain ⟨a1, l1, c1, a2, l2, c2, a3, l3, c3, a4, l4, c4, rfl, ⟨e1, m1, h1⟩, ⟨e2, m2, h2⟩, ⟨e3, m3, h3⟩, ⟨e4, m4, h4⟩⟩ := h
  obtain ⟨a1', l1', c1', a2', l2', c2', a3', l3', c3', a4', l4', c4', rfl, ⟨e1', m1', h1'⟩, ⟨e2', m2', h2'⟩, ⟨e3', m3', h3'⟩, ⟨e4', m4', h4'⟩⟩ := h'
  have H1 := hide h1
  have K1 := hide h1'
  have E1 := hide e1
  have F1 := hide e1'
  have H2 := hide h2
  have K2 := hide h2'
  have E2 := hide e2
  have F2 := hide e2'
  have H3 := hide h3
  have K3 := hide h3'
  have E3 := hide e3
  have F3 := hide e3'
  clear h1 h2 h3 h4 h1' h2' h3' h4' e1 e2 e3 e4 e1' e2' e3' e4'
  by_cases p0 : s.nextPod = s'.nextPod
  · by_cases p1 : s.nextNode = s'.nextNode
    · by_cases q1 : s.pods = s'.pods
      · have C1 := hide (show ∀ W, Below w.heap.size w W → Calls Try.prog 44 #[.slice a1 l1 c1, .slice a1' l1' c1'] W fun e w'' => e = .returned (.bool true) ∧ Below W.heap.size W w'' from fun W hW => by have := equalPods_any a1 a1' l1 l1' c1 c1' s.pods s'.pods W E1.out F1.out m1 m1' (H1.out.keep hW) (K1.out.keep hW); rwa [show decide (s.pods = s'.pods) = true from by simp [q1]] at this)
        by_cases q2 : s.nodes.map nk = s'.nodes.map nk
        · have C2 := hide (show ∀ W, Below w.heap.size w W → Calls Try.prog 45 #[.slice a2 l2 c2, .slice a2' l2' c2', .func (.func 46) #[] #[]] W fun e w'' => e = .returned (.bool true) ∧ Below W.heap.size W w'' from fun W hW => by have := eqfNodes_any a2 a2' l2 l2' c2 c2' s.nodes s'.nodes W E2.out F2.out m2 m2' (H2.out.keep hW) (K2.out.keep hW); rwa [show decide (s.nodes.map nk = s'.nodes.map nk) = true from by simp [q2]] at this)
          by_cases q3 : s.works.map Ws.want = s'.works.map Ws.want
          · have C3 := hide (show ∀ W, Below w.heap.size w W → Calls Try.prog 47 #[.slice a3 l3 c3, .slice a3' l3' c3', .func (.func 48) #[] #[]] W fun e w'' => e = .returned (.bool true) ∧ Below W.heap.size W w'' from fun W hW => by have := eqfWss_any a3 a3' l3 l3' c3 c3' s.works s'.works W E3.out F3.out m3 m3' (H3.out.keep hW) (K3.out.keep hW); rwa [show decide (s.works.map Ws.want = s'.works.map Ws.want) = true from by simp [q3]] at this)
            have HD := hide (show decide (rsame s s') = true from decide_eq_true ⟨p0, p1, q1, q2, q3⟩)
            clear q1 q2 q3
            go_enter Try.func18, Try.ntmps18
            go_wp2_with fail
            refine (C1.out _ (by go_grown)).mono ?_
            rintro e w1 ⟨rfl, hb⟩
            have hX : Blk w1 w.heap.size #[.slice a1 l1 c1, .slice a2 l2 c2, .slice a3 l3 c3, .slice a4 l4 c4, .int .i64 s'.nextPod, .int .i64 s'.nextNode] 58 := ((Blk.new w _ _).alloc _).below hb (by simp; omega)
            have hY : Blk w1 (w.heap.size + 1) #[.slice a1' l1' c1', .slice a2' l2' c2', .slice a3' l3' c3', .slice a4' l4' c4', .int .i64 s'.nextPod, .int .i64 s'.nextNode] 58 := (by simpa using Blk.new (w.alloc _) _ _ : Blk _ (w.heap.size + 1) #[.slice a1' l1' c1', .slice a2' l2' c2', .slice a3' l3' c3', .slice a4' l4' c4', .int .i64 s'.nextPod, .int .i64 s'.nextNode] 58).below hb (by simp)
            have hB1 : Below w.heap.size w w1 := bel_trans (by go_grown) hb
            clear hb
            have A := hX.cell
            have B := hY.cell
            go_wp2_with fail
            refine (C2.out _ hB1).mono ?_
            rintro e w2 ⟨rfl, hb⟩
            have hB2 := bel_trans hB1 hb
            clear A B
            replace hX := hX.below hb hX.lt
            replace hY := hY.below hb hY.lt
            clear hb
            have A := hX.cell
            have B := hY.cell
            go_wp2_with fail
            refine (C3.out _ hB2).mono ?_
            rintro e w3 ⟨rfl, hb⟩
            have hB3 := bel_trans hB2 hb
            clear A B
            replace hX := hX.below hb hX.lt
            replace hY := hY.below hb hY.lt
            clear hb
            have A := hX.cell
            have B := hY.cell
            clear hX hY
            go_wp2
            all_goals go_ret
            all_goals exact ⟨ret_bool HD.out.symm, hB3⟩
          · have C3 := hide (show ∀ W, Below w.heap.size w W → Calls Try.prog 47 #[.slice a3 l3 c3, .slice a3' l3' c3', .func (.func 48) #[] #[]] W fun e w'' => e = .returned (.bool false) ∧ Below W.heap.size W w'' from fun W hW => by have := eqfWss_any a3 a3' l3 l3' c3 c3' s.works s'.works W E3.out F3.out m3 m3' (H3.out.keep hW) (K3.out.keep hW); rwa [show decide (s.works.map Ws.want = s'.works.map Ws.want) = false from by simp [q3]] at this)
            have HD := hide (show decide (rsame s s') = false from decide_eq_false fun e => q3 e.2.2.2.2)
            clear q1 q2 q3
            go_enter Try.func18, Try.ntmps18
            go_wp2_with fail
            refine (C1.out _ (by go_grown)).mono ?_
            rintro e w1 ⟨rfl, hb⟩
            have hX : Blk w1 w.heap.size #[.slice a1 l1 c1, .slice a2 l2 c2, .slice a3 l3 c3, .slice a4 l4 c4, .int .i64 s'.nextPod, .int .i64 s'.nextNode] 58 := ((Blk.new w _ _).alloc _).below hb (by simp; omega)
            have hY : Blk w1 (w.heap.size + 1) #[.slice a1' l1' c1', .slice a2' l2' c2', .slice a3' l3' c3', .slice a4' l4' c4', .int .i64 s'.nextPod, .int .i64 s'.nextNode] 58 := (by simpa using Blk.new (w.alloc _) _ _ : Blk _ (w.heap.size + 1) #[.slice a1' l1' c1', .slice a2' l2' c2', .slice a3' l3' c3', .slice a4' l4' c4', .int .i64 s'.nextPod, .int .i64 s'.nextNode] 58).below hb (by simp)
            have hB1 : Below w.heap.size w w1 := bel_trans (by go_grown) hb
            clear hb
            have A := hX.cell
            have B := hY.cell
            go_wp2_with fail
            refine (C2.out _ hB1).mono ?_
            rintro e w2 ⟨rfl, hb⟩
            have hB2 := bel_trans hB1 hb
            clear A B
            replace hX := hX.below hb hX.lt
            replace hY := hY.below hb hY.lt
            clear hb
            have A := hX.cell
            have B := hY.cell
            go_wp2_with fail
            refine (C3.out _ hB2).mono ?_
            rintro e w3 ⟨rfl, hb⟩
            have hB3 := bel_trans hB2 hb
            clear A B
            replace hX := hX.below hb hX.lt
            replace hY := hY.below hb hY.lt
            clear hb
            have A := hX.cell
            have B := hY.cell
            clear hX hY
            go_wp2
            all_goals go_ret
            all_goals exact ⟨ret_bool HD.out.symm, hB3⟩
        · have C2 := hide (show ∀ W, Below w.heap.size w W → Calls Try.prog 45 #[.slice a2 l2 c2, .slice a2' l2' c2', .func (.func 46) #[] #[]] W fun e w'' => e = .returned (.bool false) ∧ Below W.heap.size W w'' from fun W hW => by have := eqfNodes_any a2 a2' l2 l2' c2 c2' s.nodes s'.nodes W E2.out F2.out m2 m2' (H2.out.keep hW) (K2.out.keep hW); rwa [show decide (s.nodes.map nk = s'.nodes.map nk) = false from by simp [q2]] at this)
          have HD := hide (show decide (rsame s s') = false from decide_eq_false fun e => q2 e.2.2.2.1)
          clear q1 q2
          go_enter Try.func18, Try.ntmps18
          go_wp2_with fail
          refine (C1.out _ (by go_grown)).mono ?_
          rintro e w1 ⟨rfl, hb⟩
          have hX : Blk w1 w.heap.size #[.slice a1 l1 c1, .slice a2 l2 c2, .slice a3 l3 c3, .slice a4 l4 c4, .int .i64 s'.nextPod, .int .i64 s'.nextNode] 58 := ((Blk.new w _ _).alloc _).below hb (by simp; omega)
          have hY : Blk w1 (w.heap.size + 1) #[.slice a1' l1' c1', .slice a2' l2' c2', .slice a3' l3' c3', .slice a4' l4' c4', .int .i64 s'.nextPod, .int .i64 s'.nextNode] 58 := (by simpa using Blk.new (w.alloc _) _ _ : Blk _ (w.heap.size + 1) #[.slice a1' l1' c1', .slice a2' l2' c2', .slice a3' l3' c3', .slice a4' l4' c4', .int .i64 s'.nextPod, .int .i64 s'.nextNode] 58).below hb (by simp)
          have hB1 : Below w.heap.size w w1 := bel_trans (by go_grown) hb
          clear hb
          have A := hX.cell
          have B := hY.cell
          go_wp2_with fail
          refine (C2.out _ hB1).mono ?_
          rintro e w2 ⟨rfl, hb⟩
          have hB2 := bel_trans hB1 hb
          clear A B
          replace hX := hX.below hb hX.lt
          replace hY := hY.below hb hY.lt
          clear hb
          have A := hX.cell
          have B := hY.cell
          clear hX hY
          go_wp2
          all_goals go_ret
          all_goals exact ⟨ret_bool HD.out.symm, hB2⟩
      · have C1 := hide (show ∀ W, Below w.heap.size w W → Calls Try.prog 44 #[.slice a1 l1 c1, .slice a1' l1' c1'] W fun e w'' => e = .returned (.bool false) ∧ Below W.heap.size W w'' from fun W hW => by have := equalPods_any a1 a1' l1 l1' c1 c1' s.pods s'.pods W E1.out F1.out m1 m1' (H1.out.keep hW) (K1.out.keep hW); rwa [show decide (s.pods = s'.pods) = false from by simp [q1]] at this)
        have HD := hide (show decide (rsame s s') = false from decide_eq_false fun e => q1 e.2.2.1)
        clear q1
        go_enter Try.func18, Try.ntmps18
        go_wp2_with fail
        refine (C1.out _ (by go_grown)).mono ?_
        rintro e w1 ⟨rfl, hb⟩
        have hX : Blk w1 w.heap.size #[.slice a1 l1 c1, .slice a2 l2 c2, .slice a3 l3 c3, .slice a4 l4 c4, .int .i64 s'.nextPod, .int .i64 s'.nextNode] 58 := ((Blk.new w _ _).alloc _).below hb (by simp; omega)
        have hY : Blk w1 (w.heap.size + 1) #[.slice a1' l1' c1', .slice a2' l2' c2', .slice a3' l3' c3', .slice a4' l4' c4', .int .i64 s'.nextPod, .int .i64 s'.nextNode] 58 := (by simpa using Blk.new (w.alloc _) _ _ : Blk _ (w.heap.size + 1) #[.slice a1' l1' c1', .slice a2' l2' c2', .slice a3' l3' c3', .slice a4' l4' c4', .int .i64 s'.nextPod, .int .i64 s'.nextNode] 58).below hb (by simp)
        have hB1 : Below w.heap.size w w1 := bel_trans (by go_grown) hb
        clear hb
        have A := hX.cell
        have B := hY.cell
        clear hX hY
        go_wp2
        all_goals go_ret
        all_goals exact ⟨ret_bool HD.out.symm, hB1⟩
    · have HD := hide (show decide (rsame s s') = false from decide_eq_false fun e => p1 e.2.1)
      go_enter Try.func18, Try.ntmps18
      go_wp2
      all_goals go_ret
      all_goals exact ⟨ret_bool HD.out.symm, by go_grown⟩
  · have HD := hide (show decide (rsame s s') = false from decide_eq_false fun e => p0 e.1)
    go_enter Try.func18, Try.ntmps18
    go_wp2
    all_goals go_ret
    all_goals exact ⟨ret_bool HD.out.symm, by go_grown⟩
end Go.Proofs.Ytifijknogofklaa
