/- What there is: two of them held against each other, by the program. -/
import Derived.Test.YtcdjklpnjdladaaGe
import Derived.Test.YtcdjklpnjdladaaGc
namespace Go.Proofs.Ytcdjklpnjdladaa
open Go.RowKit

theorem st_eq (s s' : St) : s = s' ↔ s.nextPod = s'.nextPod ∧ s.nextNode = s'.nextNode ∧ s.pods = s'.pods ∧ s.nodes = s'.nodes ∧ s.works = s'.works ∧ s.groups = s'.groups := by
  constructor
  · rintro rfl; exact ⟨rfl, rfl, rfl, rfl, rfl, rfl⟩
  · obtain ⟨a, b, c, d, e, f⟩ := s
    obtain ⟨a', b', c', d', e', f'⟩ := s'
    rintro ⟨h1, h2, h3, h4, h5, h6⟩
    simp only at h1 h2 h3 h4 h5 h6
    subst h1 h2 h3 h4 h5 h6
    rfl

set_option maxRecDepth 100000 in
set_option maxHeartbeats 4000000 in
theorem same_any (v v' : Value) (s s' : St) (w : World) (h : StateAt w v s) (h' : StateAt w v' s') :
    Calls Try.prog 18 #[v, v'] w fun e w' => e = .returned (.bool (decide (s = s'))) ∧ Below w.heap.size w w' := by
  obtain ⟨a1, l1, c1, a2, l2, c2, a3, l3, c3, a4, l4, c4, rfl, ⟨e1, m1, h1⟩, ⟨e2, m2, h2⟩, ⟨e3, m3, h3⟩, ⟨e4, m4, h4⟩⟩ := h
  obtain ⟨a1', l1', c1', a2', l2', c2', a3', l3', c3', a4', l4', c4', rfl, ⟨e1', m1', h1'⟩, ⟨e2', m2', h2'⟩, ⟨e3', m3', h3'⟩, ⟨e4', m4', h4'⟩⟩ := h'
  have H1 := hide h1
  have K1 := hide h1'
  have E1 := hide e1
  have F1 := hide e1'
  have H2 := hide h2
  have K2 := hide h2'
  have E2 := hide e2
  have F2 := hide e2'
  have H3 := hide h3
  have K3 := hide h3'
  have E3 := hide e3
  have F3 := hide e3'
  have H4 := hide h4
  have K4 := hide h4'
  have E4 := hide e4
  have F4 := hide e4'
  clear h1 h2 h3 h4 h1' h2' h3' h4' e1 e2 e3 e4 e1' e2' e3' e4'
  by_cases p0 : s.nextPod = s'.nextPod
  · by_cases p1 : s.nextNode = s'.nextNode
    · by_cases q1 : s.pods = s'.pods
      · have C1 := hide (show ∀ W, Below w.heap.size w W → Calls Try.prog 51 #[.slice a1 l1 c1, .slice a1' l1' c1'] W fun e w'' => e = .returned (.bool true) ∧ Below W.heap.size W w'' from fun W hW => by have := equalPods_any a1 a1' l1 l1' c1 c1' s.pods s'.pods W E1.out F1.out m1 m1' (H1.out.keep hW) (K1.out.keep hW); rwa [show decide (s.pods = s'.pods) = true from by simp [q1]] at this)
        by_cases q2 : s.nodes = s'.nodes
        · have C2 := hide (show ∀ W, Below w.heap.size w W → Calls Try.prog 52 #[.slice a2 l2 c2, .slice a2' l2' c2'] W fun e w'' => e = .returned (.bool true) ∧ Below W.heap.size W w'' from fun W hW => by have := equalNodes_any a2 a2' l2 l2' c2 c2' s.nodes s'.nodes W E2.out F2.out m2 m2' (H2.out.keep hW) (K2.out.keep hW); rwa [show decide (s.nodes = s'.nodes) = true from by simp [q2]] at this)
          by_cases q3 : s.works = s'.works
          · have C3 := hide (show ∀ W, Below w.heap.size w W → Calls Try.prog 53 #[.slice a3 l3 c3, .slice a3' l3' c3'] W fun e w'' => e = .returned (.bool true) ∧ Below W.heap.size W w'' from fun W hW => by have := equalWss_any a3 a3' l3 l3' c3 c3' s.works s'.works W E3.out F3.out m3 m3' (H3.out.keep hW) (K3.out.keep hW); rwa [show decide (s.works = s'.works) = true from by simp [q3]] at this)
            by_cases q4 : s.groups = s'.groups
            · have C4 := hide (show ∀ W, Below w.heap.size w W → Calls Try.prog 54 #[.slice a4 l4 c4, .slice a4' l4' c4'] W fun e w'' => e = .returned (.bool true) ∧ Below W.heap.size W w'' from fun W hW => by have := equalGss_any a4 a4' l4 l4' c4 c4' s.groups s'.groups W E4.out F4.out m4 m4' (H4.out.keep hW) (K4.out.keep hW); rwa [show decide (s.groups = s'.groups) = true from by simp [q4]] at this)
              have HD := hide (show decide (s = s') = true from by simp only [st_eq, p0, p1, q1, q2, q3, q4, and_self, decide_true])
              clear q1 q2 q3 q4
              go_enter Try.func18, Try.ntmps18
              go_wp2_with fail
              refine (C1.out _ (by go_grown)).mono ?_
              rintro e w1 ⟨rfl, hb⟩
              have hX : Blk w1 w.heap.size #[.slice a1 l1 c1, .slice a2 l2 c2, .slice a3 l3 c3, .slice a4 l4 c4, .int .i64 s'.nextPod, .int .i64 s'.nextNode] 32 := ((Blk.new w _ _).alloc _).below hb (by simp; omega)
              have hY : Blk w1 (w.heap.size + 1) #[.slice a1' l1' c1', .slice a2' l2' c2', .slice a3' l3' c3', .slice a4' l4' c4', .int .i64 s'.nextPod, .int .i64 s'.nextNode] 32 := (by simpa using Blk.new (w.alloc _) _ _ : Blk _ (w.heap.size + 1) #[.slice a1' l1' c1', .slice a2' l2' c2', .slice a3' l3' c3', .slice a4' l4' c4', .int .i64 s'.nextPod, .int .i64 s'.nextNode] 32).below hb (by simp)
              have hB1 : Below w.heap.size w w1 := bel_trans (by go_grown) hb
              clear hb
              have A := hX.cell
              have B := hY.cell
              go_wp2_with fail
              refine (C2.out _ hB1).mono ?_
              rintro e w2 ⟨rfl, hb⟩
              have hB2 := bel_trans hB1 hb
              clear A B
              replace hX := hX.below hb hX.lt
              replace hY := hY.below hb hY.lt
              clear hb
              have A := hX.cell
              have B := hY.cell
              go_wp2_with fail
              refine (C3.out _ hB2).mono ?_
              rintro e w3 ⟨rfl, hb⟩
              have hB3 := bel_trans hB2 hb
              clear A B
              replace hX := hX.below hb hX.lt
              replace hY := hY.below hb hY.lt
              clear hb
              have A := hX.cell
              have B := hY.cell
              go_wp2_with fail
              refine (C4.out _ hB3).mono ?_
              rintro e w4 ⟨rfl, hb⟩
              have hB4 := bel_trans hB3 hb
              clear A B
              replace hX := hX.below hb hX.lt
              replace hY := hY.below hb hY.lt
              clear hb
              have A := hX.cell
              have B := hY.cell
              clear hX hY
              go_wp2
              all_goals go_ret
              all_goals exact ⟨ret_bool HD.out.symm, hB4⟩
            · have C4 := hide (show ∀ W, Below w.heap.size w W → Calls Try.prog 54 #[.slice a4 l4 c4, .slice a4' l4' c4'] W fun e w'' => e = .returned (.bool false) ∧ Below W.heap.size W w'' from fun W hW => by have := equalGss_any a4 a4' l4 l4' c4 c4' s.groups s'.groups W E4.out F4.out m4 m4' (H4.out.keep hW) (K4.out.keep hW); rwa [show decide (s.groups = s'.groups) = false from by simp [q4]] at this)
              have HD := hide (show decide (s = s') = false from decide_eq_false fun e => q4 (by rw [e]))
              clear q1 q2 q3 q4
              go_enter Try.func18, Try.ntmps18
              go_wp2_with fail
              refine (C1.out _ (by go_grown)).mono ?_
              rintro e w1 ⟨rfl, hb⟩
              have hX : Blk w1 w.heap.size #[.slice a1 l1 c1, .slice a2 l2 c2, .slice a3 l3 c3, .slice a4 l4 c4, .int .i64 s'.nextPod, .int .i64 s'.nextNode] 32 := ((Blk.new w _ _).alloc _).below hb (by simp; omega)
              have hY : Blk w1 (w.heap.size + 1) #[.slice a1' l1' c1', .slice a2' l2' c2', .slice a3' l3' c3', .slice a4' l4' c4', .int .i64 s'.nextPod, .int .i64 s'.nextNode] 32 := (by simpa using Blk.new (w.alloc _) _ _ : Blk _ (w.heap.size + 1) #[.slice a1' l1' c1', .slice a2' l2' c2', .slice a3' l3' c3', .slice a4' l4' c4', .int .i64 s'.nextPod, .int .i64 s'.nextNode] 32).below hb (by simp)
              have hB1 : Below w.heap.size w w1 := bel_trans (by go_grown) hb
              clear hb
              have A := hX.cell
              have B := hY.cell
              go_wp2_with fail
              refine (C2.out _ hB1).mono ?_
              rintro e w2 ⟨rfl, hb⟩
              have hB2 := bel_trans hB1 hb
              clear A B
              replace hX := hX.below hb hX.lt
              replace hY := hY.below hb hY.lt
              clear hb
              have A := hX.cell
              have B := hY.cell
              go_wp2_with fail
              refine (C3.out _ hB2).mono ?_
              rintro e w3 ⟨rfl, hb⟩
              have hB3 := bel_trans hB2 hb
              clear A B
              replace hX := hX.below hb hX.lt
              replace hY := hY.below hb hY.lt
              clear hb
              have A := hX.cell
              have B := hY.cell
              go_wp2_with fail
              refine (C4.out _ hB3).mono ?_
              rintro e w4 ⟨rfl, hb⟩
              have hB4 := bel_trans hB3 hb
              clear A B
              replace hX := hX.below hb hX.lt
              replace hY := hY.below hb hY.lt
              clear hb
              have A := hX.cell
              have B := hY.cell
              clear hX hY
              go_wp2
              all_goals go_ret
              all_goals exact ⟨ret_bool HD.out.symm, hB4⟩
          · have C3 := hide (show ∀ W, Below w.heap.size w W → Calls Try.prog 53 #[.slice a3 l3 c3, .slice a3' l3' c3'] W fun e w'' => e = .returned (.bool false) ∧ Below W.heap.size W w'' from fun W hW => by have := equalWss_any a3 a3' l3 l3' c3 c3' s.works s'.works W E3.out F3.out m3 m3' (H3.out.keep hW) (K3.out.keep hW); rwa [show decide (s.works = s'.works) = false from by simp [q3]] at this)
            have HD := hide (show decide (s = s') = false from decide_eq_false fun e => q3 (by rw [e]))
            clear q1 q2 q3
            go_enter Try.func18, Try.ntmps18
            go_wp2_with fail
            refine (C1.out _ (by go_grown)).mono ?_
            rintro e w1 ⟨rfl, hb⟩
            have hX : Blk w1 w.heap.size #[.slice a1 l1 c1, .slice a2 l2 c2, .slice a3 l3 c3, .slice a4 l4 c4, .int .i64 s'.nextPod, .int .i64 s'.nextNode] 32 := ((Blk.new w _ _).alloc _).below hb (by simp; omega)
            have hY : Blk w1 (w.heap.size + 1) #[.slice a1' l1' c1', .slice a2' l2' c2', .slice a3' l3' c3', .slice a4' l4' c4', .int .i64 s'.nextPod, .int .i64 s'.nextNode] 32 := (by simpa using Blk.new (w.alloc _) _ _ : Blk _ (w.heap.size + 1) #[.slice a1' l1' c1', .slice a2' l2' c2', .slice a3' l3' c3', .slice a4' l4' c4', .int .i64 s'.nextPod, .int .i64 s'.nextNode] 32).below hb (by simp)
            have hB1 : Below w.heap.size w w1 := bel_trans (by go_grown) hb
            clear hb
            have A := hX.cell
            have B := hY.cell
            go_wp2_with fail
            refine (C2.out _ hB1).mono ?_
            rintro e w2 ⟨rfl, hb⟩
            have hB2 := bel_trans hB1 hb
            clear A B
            replace hX := hX.below hb hX.lt
            replace hY := hY.below hb hY.lt
            clear hb
            have A := hX.cell
            have B := hY.cell
            go_wp2_with fail
            refine (C3.out _ hB2).mono ?_
            rintro e w3 ⟨rfl, hb⟩
            have hB3 := bel_trans hB2 hb
            clear A B
            replace hX := hX.below hb hX.lt
            replace hY := hY.below hb hY.lt
            clear hb
            have A := hX.cell
            have B := hY.cell
            clear hX hY
            go_wp2
            all_goals go_ret
            all_goals exact ⟨ret_bool HD.out.symm, hB3⟩
        · have C2 := hide (show ∀ W, Below w.heap.size w W → Calls Try.prog 52 #[.slice a2 l2 c2, .slice a2' l2' c2'] W fun e w'' => e = .returned (.bool false) ∧ Below W.heap.size W w'' from fun W hW => by have := equalNodes_any a2 a2' l2 l2' c2 c2' s.nodes s'.nodes W E2.out F2.out m2 m2' (H2.out.keep hW) (K2.out.keep hW); rwa [show decide (s.nodes = s'.nodes) = false from by simp [q2]] at this)
          have HD := hide (show decide (s = s') = false from decide_eq_false fun e => q2 (by rw [e]))
          clear q1 q2
          go_enter Try.func18, Try.ntmps18
          go_wp2_with fail
          refine (C1.out _ (by go_grown)).mono ?_
          rintro e w1 ⟨rfl, hb⟩
          have hX : Blk w1 w.heap.size #[.slice a1 l1 c1, .slice a2 l2 c2, .slice a3 l3 c3, .slice a4 l4 c4, .int .i64 s'.nextPod, .int .i64 s'.nextNode] 32 := ((Blk.new w _ _).alloc _).below hb (by simp; omega)
          have hY : Blk w1 (w.heap.size + 1) #[.slice a1' l1' c1', .slice a2' l2' c2', .slice a3' l3' c3', .slice a4' l4' c4', .int .i64 s'.nextPod, .int .i64 s'.nextNode] 32 := (by simpa using Blk.new (w.alloc _) _ _ : Blk _ (w.heap.size + 1) #[.slice a1' l1' c1', .slice a2' l2' c2', .slice a3' l3' c3', .slice a4' l4' c4', .int .i64 s'.nextPod, .int .i64 s'.nextNode] 32).below hb (by simp)
          have hB1 : Below w.heap.size w w1 := bel_trans (by go_grown) hb
          clear hb
          have A := hX.cell
          have B := hY.cell
          go_wp2_with fail
          refine (C2.out _ hB1).mono ?_
          rintro e w2 ⟨rfl, hb⟩
          have hB2 := bel_trans hB1 hb
          clear A B
          replace hX := hX.below hb hX.lt
          replace hY := hY.below hb hY.lt
          clear hb
          have A := hX.cell
          have B := hY.cell
          clear hX hY
          go_wp2
          all_goals go_ret
          all_goals exact ⟨ret_bool HD.out.symm, hB2⟩
      · have C1 := hide (show ∀ W, Below w.heap.size w W → Calls Try.prog 51 #[.slice a1 l1 c1, .slice a1' l1' c1'] W fun e w'' => e = .returned (.bool false) ∧ Below W.heap.size W w'' from fun W hW => by have := equalPods_any a1 a1' l1 l1' c1 c1' s.pods s'.pods W E1.out F1.out m1 m1' (H1.out.keep hW) (K1.out.keep hW); rwa [show decide (s.pods = s'.pods) = false from by simp [q1]] at this)
        have HD := hide (show decide (s = s') = false from decide_eq_false fun e => q1 (by rw [e]))
        clear q1
        go_enter Try.func18, Try.ntmps18
        go_wp2_with fail
        refine (C1.out _ (by go_grown)).mono ?_
        rintro e w1 ⟨rfl, hb⟩
        have hX : Blk w1 w.heap.size #[.slice a1 l1 c1, .slice a2 l2 c2, .slice a3 l3 c3, .slice a4 l4 c4, .int .i64 s'.nextPod, .int .i64 s'.nextNode] 32 := ((Blk.new w _ _).alloc _).below hb (by simp; omega)
        have hY : Blk w1 (w.heap.size + 1) #[.slice a1' l1' c1', .slice a2' l2' c2', .slice a3' l3' c3', .slice a4' l4' c4', .int .i64 s'.nextPod, .int .i64 s'.nextNode] 32 := (by simpa using Blk.new (w.alloc _) _ _ : Blk _ (w.heap.size + 1) #[.slice a1' l1' c1', .slice a2' l2' c2', .slice a3' l3' c3', .slice a4' l4' c4', .int .i64 s'.nextPod, .int .i64 s'.nextNode] 32).below hb (by simp)
        have hB1 : Below w.heap.size w w1 := bel_trans (by go_grown) hb
        clear hb
        have A := hX.cell
        have B := hY.cell
        clear hX hY
        go_wp2
        all_goals go_ret
        all_goals exact ⟨ret_bool HD.out.symm, hB1⟩
    · have HD := hide (show decide (s = s') = false from decide_eq_false fun e => p1 (by rw [e]))
      go_enter Try.func18, Try.ntmps18
      go_wp2
      all_goals go_ret
      all_goals exact ⟨ret_bool HD.out.symm, by go_grown⟩
  · have HD := hide (show decide (s = s') = false from decide_eq_false fun e => p0 (by rw [e]))
    go_enter Try.func18, Try.ntmps18
    go_wp2
    all_goals go_ret
    all_goals exact ⟨ret_bool HD.out.symm, by go_grown⟩
end Go.Proofs.Ytcdjklpnjdladaa
