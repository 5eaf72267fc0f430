/- How many nodes of a group there are: the document's function. -/
import Derived.Test.YtcdjklpnjdladaaNa
namespace Go.Proofs.Ytcdjklpnjdladaa
open Go.RowKit

theorem wrap_succ (x : Int) : IntKind.i64.wrap (IntKind.i64.wrap x + 1) = IntKind.i64.wrap (x + 1) := by
  simp only [IntKind.wrap_i64]; omega

set_option maxRecDepth 100000 in
set_option maxHeartbeats 1000000 in
theorem sNodesLoop (s : St) (g z : Int) (v : Value) (hz : askedAt s g = z) (hr : -9223372036854775808 ≤ z ∧ z ≤ 9223372036854775807) (w : World) (h : StateAt w v s) :
    Calls Try.prog 19 #[v, .int .i64 g] w fun e w' => e = .returned (.int .i64 (IntKind.i64.wrap (z + cntN g s.nodes))) ∧ Below w.heap.size w w' := by
  obtain ⟨a1, l1, c1, a2, l2, c2, a3, l3, c3, a4, l4, c4, rfl, _, ⟨e2, m2, h2⟩, _, ⟨e4, m4, h4⟩⟩ := h
  have H2 := hide h2
  have E2 := hide e2
  have H4 := hide h4
  have E4 := hide e4
  have HZ := hide hz
  have HR : Hid (IntKind.i64.wrap z = z) := IntWalk.i64_in z hr
  clear h2 e2 h4 e4 hz hr
  have key : ∀ (K : Prop), ((0 ≤ g ∧ g < (l4 : Int)) → ∀ (b o n : Nat), a4 = some ⟨b, o, none⟩ → b < w.heap.size → (n : Int) = g → w.cell? ⟨b, o + n * 3, none⟩ = some (.int .i64 z) → K) → (¬ (0 ≤ g ∧ g < (l4 : Int)) → z = 0 → K) → K := by
    intro K k1 k2
    by_cases hp : 0 ≤ g ∧ g < (l4 : Int)
    · obtain ⟨n, hn, rfl, hq⟩ := askedAt_at s g (by rw [E4.out]; exact hp)
      obtain ⟨b, o, ha, hbl, d0, d1, d2⟩ := H4.out.at n hn
      rw [← hq, HZ.out] at d0
      exact k1 hp b o n ha hbl rfl d0
    · refine k2 hp ?_
      rw [← HZ.out]; unfold askedAt; rw [E4.out, if_neg hp]
  go_enter Try.func19, Try.ntmps19
  refine key _ ?_ ?_
  · intro hp b o n ha hbl hn d0
    subst ha
    obtain rfl : g = n := hn.symm
    clear key
    have hn := hp.2
    clear hp
    go_wp2
    go_loopw [5, 6] (fun s5 i w' => ∃ k : Nat, k ≤ l2 ∧ i = .int .i64 k ∧ s5 = .int .i64 (IntKind.i64.wrap (z + cntN ((n : Int)) (s.nodes.take k))) ∧ w' = w.alloc (.cells #[.slice a1 l1 c1, .slice a2 l2 c2, .slice a3 l3 c3, .slice (some ⟨b, o, none⟩) l4 c4, .int .i64 s.nextPod, .int .i64 s.nextNode] 32)) (fun _ i _ => l2 - (intOf i).toNat)
    case atStart => exact ⟨0, Nat.zero_le _, rfl, by simp [cntN, HR.out], rfl⟩
    case round =>
      obtain ⟨k, hk, rfl, rfl, rfl⟩ := hrel
      by_cases hlt : k < l2
      · obtain ⟨b2, o2, ha, hbl2, d0', d1, d2, d3⟩ := H2.out.at k (by rw [E2.out]; exact hlt)
        subst ha
        have hst := cntN_step ((n : Int)) s.nodes k (by rw [E2.out]; exact hlt)
        generalize (s.nodes[k]'(by rw [E2.out]; exact hlt)).group = q at d1 hst
        have HST := hide hst
        clear hst d0' d2 d3
        have hk0 : (0 : Int) ≤ (k : Int) := by omega
        have hkn : (k : Int) < (l2 : Int) := by omega
        by_cases hg : q = (n : Int)
        · subst hg
          go_wp2
          go_roundw
          case rel => exact ⟨k + 1, by omega, by go_num, by rw [HST.out, if_pos rfl]; simp [wrap_succ, ← IntWalk.i64_left, Int.add_assoc], by trivial⟩
          case measure => simp [intOf]; omega
        · go_wp2
          go_roundw
          case rel => exact ⟨k + 1, by omega, by go_num, by rw [HST.out, if_neg hg]; simp, by trivial⟩
          case measure => simp [intOf]; omega
      · have : k = l2 := by omega
        subst this
        go_wp2
        go_ret
        exact ⟨ret_int (by rw [List.take_of_length_le (by have := E2.out; omega)]), by go_grown⟩
  · intro hp hz0
    subst hz0
    clear key
    by_cases h0 : 0 ≤ g
    · have hnl : ¬ g < (l4 : Int) := fun h => hp ⟨h0, h⟩
      clear hp
      go_wp2
      go_loopw [5, 6] (fun s5 i w' => ∃ k : Nat, k ≤ l2 ∧ i = .int .i64 k ∧ s5 = .int .i64 (IntKind.i64.wrap (0 + cntN (g) (s.nodes.take k))) ∧ w' = w.alloc (.cells #[.slice a1 l1 c1, .slice a2 l2 c2, .slice a3 l3 c3, .slice a4 l4 c4, .int .i64 s.nextPod, .int .i64 s.nextNode] 32)) (fun _ i _ => l2 - (intOf i).toNat)
      case atStart => exact ⟨0, Nat.zero_le _, rfl, by simp [cntN, HR.out], rfl⟩
      case round =>
        obtain ⟨k, hk, rfl, rfl, rfl⟩ := hrel
        by_cases hlt : k < l2
        · obtain ⟨b2, o2, ha, hbl2, d0', d1, d2, d3⟩ := H2.out.at k (by rw [E2.out]; exact hlt)
          subst ha
          have hst := cntN_step (g) s.nodes k (by rw [E2.out]; exact hlt)
          generalize (s.nodes[k]'(by rw [E2.out]; exact hlt)).group = q at d1 hst
          have HST := hide hst
          clear hst d0' d2 d3
          have hk0 : (0 : Int) ≤ (k : Int) := by omega
          have hkn : (k : Int) < (l2 : Int) := by omega
          by_cases hg : q = g
          · subst hg
            go_wp2
            go_roundw
            case rel => exact ⟨k + 1, by omega, by go_num, by rw [HST.out, if_pos rfl]; simp [wrap_succ, ← IntWalk.i64_left], by trivial⟩
            case measure => simp [intOf]; omega
          · go_wp2
            go_roundw
            case rel => exact ⟨k + 1, by omega, by go_num, by rw [HST.out, if_neg hg]; simp, by trivial⟩
            case measure => simp [intOf]; omega
        · have : k = l2 := by omega
          subst this
          go_wp2
          go_ret
          exact ⟨ret_int (by rw [List.take_of_length_le (by have := E2.out; omega)]), by go_grown⟩
    · clear hp
      go_wp2
      go_loopw [5, 6] (fun s5 i w' => ∃ k : Nat, k ≤ l2 ∧ i = .int .i64 k ∧ s5 = .int .i64 (IntKind.i64.wrap (0 + cntN (g) (s.nodes.take k))) ∧ w' = w.alloc (.cells #[.slice a1 l1 c1, .slice a2 l2 c2, .slice a3 l3 c3, .slice a4 l4 c4, .int .i64 s.nextPod, .int .i64 s.nextNode] 32)) (fun _ i _ => l2 - (intOf i).toNat)
      case atStart => exact ⟨0, Nat.zero_le _, rfl, by simp [cntN, HR.out], rfl⟩
      case round =>
        obtain ⟨k, hk, rfl, rfl, rfl⟩ := hrel
        by_cases hlt : k < l2
        · obtain ⟨b2, o2, ha, hbl2, d0', d1, d2, d3⟩ := H2.out.at k (by rw [E2.out]; exact hlt)
          subst ha
          have hst := cntN_step (g) s.nodes k (by rw [E2.out]; exact hlt)
          generalize (s.nodes[k]'(by rw [E2.out]; exact hlt)).group = q at d1 hst
          have HST := hide hst
          clear hst d0' d2 d3
          have hk0 : (0 : Int) ≤ (k : Int) := by omega
          have hkn : (k : Int) < (l2 : Int) := by omega
          by_cases hg : q = g
          · subst hg
            go_wp2
            go_roundw
            case rel => exact ⟨k + 1, by omega, by go_num, by rw [HST.out, if_pos rfl]; simp [wrap_succ, ← IntWalk.i64_left], by trivial⟩
            case measure => simp [intOf]; omega
          · go_wp2
            go_roundw
            case rel => exact ⟨k + 1, by omega, by go_num, by rw [HST.out, if_neg hg]; simp, by trivial⟩
            case measure => simp [intOf]; omega
        · have : k = l2 := by omega
          subst this
          go_wp2
          go_ret
          exact ⟨ret_int (by rw [List.take_of_length_le (by have := E2.out; omega)]), by go_grown⟩

end Go.Proofs.Ytcdjklpnjdladaa
