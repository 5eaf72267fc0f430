/- The exact law of StateNodes: its walk. -/
import Derived.Test.YtcdjklpnjdladaaNb
import Derived.Test.YtcdjklpnjdladaaGc
import Derived.Test.YtcdjklpnjdladaaIs
import Derived.Test.YtcdjklpnjdladaaKeep
namespace Go.Proofs.Ytcdjklpnjdladaa
open Go.RowKit

theorem StateAt.held1 {w W w' : World} {v : Value} {c : St} {R : Prop} (h : StateAt w v c) (hW : Below w.heap.size w W) (hS : Below W.heap.size W w' ∧ R) : StateAt w' v c := h.keep (bel_trans hW hS.1)

set_option maxRecDepth 100000 in
set_option maxHeartbeats 4000000 in
theorem exNodes (v : Value) (s : St) (g : Int) (w : World) (h : StateIn w v s) :
    Calls Try.prog 5 #[v, .int .i64 g] w fun e w' => e = .returned (.bool true) ∧ Below w.heap.size w w' := by
  obtain ⟨a1, l1, c1, a2, l2, c2, a3, l3, c3, a4, l4, c4, rfl, ⟨e1, m1, h1⟩, ⟨e2, m2, h2⟩, ⟨e3, m3, h3⟩, ⟨e4, m4, h4⟩, hgs⟩ := h
  have HA : Hid (l1 ≤ 2000000 → l2 ≤ 2000000 → l3 ≤ 2000000 → l4 ≤ 2000000 → StateAt w (.agg #[.slice a1 l1 c1, .slice a2 l2 c2, .slice a3 l3 c3, .slice a4 l4 c4, .int .i64 s.nextPod, .int .i64 s.nextNode]) s) := fun q1 q2 q3 q4 => ⟨_, _, _, _, _, _, _, _, _, _, _, _, rfl, ⟨e1, q1, h1⟩, ⟨e2, q2, h2⟩, ⟨e3, q3, h3⟩, ⟨e4, q4, h4⟩⟩
  have hr : Hid (-9223372036854775808 ≤ askedAt s g ∧ askedAt s g ≤ 9223372036854775807) := by
    show _ ∧ _
    by_cases hp : 0 ≤ g ∧ g < (s.groups.length : Int)
    · obtain ⟨n, hn, rfl, hq⟩ := askedAt_at s g hp
      rw [hq]; exact hgs _ (List.getElem_mem hn)
    · unfold askedAt; rw [if_neg hp]; omega
  clear e1 e2 e3 e4 h1 h2 h3 h4 hgs
  obtain ⟨z, hz⟩ : ∃ z, askedAt s g = z := ⟨_, rfl⟩
  have HZ := hide hz
  have hr2 := hr.out
  rw [hz] at hr2
  have HR := hide hr2
  clear hr hz hr2
  go_enter Try.func5, Try.ntmps5
  go_wp2_with fail
  refine (szState_any _ _ _ _ _ _ _ _ _ _ _ _ _ _ _ _ m1 m2 m3 m4 (by omega) (by omega)).mono ?_
  rintro e w1 ⟨r, rfl, hr, hb⟩
  have hX : Blk w1 w.heap.size #[.slice a1 l1 c1, .slice a2 l2 c2, .slice a3 l3 c3, .slice a4 l4 c4, .int .i64 s.nextPod, .int .i64 s.nextNode] 49 := (Blk.new w _ _).below hb (by simp)
  have hB1 : Below w.heap.size w w1 := bel_trans (by go_grown) hb
  clear hb
  have X := hX.cell
  by_cases hneg : r < 0
  · go_wp2
    all_goals go_ret
    all_goals exact ⟨rfl, hB1⟩
  · obtain ⟨_, q1, q2, q3, q4⟩ := hr (by omega)
    have HC := hide (HA.out (by omega) (by omega) (by omega) (by omega))
    clear hr HA q1 q2 q3 q4 m1 m2 m3 m4
    go_wp2_with fail
    refine (toState_any _ s _ (HC.out.keep hB1)).mono ?_
    rintro e w2 ⟨v2, rfl, hv2, hb2⟩
    have HV2 := hide hv2
    have hB2 := bel_trans hB1 hb2
    have hX2 := hX.below hb2 hX.lt
    clear X hX hv2 hb2
    have X := hX2.cell
    go_wp2_with fail
    refine (sNodesLoop s g z _ HZ.out HR.out _ HV2.out).mono ?_
    rintro e w3 ⟨rfl, hb3⟩
    have hB3 := bel_trans hB2 hb3
    have hX3 := hX2.below hb3 hX2.lt
    clear X hX2 hb3 HV2
    have X := hX3.cell
    go_wp2_with fail
    refine (toState_any _ s _ (HC.out.keep hB3)).mono ?_
    rintro e w4 ⟨v4, rfl, hv4, hb4⟩
    have HV4 := hide hv4
    obtain ⟨p1, k1, n1, p2, k2, n2, p3, k3, n3, p4, k4, n4, rfl, _, _, _, _⟩ := hv4
    have hB4 := bel_trans hB3 hb4
    have hX4 := hX3.below hb4 hX3.lt
    clear X hX3 hb4
    have X := hX4.cell
    have zx4 := hX4.lt
    go_wp2_with fail
    refine (stateNodes_any _ s g _ (HV4.out.keep (by go_grown))).mono ?_
    rintro e w5 ⟨rfl, hb5⟩
    rw [HZ.out, Int.add_comm]
    have hZ5 : Blk w5 w4.heap.size #[.slice p1 k1 n1, .slice p2 k2 n2, .slice p3 k3 n3, .slice p4 k4 n4, .int .i64 s.nextPod, .int .i64 s.nextNode] 32 := (Blk.new w4 _ _).below hb5 (by simp)
    have hX5 : Blk w5 w.heap.size #[.slice a1 l1 c1, .slice a2 l2 c2, .slice a3 l3 c3, .slice a4 l4 c4, .int .i64 s.nextPod, .int .i64 s.nextNode] 49 := (hX4.alloc _).below hb5 (by simp; omega)
    have hB45 : Below w4.heap.size w4 w5 := bel_trans (by go_grown) hb5
    have hB5 := bel_trans hB4 hB45
    have HV5 := hide (HV4.out.keep hB45)
    clear X hX4 hb5 hB45 HV4
    have X := hX5.cell
    have Z := hZ5.cell
    have zx := hX5.lt
    have zz := hZ5.lt
    have hcs : w5.cell? ⟨w.heap.size, 0, none⟩ = some (.slice a1 l1 c1) ∧ w5.cell? ⟨w.heap.size, 1, none⟩ = some (.slice a2 l2 c2) ∧ w5.cell? ⟨w.heap.size, 2, none⟩ = some (.slice a3 l3 c3) ∧ w5.cell? ⟨w.heap.size, 3, none⟩ = some (.slice a4 l4 c4) ∧ w5.cell? ⟨w.heap.size, 4, none⟩ = some (.int .i64 s.nextPod) ∧ w5.cell? ⟨w.heap.size, 5, none⟩ = some (.int .i64 s.nextNode) ∧ w5.cell? ⟨w4.heap.size, 0, none⟩ = some (.slice p1 k1 n1) ∧ w5.cell? ⟨w4.heap.size, 1, none⟩ = some (.slice p2 k2 n2) ∧ w5.cell? ⟨w4.heap.size, 2, none⟩ = some (.slice p3 k3 n3) ∧ w5.cell? ⟨w4.heap.size, 3, none⟩ = some (.slice p4 k4 n4) ∧ w5.cell? ⟨w4.heap.size, 4, none⟩ = some (.int .i64 s.nextPod) ∧ w5.cell? ⟨w4.heap.size, 5, none⟩ = some (.int .i64 s.nextNode) := ⟨X 0, X 1, X 2, X 3, X 4, X 5, Z 0, Z 1, Z 2, Z 3, Z 4, Z 5⟩
    have HB5 := hide hB5
    clear hB5 hB1 hB2 hB3 hB4 zx4
    go_wp2
    have hS0 := start_12 hcs
    go_region_held3 (fun w' => Below w5.heap.size w5 w' ∧ w'.cell? ⟨w.heap.size, 0, none⟩ = some (.slice a1 l1 c1) ∧ w'.cell? ⟨w.heap.size, 1, none⟩ = some (.slice a2 l2 c2) ∧ w'.cell? ⟨w.heap.size, 2, none⟩ = some (.slice a3 l3 c3) ∧ w'.cell? ⟨w.heap.size, 3, none⟩ = some (.slice a4 l4 c4) ∧ w'.cell? ⟨w.heap.size, 4, none⟩ = some (.int .i64 s.nextPod) ∧ w'.cell? ⟨w.heap.size, 5, none⟩ = some (.int .i64 s.nextNode) ∧ w'.cell? ⟨w4.heap.size, 0, none⟩ = some (.slice p1 k1 n1) ∧ w'.cell? ⟨w4.heap.size, 1, none⟩ = some (.slice p2 k2 n2) ∧ w'.cell? ⟨w4.heap.size, 2, none⟩ = some (.slice p3 k3 n3) ∧ w'.cell? ⟨w4.heap.size, 3, none⟩ = some (.slice p4 k4 n4) ∧ w'.cell? ⟨w4.heap.size, 4, none⟩ = some (.int .i64 s.nextPod) ∧ w'.cell? ⟨w4.heap.size, 5, none⟩ = some (.int .i64 s.nextNode))
      (assumption)
      (first | (go_at_call 17; refine (toState_any _ s _ (HC.out.held1 HB5.out (by assumption))).mono ?_; rintro e w6 ⟨v6, rfl, hv6, hb6⟩; have HV6 := hide hv6; clear hv6; have hS6 := keep_12 zx zx zx zx zx zx zz zz zz zz zz zz hb6 (by assumption)) | (go_at_call 10; refine (eqState_same _ _ s _ (HV5.out.held1 (Below.refl _ _) (by assumption)) HV6.out).mono ?_; rintro e w7 ⟨rfl, hb7⟩; have hS7 := keep_12 zx zx zx zx zx zx zz zz zz zz zz zz hb7 (by assumption)))
    rename_i hh
    have hfin := bel_trans HB5.out hh.1
    go_wp2
    all_goals go_ret
    all_goals exact ⟨rfl, hfin⟩

end Go.Proofs.Ytcdjklpnjdladaa
