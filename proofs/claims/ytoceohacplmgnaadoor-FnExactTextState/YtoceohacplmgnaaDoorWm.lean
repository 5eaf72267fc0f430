/- Texts: the exact law of TextState: the walk. -/
import Derived.Test.YtoceohacplmgnaaDoorWl
import Derived.Test.YtoceohacplmgnaaDoorGc
import Derived.Test.YtoceohacplmgnaaDoorLd
import Derived.Deep.RegionHeld3
namespace Go.Proofs.YtoceohacplmgnaaDoor
open Go.RowKit
theorem StateAt.held {w W w' : World} {v : Value} {s : St} {R : Prop} (h : StateAt w v s) (hW : Below w.heap.size w W) (hS : Below W.heap.size W w' ∧ R) : StateAt w' v s := h.keep (bel_trans hW hS.1)

set_option maxRecDepth 100000 in
set_option maxHeartbeats 4000000 in
theorem exTextState (a1 : Option Addr) (l1 c1 : Nat) (a2 : Option Addr) (l2 c2 : Nat) (a3 : Option Addr) (l3 c3 : Nat) (a4 : Option Addr) (l4 c4 : Nat) (s : St) (w : World) (h1 : s.pods.length = l1 ∧ l1 ≤ 9223372036854775807 ∧ PodsAt w a1 s.pods) (h2 : s.nodes.length = l2 ∧ l2 ≤ 9223372036854775807 ∧ NodesAt w a2 s.nodes) (h3 : s.works.length = l3 ∧ l3 ≤ 9223372036854775807 ∧ WssAt w a3 s.works) (h4 : s.groups.length = l4 ∧ l4 ≤ 9223372036854775807 ∧ GssAt w a4 s.groups) (hI : StI s) (hT : Tab w) :
    Calls Tryd.prog 4 #[.agg #[.slice a1 l1 c1, .slice a2 l2 c2, .slice a3 l3 c3, .slice a4 l4 c4, .int .i64 s.nextPod, .int .i64 s.nextNode]] w fun e w' => e = .returned (.bool true) ∧ Below w.heap.size w w' := by
  have HA : Hid (l1 ≤ 2000000 → l2 ≤ 2000000 → l3 ≤ 2000000 → l4 ≤ 2000000 → StateAt w (.agg #[.slice a1 l1 c1, .slice a2 l2 c2, .slice a3 l3 c3, .slice a4 l4 c4, .int .i64 s.nextPod, .int .i64 s.nextNode]) s) := fun q1 q2 q3 q4 => ⟨a1, l1, c1, a2, l2, c2, a3, l3, c3, a4, l4, c4, rfl, ⟨h1.1, q1, h1.2.2⟩, ⟨h2.1, q2, h2.2.2⟩, ⟨h3.1, q3, h3.2.2⟩, ⟨h4.1, q4, h4.2.2⟩⟩
  have k1 := h1.2.1
  have k2 := h2.2.1
  have k3 := h3.2.1
  have k4 := h4.2.1
  have HI := hid hI
  clear h1 h2 h3 h4 hI
  go_enter Tryd.func4, Tryd.ntmps4
  go_wp2_with fail
  refine (szState_any _ _ _ _ _ _ _ _ _ _ _ _ _ _ _ _ k1 k2 k3 k4 (by omega) (by omega)).mono ?_
  rintro e w1 ⟨r, rfl, hr, hb⟩
  obtain ⟨⟨x1, x2⟩, hB1, z0⟩ := boxes1 hb
  clear hb
  by_cases hneg : r < 0
  · go_wp2
    all_goals go_ret
    all_goals exact ⟨rfl, hB1⟩
  · obtain ⟨q0, q1, q2, q3, q4⟩ := hr (by omega)
    have HC := hid (HA.out (by omega) (by omega) (by omega) (by omega))
    clear hr HA
    go_wp2_with fail
    refine (toState_any _ s _ (HC.out.keep hB1)).mono ?_
    rintro e w2 ⟨v2, rfl, hv2, hb2⟩
    have A2 : ∀ k, w2.cell? ⟨w.heap.size, k, none⟩ = #[Value.slice a1 l1 c1, .slice a2 l2 c2, .slice a3 l3 c3, .slice a4 l4 c4, .int .i64 s.nextPod, .int .i64 s.nextNode][k]? := fun k => ((bcell hb2).1 _ _ z0).trans (x1 k)
    have HV2 := hid hv2
    have hB2 := bel_trans hB1 hb2
    have z2 : w.heap.size < w2.heap.size := Nat.lt_of_lt_of_le z0 hb2.size
    clear x1 x2 hv2 hb2
    go_wp2_with fail
    refine (sTextState_any _ s _ HV2.out HI.out).mono ?_
    rintro e w3 ⟨rfl, hb3⟩
    have A3 : ∀ k, w3.cell? ⟨w.heap.size, k, none⟩ = #[Value.slice a1 l1 c1, .slice a2 l2 c2, .slice a3 l3 c3, .slice a4 l4 c4, .int .i64 s.nextPod, .int .i64 s.nextNode][k]? := fun k => ((bcell hb3).1 _ _ z2).trans (A2 k)
    have hB3 := bel_trans hB2 hb3
    have z3 : w.heap.size < w3.heap.size := Nat.lt_of_lt_of_le z2 hb3.size
    clear A2 hb3
    go_wp2_with fail
    refine (toState_any _ s _ (HC.out.keep hB3)).mono ?_
    rintro e w4 ⟨v4, rfl, hv4, hb4⟩
    have A4 : ∀ k, w4.cell? ⟨w.heap.size, k, none⟩ = #[Value.slice a1 l1 c1, .slice a2 l2 c2, .slice a3 l3 c3, .slice a4 l4 c4, .int .i64 s.nextPod, .int .i64 s.nextNode][k]? := fun k => ((bcell hb4).1 _ _ z3).trans (A3 k)
    have HV4 := hid hv4
    have hB4 := bel_trans hB3 hb4
    have z4 : w.heap.size < w4.heap.size := Nat.lt_of_lt_of_le z3 hb4.size
    have HT := hid (hT.keep hB4)
    obtain ⟨a5, l5, n5, a6, l6, n6, a7, l7, n7, a8, l8, n8, rfl, _, _, _, _⟩ := hv4
    clear A3 hb4
    go_wp2_with fail
    refine (textState_any _ s _ (HV4.out.keep (by go_grown)) HI.out (HT.out.keep (by go_grown))).mono ?_
    rintro e w5 ⟨rfl, hb5⟩
    obtain ⟨⟨y1, y2⟩, hB5, z5⟩ := boxes1 hb5
    have A5 : ∀ k, w5.cell? ⟨w.heap.size, k, none⟩ = #[Value.slice a1 l1 c1, .slice a2 l2 c2, .slice a3 l3 c3, .slice a4 l4 c4, .int .i64 s.nextPod, .int .i64 s.nextNode][k]? := fun k => ((bcell hB5).1 _ _ z4).trans (A4 k)
    have hBx := bel_trans hB4 hB5
    have zx : w.heap.size < w5.heap.size := Nat.lt_of_lt_of_le z4 hB5.size
    have hcs : w5.cell? ⟨w4.heap.size, 0, none⟩ = some (.slice a5 l5 n5) ∧ w5.cell? ⟨w4.heap.size, 1, none⟩ = some (.slice a6 l6 n6) ∧ w5.cell? ⟨w4.heap.size, 2, none⟩ = some (.slice a7 l7 n7) ∧ w5.cell? ⟨w4.heap.size, 3, none⟩ = some (.slice a8 l8 n8) ∧ w5.cell? ⟨w4.heap.size, 4, none⟩ = some (.int .i64 s.nextPod) ∧ w5.cell? ⟨w4.heap.size, 5, none⟩ = some (.int .i64 s.nextNode) ∧ w5.cell? ⟨w.heap.size, 0, none⟩ = some (.slice a1 l1 c1) ∧ w5.cell? ⟨w.heap.size, 1, none⟩ = some (.slice a2 l2 c2) ∧ w5.cell? ⟨w.heap.size, 2, none⟩ = some (.slice a3 l3 c3) ∧ w5.cell? ⟨w.heap.size, 3, none⟩ = some (.slice a4 l4 c4) ∧ w5.cell? ⟨w.heap.size, 4, none⟩ = some (.int .i64 s.nextPod) ∧ w5.cell? ⟨w.heap.size, 5, none⟩ = some (.int .i64 s.nextNode) := ⟨y1 0, y1 1, y1 2, y1 3, y1 4, y1 5, A5 0, A5 1, A5 2, A5 3, A5 4, A5 5⟩
    have HV5 := hid (HV4.out.keep hB5)
    have HC5 := hid (HC.out.keep hBx)
    clear A4 hb5 y1 y2 A5
    go_wp2
    have hS0 := start_12 hcs
    go_region_held3 (fun w' => Below w5.heap.size w5 w' ∧ w'.cell? ⟨w4.heap.size, 0, none⟩ = some (.slice a5 l5 n5) ∧ w'.cell? ⟨w4.heap.size, 1, none⟩ = some (.slice a6 l6 n6) ∧ w'.cell? ⟨w4.heap.size, 2, none⟩ = some (.slice a7 l7 n7) ∧ w'.cell? ⟨w4.heap.size, 3, none⟩ = some (.slice a8 l8 n8) ∧ w'.cell? ⟨w4.heap.size, 4, none⟩ = some (.int .i64 s.nextPod) ∧ w'.cell? ⟨w4.heap.size, 5, none⟩ = some (.int .i64 s.nextNode) ∧ w'.cell? ⟨w.heap.size, 0, none⟩ = some (.slice a1 l1 c1) ∧ w'.cell? ⟨w.heap.size, 1, none⟩ = some (.slice a2 l2 c2) ∧ w'.cell? ⟨w.heap.size, 2, none⟩ = some (.slice a3 l3 c3) ∧ w'.cell? ⟨w.heap.size, 3, none⟩ = some (.slice a4 l4 c4) ∧ w'.cell? ⟨w.heap.size, 4, none⟩ = some (.int .i64 s.nextPod) ∧ w'.cell? ⟨w.heap.size, 5, none⟩ = some (.int .i64 s.nextNode))
      (assumption)
      (first | (go_at_call 15; refine (toState_any _ s _ (HC5.out.held (Below.refl _ _) (by assumption))).mono ?_; rintro e w6 ⟨v6, rfl, hv6, hb6⟩; have HV6 := hid hv6; clear hv6; have hS6 := keep_12 z5 z5 z5 z5 z5 z5 zx zx zx zx zx zx hb6 (by assumption)) | (go_at_call 17; refine (eqState_same _ _ s _ (HV5.out.held (Below.refl _ _) (by assumption)) HV6.out).mono ?_; rintro e w7 ⟨rfl, hb7⟩; have hS7 := keep_12 z5 z5 z5 z5 z5 z5 zx zx zx zx zx zx hb7 (by assumption)))
    rename_i hh
    have hfin := bel_trans hBx hh.1
    go_wp2
    all_goals go_ret
    all_goals exact ⟨rfl, hfin⟩
end Go.Proofs.YtoceohacplmgnaaDoor
