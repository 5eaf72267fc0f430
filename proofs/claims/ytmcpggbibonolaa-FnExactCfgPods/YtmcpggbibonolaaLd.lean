/- The exact laws over what is asked: their walks. -/
import Derived.Test.YtmcpggbibonolaaLc
import Derived.Test.YtmcpggbibonolaaSe
namespace Go.Proofs.Ytmcpggbibonolaa
open Go.RowKit

/-- What a walk knows of its box behind a call. -/
theorem boxes1 {w w1 : World} {a : Array Value} {Ta : TypeId} (hb : Below (w.alloc (.cells a Ta)).heap.size (w.alloc (.cells a Ta)) w1) :
    ((∀ k, w1.cell? ⟨w.heap.size, k, none⟩ = a[k]?) ∧ (∀ k, w1.frozen? ⟨w.heap.size, k, none⟩ = false)) ∧ Below w.heap.size w w1 ∧ w.heap.size < w1.heap.size := by
  have hs : w.heap.size + 1 ≤ w1.heap.size := by have := hb.size; simpa using this
  refine ⟨block_cells (T := Ta) ?_, bel_trans (by go_grown) hb, by omega⟩
  rw [hb.block _ (by simp), heap_alloc_new]

set_option maxRecDepth 100000 in
set_option maxHeartbeats 1000000 in
theorem szCfg_any (aw : Option Addr) (lw cw : Nat) (ag : Option Addr) (lg cg : Nat) (s k i b : Int) (w : World) (h1 : lw ≤ 9223372036854775807) (h2 : lg ≤ 9223372036854775807) :
    Calls Try.prog 27 #[.agg #[.slice aw lw cw, .slice ag lg cg, .int .i64 s, .int .i64 k, .int .i64 i, .int .i64 b], .int .i64 1048576] w fun e w' => ∃ r : Int, e = .returned (.int .i64 r) ∧ (0 ≤ r → lw ≤ 1048576 ∧ lg ≤ 1048576) ∧ Below w.heap.size w w' := by
  by_cases c1 : (1048576 : Int) - lw < 0
  · go_enter Try.func27, Try.ntmps27
    go_wp2_with (first | (go_at_call 64; refine (szWorks_any _ _ _ _ _ (by omega) (by omega) h1).mono ?_; rintro e w' ⟨rfl, rfl⟩))
    all_goals go_ret
    all_goals exact ⟨_, rfl, by intro hh; simp at hh, by go_grown⟩
  · by_cases c2 : (1048576 : Int) - lw - lg < 0
    · go_enter Try.func27, Try.ntmps27
      go_wp2_with (first | (go_at_call 64; refine (szWorks_any _ _ _ _ _ (by omega) (by omega) h1).mono ?_; rintro e w' ⟨rfl, rfl⟩) | (go_at_call 65; refine (szGroups_any _ _ _ _ _ (by omega) (by omega) h2).mono ?_; rintro e w' ⟨rfl, rfl⟩))
      all_goals go_ret
      all_goals exact ⟨_, rfl, by intro hh; simp at hh, by go_grown⟩
    · go_enter Try.func27, Try.ntmps27
      go_wp2_with (first | (go_at_call 64; refine (szWorks_any _ _ _ _ _ (by omega) (by omega) h1).mono ?_; rintro e w' ⟨rfl, rfl⟩) | (go_at_call 65; refine (szGroups_any _ _ _ _ _ (by omega) (by omega) h2).mono ?_; rintro e w' ⟨rfl, rfl⟩))
      all_goals go_ret
      all_goals exact ⟨_, rfl, by intro hh; omega, by go_grown⟩

set_option maxRecDepth 100000 in
set_option maxHeartbeats 2000000 in
theorem exOk (aw : Option Addr) (lw cw : Nat) (ag : Option Addr) (lg cg : Nat) (c : Cf) (w : World) (h1 : c.works.length = lw) (h2 : lw ≤ 9223372036854775807) (h3 : WorksAt w aw c.works) (h4 : c.groups.length = lg) (h5 : lg ≤ 9223372036854775807) (h6 : GroupsAt w ag c.groups) :
    Calls Try.prog 6 #[.agg #[.slice aw lw cw, .slice ag lg cg, .int .i64 c.start, .int .i64 c.calm, .int .i64 c.idle, .int .i64 c.back]] w fun e w' => e = .returned (.bool true) ∧ Below w.heap.size w w' := by
  have HA : Hid (lw ≤ 2000000 → lg ≤ 2000000 → CfgAt w (.agg #[.slice aw lw cw, .slice ag lg cg, .int .i64 c.start, .int .i64 c.calm, .int .i64 c.idle, .int .i64 c.back]) c) := fun q1 q2 => ⟨aw, lw, cw, ag, lg, cg, rfl, ⟨h1, q1, h3⟩, ⟨h4, q2, h6⟩⟩
  clear h1 h3 h4 h6
  go_enter Try.func6, Try.ntmps6
  go_wp2_with fail
  refine (szCfg_any _ _ _ _ _ _ _ _ _ _ _ h2 h5).mono ?_
  rintro e w1 ⟨r, rfl, hr, hb⟩
  obtain ⟨⟨x1, x2⟩, hB1, z0⟩ := boxes1 hb
  clear hb
  by_cases hneg : r < 0
  · go_wp2
    all_goals go_ret
    all_goals exact ⟨rfl, hB1⟩
  · obtain ⟨q1, q2⟩ := hr (by omega)
    have HC := hide (HA.out (by omega) (by omega))
    clear hr HA
    go_wp2_with fail
    refine (toCfg_any _ c _ (HC.out.keep hB1)).mono ?_
    rintro e w2 ⟨v2, rfl, hv2, hb2⟩
    have A2 : ∀ k, w2.cell? ⟨w.heap.size, k, none⟩ = #[Value.slice aw lw cw, .slice ag lg cg, .int .i64 c.start, .int .i64 c.calm, .int .i64 c.idle, .int .i64 c.back][k]? := fun k => ((bcell hb2).1 _ _ z0).trans (x1 k)
    have HV2 := hide hv2
    have hB2 := bel_trans hB1 hb2
    have z2 : w.heap.size < w2.heap.size := Nat.lt_of_lt_of_le z0 hb2.size
    clear x1 x2 hv2 hb2
    go_wp2_with fail
    refine (sCfgOk_any _ c _ HV2.out).mono ?_
    rintro e w3 ⟨rfl, hb3⟩
    have A3 : ∀ k, w3.cell? ⟨w.heap.size, k, none⟩ = #[Value.slice aw lw cw, .slice ag lg cg, .int .i64 c.start, .int .i64 c.calm, .int .i64 c.idle, .int .i64 c.back][k]? := fun k => ((bcell hb3).1 _ _ z2).trans (A2 k)
    have hB3 := bel_trans hB2 hb3
    have z3 : w.heap.size < w3.heap.size := Nat.lt_of_lt_of_le z2 hb3.size
    clear A2 hb3
    go_wp2_with fail
    refine (toCfg_any _ c _ (HC.out.keep hB3)).mono ?_
    rintro e w4 ⟨v4, rfl, hv4, hb4⟩
    have A4 : ∀ k, w4.cell? ⟨w.heap.size, k, none⟩ = #[Value.slice aw lw cw, .slice ag lg cg, .int .i64 c.start, .int .i64 c.calm, .int .i64 c.idle, .int .i64 c.back][k]? := fun k => ((bcell hb4).1 _ _ z3).trans (A3 k)
    have HV4 := hide hv4
    have hB4 := bel_trans hB3 hb4
    have z4 : w.heap.size < w4.heap.size := Nat.lt_of_lt_of_le z3 hb4.size
    obtain ⟨a5, l5, n5, a6, l6, n6, rfl, _, _⟩ := hv4
    clear A3 hb4
    go_wp2_with fail
    refine (cfgOk_any _ c _ (HV4.out.keep (by go_grown))).mono ?_
    rintro e w5 ⟨rfl, hb5⟩
    obtain ⟨⟨y1, y2⟩, hB5, z5⟩ := boxes1 hb5
    have A5 : ∀ k, w5.cell? ⟨w.heap.size, k, none⟩ = #[Value.slice aw lw cw, .slice ag lg cg, .int .i64 c.start, .int .i64 c.calm, .int .i64 c.idle, .int .i64 c.back][k]? := fun k => ((bcell hB5).1 _ _ z4).trans (A4 k)
    have hBx := bel_trans hB4 hB5
    have zx : w.heap.size < w5.heap.size := Nat.lt_of_lt_of_le z4 hB5.size
    have hcs : w5.cell? ⟨w4.heap.size, 0, none⟩ = some (.slice a5 l5 n5) ∧ w5.cell? ⟨w4.heap.size, 1, none⟩ = some (.slice a6 l6 n6) ∧ w5.cell? ⟨w4.heap.size, 2, none⟩ = some (.int .i64 c.start) ∧ w5.cell? ⟨w4.heap.size, 3, none⟩ = some (.int .i64 c.calm) ∧ w5.cell? ⟨w4.heap.size, 4, none⟩ = some (.int .i64 c.idle) ∧ w5.cell? ⟨w4.heap.size, 5, none⟩ = some (.int .i64 c.back) ∧ w5.cell? ⟨w.heap.size, 0, none⟩ = some (.slice aw lw cw) ∧ w5.cell? ⟨w.heap.size, 1, none⟩ = some (.slice ag lg cg) ∧ w5.cell? ⟨w.heap.size, 2, none⟩ = some (.int .i64 c.start) ∧ w5.cell? ⟨w.heap.size, 3, none⟩ = some (.int .i64 c.calm) ∧ w5.cell? ⟨w.heap.size, 4, none⟩ = some (.int .i64 c.idle) ∧ w5.cell? ⟨w.heap.size, 5, none⟩ = some (.int .i64 c.back) := ⟨y1 0, y1 1, y1 2, y1 3, y1 4, y1 5, A5 0, A5 1, A5 2, A5 3, A5 4, A5 5⟩
    have HV5 := hide (HV4.out.keep hB5)
    have HC5 := hide (HC.out.keep hBx)
    clear A4 hb5 y1 y2 A5
    go_wp2
    have hS0 := start_12 hcs
    go_region_held3 (fun w' => Below w5.heap.size w5 w' ∧ w'.cell? ⟨w4.heap.size, 0, none⟩ = some (.slice a5 l5 n5) ∧ w'.cell? ⟨w4.heap.size, 1, none⟩ = some (.slice a6 l6 n6) ∧ w'.cell? ⟨w4.heap.size, 2, none⟩ = some (.int .i64 c.start) ∧ w'.cell? ⟨w4.heap.size, 3, none⟩ = some (.int .i64 c.calm) ∧ w'.cell? ⟨w4.heap.size, 4, none⟩ = some (.int .i64 c.idle) ∧ w'.cell? ⟨w4.heap.size, 5, none⟩ = some (.int .i64 c.back) ∧ w'.cell? ⟨w.heap.size, 0, none⟩ = some (.slice aw lw cw) ∧ w'.cell? ⟨w.heap.size, 1, none⟩ = some (.slice ag lg cg) ∧ w'.cell? ⟨w.heap.size, 2, none⟩ = some (.int .i64 c.start) ∧ w'.cell? ⟨w.heap.size, 3, none⟩ = some (.int .i64 c.calm) ∧ w'.cell? ⟨w.heap.size, 4, none⟩ = some (.int .i64 c.idle) ∧ w'.cell? ⟨w.heap.size, 5, none⟩ = some (.int .i64 c.back))
      (assumption)
      (first | (go_at_call 28; refine (toCfg_any _ c _ (HC5.out.held (Below.refl _ _) (by assumption))).mono ?_; rintro e w6 ⟨v6, rfl, hv6, hb6⟩; have HV6 := hide hv6; clear hv6; have hS6 := keep_12 z5 z5 z5 z5 z5 z5 zx zx zx zx zx zx hb6 (by assumption)) | (go_at_call 29; refine (eqCfg_same _ _ c _ (HV5.out.held (Below.refl _ _) (by assumption)) HV6.out).mono ?_; rintro e w7 ⟨rfl, hb7⟩; have hS7 := keep_12 z5 z5 z5 z5 z5 z5 zx zx zx zx zx zx hb7 (by assumption)))
    rename_i hh
    have hfin := bel_trans hBx hh.1
    go_wp2
    all_goals go_ret
    all_goals exact ⟨rfl, hfin⟩

set_option maxRecDepth 100000 in
set_option maxHeartbeats 2000000 in
theorem exPods (aw : Option Addr) (lw cw : Nat) (ag : Option Addr) (lg cg : Nat) (c : Cf) (w : World) (h1 : c.works.length = lw) (h2 : lw ≤ 9223372036854775807) (h3 : WorksAt w aw c.works) (h4 : c.groups.length = lg) (h5 : lg ≤ 9223372036854775807) (h6 : GroupsAt w ag c.groups) :
    Calls Try.prog 8 #[.agg #[.slice aw lw cw, .slice ag lg cg, .int .i64 c.start, .int .i64 c.calm, .int .i64 c.idle, .int .i64 c.back]] w fun e w' => e = .returned (.bool true) ∧ Below w.heap.size w w' := by
  have HA : Hid (lw ≤ 2000000 → lg ≤ 2000000 → CfgAt w (.agg #[.slice aw lw cw, .slice ag lg cg, .int .i64 c.start, .int .i64 c.calm, .int .i64 c.idle, .int .i64 c.back]) c) := fun q1 q2 => ⟨aw, lw, cw, ag, lg, cg, rfl, ⟨h1, q1, h3⟩, ⟨h4, q2, h6⟩⟩
  clear h1 h3 h4 h6
  go_enter Try.func8, Try.ntmps8
  go_wp2_with fail
  refine (szCfg_any _ _ _ _ _ _ _ _ _ _ _ h2 h5).mono ?_
  rintro e w1 ⟨r, rfl, hr, hb⟩
  obtain ⟨⟨x1, x2⟩, hB1, z0⟩ := boxes1 hb
  clear hb
  by_cases hneg : r < 0
  · go_wp2
    all_goals go_ret
    all_goals exact ⟨rfl, hB1⟩
  · obtain ⟨q1, q2⟩ := hr (by omega)
    have HC := hide (HA.out (by omega) (by omega))
    clear hr HA
    go_wp2_with fail
    refine (toCfg_any _ c _ (HC.out.keep hB1)).mono ?_
    rintro e w2 ⟨v2, rfl, hv2, hb2⟩
    have A2 : ∀ k, w2.cell? ⟨w.heap.size, k, none⟩ = #[Value.slice aw lw cw, .slice ag lg cg, .int .i64 c.start, .int .i64 c.calm, .int .i64 c.idle, .int .i64 c.back][k]? := fun k => ((bcell hb2).1 _ _ z0).trans (x1 k)
    have HV2 := hide hv2
    have hB2 := bel_trans hB1 hb2
    have z2 : w.heap.size < w2.heap.size := Nat.lt_of_lt_of_le z0 hb2.size
    clear x1 x2 hv2 hb2
    go_wp2_with fail
    refine (sPods_any _ c _ HV2.out).mono ?_
    rintro e w3 ⟨rfl, hb3⟩
    have A3 : ∀ k, w3.cell? ⟨w.heap.size, k, none⟩ = #[Value.slice aw lw cw, .slice ag lg cg, .int .i64 c.start, .int .i64 c.calm, .int .i64 c.idle, .int .i64 c.back][k]? := fun k => ((bcell hb3).1 _ _ z2).trans (A2 k)
    have hB3 := bel_trans hB2 hb3
    have z3 : w.heap.size < w3.heap.size := Nat.lt_of_lt_of_le z2 hb3.size
    clear A2 hb3
    go_wp2_with fail
    refine (toCfg_any _ c _ (HC.out.keep hB3)).mono ?_
    rintro e w4 ⟨v4, rfl, hv4, hb4⟩
    have A4 : ∀ k, w4.cell? ⟨w.heap.size, k, none⟩ = #[Value.slice aw lw cw, .slice ag lg cg, .int .i64 c.start, .int .i64 c.calm, .int .i64 c.idle, .int .i64 c.back][k]? := fun k => ((bcell hb4).1 _ _ z3).trans (A3 k)
    have HV4 := hide hv4
    have hB4 := bel_trans hB3 hb4
    have z4 : w.heap.size < w4.heap.size := Nat.lt_of_lt_of_le z3 hb4.size
    obtain ⟨a5, l5, n5, a6, l6, n6, rfl, _, _⟩ := hv4
    clear A3 hb4
    go_wp2_with fail
    refine (pods_any _ c _ (HV4.out.keep (by go_grown))).mono ?_
    rintro e w5 ⟨rfl, hb5⟩
    obtain ⟨⟨y1, y2⟩, hB5, z5⟩ := boxes1 hb5
    have A5 : ∀ k, w5.cell? ⟨w.heap.size, k, none⟩ = #[Value.slice aw lw cw, .slice ag lg cg, .int .i64 c.start, .int .i64 c.calm, .int .i64 c.idle, .int .i64 c.back][k]? := fun k => ((bcell hB5).1 _ _ z4).trans (A4 k)
    have hBx := bel_trans hB4 hB5
    have zx : w.heap.size < w5.heap.size := Nat.lt_of_lt_of_le z4 hB5.size
    have hcs : w5.cell? ⟨w4.heap.size, 0, none⟩ = some (.slice a5 l5 n5) ∧ w5.cell? ⟨w4.heap.size, 1, none⟩ = some (.slice a6 l6 n6) ∧ w5.cell? ⟨w4.heap.size, 2, none⟩ = some (.int .i64 c.start) ∧ w5.cell? ⟨w4.heap.size, 3, none⟩ = some (.int .i64 c.calm) ∧ w5.cell? ⟨w4.heap.size, 4, none⟩ = some (.int .i64 c.idle) ∧ w5.cell? ⟨w4.heap.size, 5, none⟩ = some (.int .i64 c.back) ∧ w5.cell? ⟨w.heap.size, 0, none⟩ = some (.slice aw lw cw) ∧ w5.cell? ⟨w.heap.size, 1, none⟩ = some (.slice ag lg cg) ∧ w5.cell? ⟨w.heap.size, 2, none⟩ = some (.int .i64 c.start) ∧ w5.cell? ⟨w.heap.size, 3, none⟩ = some (.int .i64 c.calm) ∧ w5.cell? ⟨w.heap.size, 4, none⟩ = some (.int .i64 c.idle) ∧ w5.cell? ⟨w.heap.size, 5, none⟩ = some (.int .i64 c.back) := ⟨y1 0, y1 1, y1 2, y1 3, y1 4, y1 5, A5 0, A5 1, A5 2, A5 3, A5 4, A5 5⟩
    have HV5 := hide (HV4.out.keep hB5)
    have HC5 := hide (HC.out.keep hBx)
    clear A4 hb5 y1 y2 A5
    go_wp2
    have hS0 := start_12 hcs
    go_region_held3 (fun w' => Below w5.heap.size w5 w' ∧ w'.cell? ⟨w4.heap.size, 0, none⟩ = some (.slice a5 l5 n5) ∧ w'.cell? ⟨w4.heap.size, 1, none⟩ = some (.slice a6 l6 n6) ∧ w'.cell? ⟨w4.heap.size, 2, none⟩ = some (.int .i64 c.start) ∧ w'.cell? ⟨w4.heap.size, 3, none⟩ = some (.int .i64 c.calm) ∧ w'.cell? ⟨w4.heap.size, 4, none⟩ = some (.int .i64 c.idle) ∧ w'.cell? ⟨w4.heap.size, 5, none⟩ = some (.int .i64 c.back) ∧ w'.cell? ⟨w.heap.size, 0, none⟩ = some (.slice aw lw cw) ∧ w'.cell? ⟨w.heap.size, 1, none⟩ = some (.slice ag lg cg) ∧ w'.cell? ⟨w.heap.size, 2, none⟩ = some (.int .i64 c.start) ∧ w'.cell? ⟨w.heap.size, 3, none⟩ = some (.int .i64 c.calm) ∧ w'.cell? ⟨w.heap.size, 4, none⟩ = some (.int .i64 c.idle) ∧ w'.cell? ⟨w.heap.size, 5, none⟩ = some (.int .i64 c.back))
      (assumption)
      (first | (go_at_call 28; refine (toCfg_any _ c _ (HC5.out.held (Below.refl _ _) (by assumption))).mono ?_; rintro e w6 ⟨v6, rfl, hv6, hb6⟩; have HV6 := hide hv6; clear hv6; have hS6 := keep_12 z5 z5 z5 z5 z5 z5 zx zx zx zx zx zx hb6 (by assumption)) | (go_at_call 29; refine (eqCfg_same _ _ c _ (HV5.out.held (Below.refl _ _) (by assumption)) HV6.out).mono ?_; rintro e w7 ⟨rfl, hb7⟩; have hS7 := keep_12 z5 z5 z5 z5 z5 z5 zx zx zx zx zx zx hb7 (by assumption)))
    rename_i hh
    have hfin := bel_trans hBx hh.1
    go_wp2
    all_goals go_ret
    all_goals exact ⟨rfl, hfin⟩

set_option maxRecDepth 100000 in
set_option maxHeartbeats 2000000 in
theorem exNodes (aw : Option Addr) (lw cw : Nat) (ag : Option Addr) (lg cg : Nat) (c : Cf) (w : World) (h1 : c.works.length = lw) (h2 : lw ≤ 9223372036854775807) (h3 : WorksAt w aw c.works) (h4 : c.groups.length = lg) (h5 : lg ≤ 9223372036854775807) (h6 : GroupsAt w ag c.groups) :
    Calls Try.prog 9 #[.agg #[.slice aw lw cw, .slice ag lg cg, .int .i64 c.start, .int .i64 c.calm, .int .i64 c.idle, .int .i64 c.back]] w fun e w' => e = .returned (.bool true) ∧ Below w.heap.size w w' := by
  have HA : Hid (lw ≤ 2000000 → lg ≤ 2000000 → CfgAt w (.agg #[.slice aw lw cw, .slice ag lg cg, .int .i64 c.start, .int .i64 c.calm, .int .i64 c.idle, .int .i64 c.back]) c) := fun q1 q2 => ⟨aw, lw, cw, ag, lg, cg, rfl, ⟨h1, q1, h3⟩, ⟨h4, q2, h6⟩⟩
  clear h1 h3 h4 h6
  go_enter Try.func9, Try.ntmps9
  go_wp2_with fail
  refine (szCfg_any _ _ _ _ _ _ _ _ _ _ _ h2 h5).mono ?_
  rintro e w1 ⟨r, rfl, hr, hb⟩
  obtain ⟨⟨x1, x2⟩, hB1, z0⟩ := boxes1 hb
  clear hb
  by_cases hneg : r < 0
  · go_wp2
    all_goals go_ret
    all_goals exact ⟨rfl, hB1⟩
  · obtain ⟨q1, q2⟩ := hr (by omega)
    have HC := hide (HA.out (by omega) (by omega))
    clear hr HA
    go_wp2_with fail
    refine (toCfg_any _ c _ (HC.out.keep hB1)).mono ?_
    rintro e w2 ⟨v2, rfl, hv2, hb2⟩
    have A2 : ∀ k, w2.cell? ⟨w.heap.size, k, none⟩ = #[Value.slice aw lw cw, .slice ag lg cg, .int .i64 c.start, .int .i64 c.calm, .int .i64 c.idle, .int .i64 c.back][k]? := fun k => ((bcell hb2).1 _ _ z0).trans (x1 k)
    have HV2 := hide hv2
    have hB2 := bel_trans hB1 hb2
    have z2 : w.heap.size < w2.heap.size := Nat.lt_of_lt_of_le z0 hb2.size
    clear x1 x2 hv2 hb2
    go_wp2_with fail
    refine (sNodes_any _ c _ HV2.out).mono ?_
    rintro e w3 ⟨rfl, hb3⟩
    have A3 : ∀ k, w3.cell? ⟨w.heap.size, k, none⟩ = #[Value.slice aw lw cw, .slice ag lg cg, .int .i64 c.start, .int .i64 c.calm, .int .i64 c.idle, .int .i64 c.back][k]? := fun k => ((bcell hb3).1 _ _ z2).trans (A2 k)
    have hB3 := bel_trans hB2 hb3
    have z3 : w.heap.size < w3.heap.size := Nat.lt_of_lt_of_le z2 hb3.size
    clear A2 hb3
    go_wp2_with fail
    refine (toCfg_any _ c _ (HC.out.keep hB3)).mono ?_
    rintro e w4 ⟨v4, rfl, hv4, hb4⟩
    have A4 : ∀ k, w4.cell? ⟨w.heap.size, k, none⟩ = #[Value.slice aw lw cw, .slice ag lg cg, .int .i64 c.start, .int .i64 c.calm, .int .i64 c.idle, .int .i64 c.back][k]? := fun k => ((bcell hb4).1 _ _ z3).trans (A3 k)
    have HV4 := hide hv4
    have hB4 := bel_trans hB3 hb4
    have z4 : w.heap.size < w4.heap.size := Nat.lt_of_lt_of_le z3 hb4.size
    obtain ⟨a5, l5, n5, a6, l6, n6, rfl, _, _⟩ := hv4
    clear A3 hb4
    go_wp2_with fail
    refine (nodes_any _ c _ (HV4.out.keep (by go_grown))).mono ?_
    rintro e w5 ⟨rfl, hb5⟩
    obtain ⟨⟨y1, y2⟩, hB5, z5⟩ := boxes1 hb5
    have A5 : ∀ k, w5.cell? ⟨w.heap.size, k, none⟩ = #[Value.slice aw lw cw, .slice ag lg cg, .int .i64 c.start, .int .i64 c.calm, .int .i64 c.idle, .int .i64 c.back][k]? := fun k => ((bcell hB5).1 _ _ z4).trans (A4 k)
    have hBx := bel_trans hB4 hB5
    have zx : w.heap.size < w5.heap.size := Nat.lt_of_lt_of_le z4 hB5.size
    have hcs : w5.cell? ⟨w4.heap.size, 0, none⟩ = some (.slice a5 l5 n5) ∧ w5.cell? ⟨w4.heap.size, 1, none⟩ = some (.slice a6 l6 n6) ∧ w5.cell? ⟨w4.heap.size, 2, none⟩ = some (.int .i64 c.start) ∧ w5.cell? ⟨w4.heap.size, 3, none⟩ = some (.int .i64 c.calm) ∧ w5.cell? ⟨w4.heap.size, 4, none⟩ = some (.int .i64 c.idle) ∧ w5.cell? ⟨w4.heap.size, 5, none⟩ = some (.int .i64 c.back) ∧ w5.cell? ⟨w.heap.size, 0, none⟩ = some (.slice aw lw cw) ∧ w5.cell? ⟨w.heap.size, 1, none⟩ = some (.slice ag lg cg) ∧ w5.cell? ⟨w.heap.size, 2, none⟩ = some (.int .i64 c.start) ∧ w5.cell? ⟨w.heap.size, 3, none⟩ = some (.int .i64 c.calm) ∧ w5.cell? ⟨w.heap.size, 4, none⟩ = some (.int .i64 c.idle) ∧ w5.cell? ⟨w.heap.size, 5, none⟩ = some (.int .i64 c.back) := ⟨y1 0, y1 1, y1 2, y1 3, y1 4, y1 5, A5 0, A5 1, A5 2, A5 3, A5 4, A5 5⟩
    have HV5 := hide (HV4.out.keep hB5)
    have HC5 := hide (HC.out.keep hBx)
    clear A4 hb5 y1 y2 A5
    go_wp2
    have hS0 := start_12 hcs
    go_region_held3 (fun w' => Below w5.heap.size w5 w' ∧ w'.cell? ⟨w4.heap.size, 0, none⟩ = some (.slice a5 l5 n5) ∧ w'.cell? ⟨w4.heap.size, 1, none⟩ = some (.slice a6 l6 n6) ∧ w'.cell? ⟨w4.heap.size, 2, none⟩ = some (.int .i64 c.start) ∧ w'.cell? ⟨w4.heap.size, 3, none⟩ = some (.int .i64 c.calm) ∧ w'.cell? ⟨w4.heap.size, 4, none⟩ = some (.int .i64 c.idle) ∧ w'.cell? ⟨w4.heap.size, 5, none⟩ = some (.int .i64 c.back) ∧ w'.cell? ⟨w.heap.size, 0, none⟩ = some (.slice aw lw cw) ∧ w'.cell? ⟨w.heap.size, 1, none⟩ = some (.slice ag lg cg) ∧ w'.cell? ⟨w.heap.size, 2, none⟩ = some (.int .i64 c.start) ∧ w'.cell? ⟨w.heap.size, 3, none⟩ = some (.int .i64 c.calm) ∧ w'.cell? ⟨w.heap.size, 4, none⟩ = some (.int .i64 c.idle) ∧ w'.cell? ⟨w.heap.size, 5, none⟩ = some (.int .i64 c.back))
      (assumption)
      (first | (go_at_call 28; refine (toCfg_any _ c _ (HC5.out.held (Below.refl _ _) (by assumption))).mono ?_; rintro e w6 ⟨v6, rfl, hv6, hb6⟩; have HV6 := hide hv6; clear hv6; have hS6 := keep_12 z5 z5 z5 z5 z5 z5 zx zx zx zx zx zx hb6 (by assumption)) | (go_at_call 29; refine (eqCfg_same _ _ c _ (HV5.out.held (Below.refl _ _) (by assumption)) HV6.out).mono ?_; rintro e w7 ⟨rfl, hb7⟩; have hS7 := keep_12 z5 z5 z5 z5 z5 z5 zx zx zx zx zx zx hb7 (by assumption)))
    rename_i hh
    have hfin := bel_trans hBx hh.1
    go_wp2
    all_goals go_ret
    all_goals exact ⟨rfl, hfin⟩

end Go.Proofs.Ytmcpggbibonolaa
