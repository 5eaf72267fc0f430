/- Texts: the exact law of TextCfg: the walk. -/
import Derived.Test.YtoceohacplmgnaaDoorWo
import Derived.Test.YtoceohacplmgnaaDoorLd
import Derived.Test.YtoceohacplmgnaaDoorIs
import Derived.Deep.RegionHeld3
namespace Go.Proofs.YtoceohacplmgnaaDoor
open Go.RowKit

set_option maxRecDepth 100000 in
set_option maxHeartbeats 4000000 in
theorem exTextCfg (aw : Option Addr) (lw cw : Nat) (ag : Option Addr) (lg cg : Nat) (c : Cf) (w : World) (h1 : c.works.length = lw) (h2 : lw ≤ 9223372036854775807) (h3 : WorksAt w aw c.works) (h4 : c.groups.length = lg) (h5 : lg ≤ 9223372036854775807) (h6 : GroupsAt w ag c.groups) (hT : Tab w) :
    Calls Tryd.prog 3 #[.agg #[.slice aw lw cw, .slice ag lg cg, .int .i64 c.start, .int .i64 c.calm, .int .i64 c.idle, .int .i64 c.back]] w fun e w' => e = .returned (.bool true) ∧ Below w.heap.size w w' := by
  have HA : Hid (lw ≤ 2000000 → lg ≤ 2000000 → CfgAt w (.agg #[.slice aw lw cw, .slice ag lg cg, .int .i64 c.start, .int .i64 c.calm, .int .i64 c.idle, .int .i64 c.back]) c) := fun q1 q2 => ⟨aw, lw, cw, ag, lg, cg, rfl, ⟨h1, q1, h3⟩, ⟨h4, q2, h6⟩⟩
  clear h1 h3 h4 h6
  go_enter Tryd.func3, Tryd.ntmps3
  go_wp2_with fail
  refine (szCfg_any _ _ _ _ _ _ _ _ _ _ _ h2 h5).mono ?_
  rintro e w1 ⟨r, rfl, hr, hb⟩
  obtain ⟨⟨x1, x2⟩, hB1, z0⟩ := boxes1 hb
  clear hb
  by_cases hneg : r < 0
  · go_wp2
    all_goals go_ret
    all_goals exact ⟨rfl, hB1⟩
  · obtain ⟨q1, q2⟩ := hr (by omega)
    have HC := hid (HA.out (by omega) (by omega))
    clear hr HA
    go_wp2_with fail
    refine (toCfg_any _ c _ (HC.out.keep hB1)).mono ?_
    rintro e w2 ⟨v2, rfl, hv2, hb2⟩
    have A2 : ∀ k, w2.cell? ⟨w.heap.size, k, none⟩ = #[Value.slice aw lw cw, .slice ag lg cg, .int .i64 c.start, .int .i64 c.calm, .int .i64 c.idle, .int .i64 c.back][k]? := fun k => ((bcell hb2).1 _ _ z0).trans (x1 k)
    have HV2 := hid hv2
    have hB2 := bel_trans hB1 hb2
    have z2 : w.heap.size < w2.heap.size := Nat.lt_of_lt_of_le z0 hb2.size
    clear x1 x2 hv2 hb2
    go_wp2_with fail
    refine (sTextCfg_any _ c _ HV2.out).mono ?_
    rintro e w3 ⟨rfl, hb3⟩
    have A3 : ∀ k, w3.cell? ⟨w.heap.size, k, none⟩ = #[Value.slice aw lw cw, .slice ag lg cg, .int .i64 c.start, .int .i64 c.calm, .int .i64 c.idle, .int .i64 c.back][k]? := fun k => ((bcell hb3).1 _ _ z2).trans (A2 k)
    have hB3 := bel_trans hB2 hb3
    have z3 : w.heap.size < w3.heap.size := Nat.lt_of_lt_of_le z2 hb3.size
    clear A2 hb3
    go_wp2_with fail
    refine (toCfg_any _ c _ (HC.out.keep hB3)).mono ?_
    rintro e w4 ⟨v4, rfl, hv4, hb4⟩
    have A4 : ∀ k, w4.cell? ⟨w.heap.size, k, none⟩ = #[Value.slice aw lw cw, .slice ag lg cg, .int .i64 c.start, .int .i64 c.calm, .int .i64 c.idle, .int .i64 c.back][k]? := fun k => ((bcell hb4).1 _ _ z3).trans (A3 k)
    have HV4 := hid hv4
    have hB4 := bel_trans hB3 hb4
    have z4 : w.heap.size < w4.heap.size := Nat.lt_of_lt_of_le z3 hb4.size
    have HT := hid (hT.keep hB4)
    obtain ⟨a5, l5, n5, a6, l6, n6, rfl, _, _⟩ := hv4
    clear A3 hb4
    go_wp2_with fail
    refine (textCfg_any _ c _ (HV4.out.keep (by go_grown)) (HT.out.keep (by go_grown))).mono ?_
    rintro e w5 ⟨rfl, hb5⟩
    obtain ⟨⟨y1, y2⟩, hB5, z5⟩ := boxes1 hb5
    have A5 : ∀ k, w5.cell? ⟨w.heap.size, k, none⟩ = #[Value.slice aw lw cw, .slice ag lg cg, .int .i64 c.start, .int .i64 c.calm, .int .i64 c.idle, .int .i64 c.back][k]? := fun k => ((bcell hB5).1 _ _ z4).trans (A4 k)
    have hBx := bel_trans hB4 hB5
    have zx : w.heap.size < w5.heap.size := Nat.lt_of_lt_of_le z4 hB5.size
    have hcs : w5.cell? ⟨w4.heap.size, 0, none⟩ = some (.slice a5 l5 n5) ∧ w5.cell? ⟨w4.heap.size, 1, none⟩ = some (.slice a6 l6 n6) ∧ w5.cell? ⟨w4.heap.size, 2, none⟩ = some (.int .i64 c.start) ∧ w5.cell? ⟨w4.heap.size, 3, none⟩ = some (.int .i64 c.calm) ∧ w5.cell? ⟨w4.heap.size, 4, none⟩ = some (.int .i64 c.idle) ∧ w5.cell? ⟨w4.heap.size, 5, none⟩ = some (.int .i64 c.back) ∧ w5.cell? ⟨w.heap.size, 0, none⟩ = some (.slice aw lw cw) ∧ w5.cell? ⟨w.heap.size, 1, none⟩ = some (.slice ag lg cg) ∧ w5.cell? ⟨w.heap.size, 2, none⟩ = some (.int .i64 c.start) ∧ w5.cell? ⟨w.heap.size, 3, none⟩ = some (.int .i64 c.calm) ∧ w5.cell? ⟨w.heap.size, 4, none⟩ = some (.int .i64 c.idle) ∧ w5.cell? ⟨w.heap.size, 5, none⟩ = some (.int .i64 c.back) := ⟨y1 0, y1 1, y1 2, y1 3, y1 4, y1 5, A5 0, A5 1, A5 2, A5 3, A5 4, A5 5⟩
    have HV5 := hid (HV4.out.keep hB5)
    have HC5 := hid (HC.out.keep hBx)
    clear A4 hb5 y1 y2 A5
    go_wp2
    have hS0 := start_12 hcs
    go_region_held3 (fun w' => Below w5.heap.size w5 w' ∧ w'.cell? ⟨w4.heap.size, 0, none⟩ = some (.slice a5 l5 n5) ∧ w'.cell? ⟨w4.heap.size, 1, none⟩ = some (.slice a6 l6 n6) ∧ w'.cell? ⟨w4.heap.size, 2, none⟩ = some (.int .i64 c.start) ∧ w'.cell? ⟨w4.heap.size, 3, none⟩ = some (.int .i64 c.calm) ∧ w'.cell? ⟨w4.heap.size, 4, none⟩ = some (.int .i64 c.idle) ∧ w'.cell? ⟨w4.heap.size, 5, none⟩ = some (.int .i64 c.back) ∧ w'.cell? ⟨w.heap.size, 0, none⟩ = some (.slice aw lw cw) ∧ w'.cell? ⟨w.heap.size, 1, none⟩ = some (.slice ag lg cg) ∧ w'.cell? ⟨w.heap.size, 2, none⟩ = some (.int .i64 c.start) ∧ w'.cell? ⟨w.heap.size, 3, none⟩ = some (.int .i64 c.calm) ∧ w'.cell? ⟨w.heap.size, 4, none⟩ = some (.int .i64 c.idle) ∧ w'.cell? ⟨w.heap.size, 5, none⟩ = some (.int .i64 c.back))
      (assumption)
      (first | (go_at_call 10; refine (toCfg_any _ c _ (HC5.out.held (Below.refl _ _) (by assumption))).mono ?_; rintro e w6 ⟨v6, rfl, hv6, hb6⟩; have HV6 := hid hv6; clear hv6; have hS6 := keep_12 z5 z5 z5 z5 z5 z5 zx zx zx zx zx zx hb6 (by assumption)) | (go_at_call 12; refine (eqCfg_same _ _ c _ (HV5.out.held (Below.refl _ _) (by assumption)) HV6.out).mono ?_; rintro e w7 ⟨rfl, hb7⟩; have hS7 := keep_12 z5 z5 z5 z5 z5 z5 zx zx zx zx zx zx hb7 (by assumption)))
    rename_i hh
    have hfin := bel_trans hBx hh.1
    go_wp2
    all_goals go_ret
    all_goals exact ⟨rfl, hfin⟩
end Go.Proofs.YtoceohacplmgnaaDoor
