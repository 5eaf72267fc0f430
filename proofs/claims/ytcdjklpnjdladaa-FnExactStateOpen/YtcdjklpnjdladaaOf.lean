/- The exact law of StateOpen: its walk. -/
import Derived.Test.YtcdjklpnjdladaaOd
import Derived.Test.YtcdjklpnjdladaaOe
import Derived.Test.YtcdjklpnjdladaaGc
import Derived.Test.YtcdjklpnjdladaaLd
import Derived.Test.YtcdjklpnjdladaaKeep
import Derived.Test.YtcdjklpnjdladaaIs
namespace Go.Proofs.Ytcdjklpnjdladaa
open Go.RowKit

/-- What StateOpen tells of what is asked. -/
def openOr (c : Cf) : St := if cfgOk c = true then openS c else ⟨[], [], [], [], 0, 0⟩
theorem openOr_yes {c : Cf} (h : cfgOk c = true) : openOr c = openS c := by unfold openOr; rw [if_pos h]
theorem openOr_no {c : Cf} (h : cfgOk c = false) : openOr c = ⟨[], [], [], [], 0, 0⟩ := by unfold openOr; rw [if_neg (by simp [h])]
theorem stateAt_no (w : World) : StateAt w (.agg #[.slice none 0 0, .slice none 0 0, .slice none 0 0, .slice none 0 0, .int .i64 0, .int .i64 0]) ⟨[], [], [], [], 0, 0⟩ :=
  ⟨_, _, _, _, _, _, _, _, _, _, _, _, rfl, ⟨rfl, by omega, .inl rfl⟩, ⟨rfl, by omega, .inl rfl⟩, ⟨rfl, by omega, .inl rfl⟩, ⟨rfl, by omega, .inl rfl⟩⟩
theorem stateAt_yes {w : World} {c : Cf} {P Q x y k j B1 B2 : Nat} (h1 : x = c.works.length) (h2 : y = c.groups.length) (h3 : x ≤ 3) (h4 : y ≤ 3) (o1 : Owns 3 Ws.cell 62 B1 w (.slice (some ⟨P, 0, none⟩) x k) (openS c).works) (o2 : Owns 3 Gs.cell 86 B2 w (.slice (some ⟨Q, 0, none⟩) y j) (openS c).groups) :
    StateAt w (.agg #[.slice none 0 0, .slice none 0 0, .slice (some ⟨P, 0, none⟩) x k, .slice (some ⟨Q, 0, none⟩) y j, .int .i64 1, .int .i64 1]) (openS c) := by
  refine ⟨_, _, _, _, _, _, _, _, _, _, _, _, rfl, ⟨rfl, by omega, .inl rfl⟩, ⟨rfl, by omega, .inl rfl⟩, ⟨by simp [openS, h1], by omega, ?_⟩, ⟨by simp [openS, h2], by omega, ?_⟩⟩
  · obtain ⟨a, c', hv, hr⟩ := o1.form
    rw [Value.slice.injEq] at hv
    rw [hv.1]
    exact hr
  · obtain ⟨a, c', hv, hr⟩ := o2.form
    rw [Value.slice.injEq] at hv
    rw [hv.1]
    exact hr

set_option maxRecDepth 100000 in
set_option maxHeartbeats 8000000 in
theorem exOpen_no (aw : Option Addr) (lw cw : Nat) (ag : Option Addr) (lg cg : Nat) (c : Cf) (w : World) (hok : cfgOk c = false) (h1 : c.works.length = lw) (h2 : lw ≤ 9223372036854775807) (h3 : WorksAt w aw c.works) (h4 : c.groups.length = lg) (h5 : lg ≤ 9223372036854775807) (h6 : GroupsAt w ag c.groups) :
    Calls Try.prog 3 #[.agg #[.slice aw lw cw, .slice ag lg cg, .int .i64 c.start, .int .i64 c.calm, .int .i64 c.idle, .int .i64 c.back]] w fun e w' => e = .returned (.bool true) ∧ Below w.heap.size w w' := by
  have HA : Hid (lw ≤ 2000000 → lg ≤ 2000000 → CfgAt w (.agg #[.slice aw lw cw, .slice ag lg cg, .int .i64 c.start, .int .i64 c.calm, .int .i64 c.idle, .int .i64 c.back]) c) := fun q1 q2 => ⟨aw, lw, cw, ag, lg, cg, rfl, ⟨h1, q1, h3⟩, ⟨h4, q2, h6⟩⟩
  have H1 := hide h1
  have H4 := hide h4
  have HOK := hide hok
  clear h1 h3 h4 h6 hok
  go_enter Try.func3, Try.ntmps3
  go_wp2_with fail
  refine (szCfg_any _ _ _ _ _ _ _ _ _ _ _ h2 h5).mono ?_
  rintro e w1 ⟨r, rfl, hr, hb⟩
  have hA : Blk w1 w.heap.size #[.slice aw lw cw, .slice ag lg cg, .int .i64 c.start, .int .i64 c.calm, .int .i64 c.idle, .int .i64 c.back] 25 := (Blk.new w _ _).below hb (by simp)
  have hB : Below w.heap.size w w1 := bel_trans (by go_grown) hb
  clear hb
  have X := hA.cell
  by_cases hneg : r < 0
  · go_wp2
    all_goals go_ret
    all_goals exact ⟨rfl, hB⟩
  · obtain ⟨q1, q2⟩ := hr (by omega)
    have HC := hide (HA.out (by omega) (by omega))
    clear hr HA
    have hl1 : c.works.length ≤ 2000000 := by rw [H1.out]; omega
    have hl2 : c.groups.length ≤ 2000000 := by rw [H4.out]; omega
    have HL := hide (⟨hl1, hl2⟩ : _ ∧ _)
    clear hl1 hl2 q1 q2 h2 h5
    go_wp2_with fail
    refine (toCfg_any _ c _ (HC.out.keep hB)).mono ?_
    rintro e w2 ⟨v2, rfl, hv2, hb⟩
    replace hA := hA.below hb hA.lt
    replace hB := bel_trans hB hb
    clear hb X
    have HV2 := hide hv2
    clear hv2
    have X := hA.cell
    go_wp2_with fail
    refine (sOpen_no _ c _ HV2.out HOK.out).mono ?_
    rintro e w3 ⟨v3, rfl, hO, hb⟩
    unfold Opened at hO
    rw [if_neg (by simp [HOK.out])] at hO
    subst hO
    replace hA := hA.below hb hA.lt
    replace hB := bel_trans hB hb
    clear hb X HV2
    have X := hA.cell
    have za := hA.lt
    go_wp2_with fail
    refine (toCfg_own _ c _ (HC.out.keep (bel_trans hB (by go_grown)))).mono ?_
    rintro e w4 ⟨p, q, rfl, hC5, hpq, hp, hq, hr1, hr2, hb⟩
    have hp' : w3.heap.size + 1 ≤ p := by simpa using hp
    have hq' : w3.heap.size + 1 ≤ q := by simpa using hq
    have hT4 : Blk w4 w3.heap.size #[.slice none 0 0, .slice none 0 0, .slice none 0 0, .slice none 0 0, .int .i64 0, .int .i64 0] 32 := (Blk.new w3 _ _).below hb (by simp)
    have hb2 : Below w3.heap.size w3 w4 := bel_trans (by go_grown) hb
    replace hA := hA.below hb2 hA.lt
    replace hB := bel_trans hB hb2
    have C5 := hide hC5
    clear hb hb2 X hp hq hC5
    have hpl := hr1.lt
    have hql := hr2.lt
    have hz4 := hT4.lt
    have X := hA.cell
    have Y := hT4.cell
    go_wp2_with fail
    refine (open_no _ c _ (C5.out.keep (by go_grown)) HOK.out).mono ?_
    rintro e w5 ⟨v5, rfl, hO, hb⟩
    unfold Opened at hO
    rw [if_neg (by simp [HOK.out])] at hO
    subst hO
    have hT5 : Blk w5 w4.heap.size #[.slice (some ⟨p, 0, none⟩) c.works.length c.works.length, .slice (some ⟨q, 0, none⟩) c.groups.length c.groups.length, .int .i64 c.start, .int .i64 c.calm, .int .i64 c.idle, .int .i64 c.back] 37 := (Blk.new w4 _ _).below hb (by simp)
    have hb2 : Below w4.heap.size w4 w5 := bel_trans (by go_grown) hb
    replace hA := hA.below hb2 hA.lt
    replace hT4 := hT4.below hb2 hT4.lt
    replace hB := bel_trans hB hb2
    replace hr1 := hr1.keepB hb2 hpl
    replace hr2 := hr2.keepB hb2 hql
    replace C5 := hide (C5.out.keep hb2)
    clear hb hb2 X Y
    have hz5 := hT5.lt
    have X := hA.cell
    have Y := hT4.cell
    have Z := hT5.cell
    have zy := hT4.lt
    go_wp2_with fail
    refine (eqState_same _ _ (openOr c) _ (by rw [openOr_no HOK.out]; exact stateAt_no _) (by rw [openOr_no HOK.out]; exact stateAt_no _)).mono ?_
    rintro e w6 ⟨rfl, hb⟩
    have hT6 : Blk w6 w5.heap.size #[.slice none 0 0, .slice none 0 0, .slice none 0 0, .slice none 0 0, .int .i64 0, .int .i64 0] 32 := (Blk.new w5 _ _).below hb (by simp)
    have hb2 : Below w5.heap.size w5 w6 := bel_trans (by go_grown) hb
    replace hA := hA.below hb2 hA.lt
    replace hT4 := hT4.below hb2 hT4.lt
    replace hT5 := hT5.below hb2 hT5.lt
    replace hB := bel_trans hB hb2
    have hr1l := hr1.lt
    have hr2l := hr2.lt
    replace hr1 := hr1.keepB hb2 hr1l
    replace hr2 := hr2.keepB hb2 hr2l
    replace C5 := hide (C5.out.keep hb2)
    clear hb hb2 X Y Z
    have X := hA.cell
    have Z := hT5.cell
    have zx := hA.lt
    have zz := hT5.lt
    have hcs : w6.cell? ⟨w.heap.size, 0, none⟩ = some (.slice aw lw cw) ∧ w6.cell? ⟨w.heap.size, 1, none⟩ = some (.slice ag lg cg) ∧ w6.cell? ⟨w.heap.size, 2, none⟩ = some (.int .i64 c.start) ∧ w6.cell? ⟨w.heap.size, 3, none⟩ = some (.int .i64 c.calm) ∧ w6.cell? ⟨w.heap.size, 4, none⟩ = some (.int .i64 c.idle) ∧ w6.cell? ⟨w.heap.size, 5, none⟩ = some (.int .i64 c.back) ∧ w6.cell? ⟨w4.heap.size, 0, none⟩ = some (.slice (some ⟨p, 0, none⟩) c.works.length c.works.length) ∧ w6.cell? ⟨w4.heap.size, 1, none⟩ = some (.slice (some ⟨q, 0, none⟩) c.groups.length c.groups.length) ∧ w6.cell? ⟨w4.heap.size, 2, none⟩ = some (.int .i64 c.start) ∧ w6.cell? ⟨w4.heap.size, 3, none⟩ = some (.int .i64 c.calm) ∧ w6.cell? ⟨w4.heap.size, 4, none⟩ = some (.int .i64 c.idle) ∧ w6.cell? ⟨w4.heap.size, 5, none⟩ = some (.int .i64 c.back) := ⟨X 0, X 1, X 2, X 3, X 4, X 5, Z 0, Z 1, Z 2, Z 3, Z 4, Z 5⟩
    have HB6 := hide hB
    clear hB
    go_wp2
    have hS0 := start_12 hcs
    go_region_held3 (fun w' => Below w6.heap.size w6 w' ∧ w'.cell? ⟨w.heap.size, 0, none⟩ = some (.slice aw lw cw) ∧ w'.cell? ⟨w.heap.size, 1, none⟩ = some (.slice ag lg cg) ∧ w'.cell? ⟨w.heap.size, 2, none⟩ = some (.int .i64 c.start) ∧ w'.cell? ⟨w.heap.size, 3, none⟩ = some (.int .i64 c.calm) ∧ w'.cell? ⟨w.heap.size, 4, none⟩ = some (.int .i64 c.idle) ∧ w'.cell? ⟨w.heap.size, 5, none⟩ = some (.int .i64 c.back) ∧ w'.cell? ⟨w4.heap.size, 0, none⟩ = some (.slice (some ⟨p, 0, none⟩) c.works.length c.works.length) ∧ w'.cell? ⟨w4.heap.size, 1, none⟩ = some (.slice (some ⟨q, 0, none⟩) c.groups.length c.groups.length) ∧ w'.cell? ⟨w4.heap.size, 2, none⟩ = some (.int .i64 c.start) ∧ w'.cell? ⟨w4.heap.size, 3, none⟩ = some (.int .i64 c.calm) ∧ w'.cell? ⟨w4.heap.size, 4, none⟩ = some (.int .i64 c.idle) ∧ w'.cell? ⟨w4.heap.size, 5, none⟩ = some (.int .i64 c.back))
      (assumption)
      (first | (go_at_call 8; refine (toCfg_any _ c _ (HC.out.held HB6.out (by assumption))).mono ?_; rintro e w7 ⟨v7, rfl, hv7, hb7⟩; have HV7 := hide hv7; clear hv7; have hS7 := keep_12 zx zx zx zx zx zx zz zz zz zz zz zz hb7 (by assumption)) | (go_at_call 11; refine (eqCfg_same _ _ c _ (C5.out.held (Below.refl _ _) (by assumption)) HV7.out).mono ?_; rintro e w8 ⟨rfl, hb8⟩; have hS8 := keep_12 zx zx zx zx zx zx zz zz zz zz zz zz hb8 (by assumption)))
    rename_i hh
    have hb2 := hh.1
    replace hA := hA.below hb2 hA.lt
    replace hT4 := hT4.below hb2 hT4.lt
    replace hT5 := hT5.below hb2 hT5.lt
    replace hT6 := hT6.below hb2 hT6.lt
    have hB := bel_trans HB6.out hb2
    have hr1l := hr1.lt
    have hr2l := hr2.lt
    replace hr1 := hr1.keepB hb2 hr1l
    replace hr2 := hr2.keepB hb2 hr2l
    clear hh hcs hS0 hS7 hS8 hb7 hb8 HV7 X Z hb2 HB6 C5
    obtain ⟨xs5, hx5⟩ := hr1
    obtain ⟨ys5, hy5⟩ := hr2
    have X5 := hide hx5
    have Y5 := hide hy5
    clear hx5 hy5
    have Z := hT5.cell
    go_wp2_with fail
    refine (markCfg_any p q _ _ _ _ p q xs5 ys5 _ _ _ _ _ hpq HL.out.1 HL.out.2 X5.out Y5.out).mono ?_
    rintro e w9 ⟨r9, rfl, hr9, hb⟩
    replace hA := hA.only hb (by omega)
    replace hT4 := hT4.only hb (by omega)
    replace hT5 := hT5.only hb (by omega)
    replace hT6 := hT6.only hb (by omega)
    replace hB : Below w.heap.size w w9 := hB.trans (hb.below (fun k hk => ⟨by have := hB.size; omega, by omega⟩))
    clear hb Z X5 Y5
    have hr9' : ¬ r9 < 0 := by omega
    have Y := hT4.cell
    have U := hT6.cell
    go_wp2_with fail
    refine (eqState_same _ _ (openOr c) _ (by rw [openOr_no HOK.out]; exact stateAt_no _) (by rw [openOr_no HOK.out]; exact stateAt_no _)).mono ?_
    rintro e w10 ⟨rfl, hb⟩
    replace hA := hA.below hb hA.lt
    replace hT4 := hT4.below hb hT4.lt
    replace hT6 := hT6.below hb hT6.lt
    replace hB := bel_trans hB hb
    clear hb Y U hT5
    have U := hT6.cell
    go_wp2_with fail
    refine (markState_no _).mono ?_
    rintro e w11 ⟨rfl, hb⟩
    replace hA := hA.below hb hA.lt
    replace hT4 := hT4.below hb hT4.lt
    replace hT6 := hT6.below hb hT6.lt
    replace hB := bel_trans hB hb
    clear hb U
    have U := hT6.cell
    go_wp2_with fail
    refine (heldState_no _).mono ?_
    rintro e w12 ⟨rfl, hb⟩
    replace hA := hA.below hb hA.lt
    replace hT4 := hT4.below hb hT4.lt
    replace hT6 := hT6.below hb hT6.lt
    replace hB := bel_trans hB hb
    clear hb U
    have X := hA.cell
    have Y := hT4.cell
    have U := hT6.cell
    go_wp2_with fail
    refine (toCfg_any _ c _ (HC.out.keep hB)).mono ?_
    rintro e w13 ⟨v13, rfl, hv13, hb⟩
    replace hA := hA.below hb hA.lt
    replace hT4 := hT4.below hb hT4.lt
    replace hT6 := hT6.below hb hT6.lt
    replace hB := bel_trans hB hb
    have HV13 := hide hv13
    clear hb X Y U hv13
    have Y := hT4.cell
    have U := hT6.cell
    go_wp2_with fail
    refine (open_no _ c _ HV13.out HOK.out).mono ?_
    rintro e w14 ⟨v14, rfl, hO, hb⟩
    unfold Opened at hO
    rw [if_neg (by simp [HOK.out])] at hO
    subst hO
    replace hA := hA.below hb hA.lt
    replace hT4 := hT4.below hb hT4.lt
    replace hT6 := hT6.below hb hT6.lt
    replace hB := bel_trans hB hb
    clear hb Y U HV13
    have Y := hT4.cell
    have U := hT6.cell
    have zy := hT4.lt
    have zu := hT6.lt
    go_wp2_with fail
    refine (eqState_same _ _ (openOr c) _ (by rw [openOr_no HOK.out]; exact stateAt_no _) (by rw [openOr_no HOK.out]; exact stateAt_no _)).mono ?_
    rintro e w15 ⟨rfl, hb⟩
    have hb2 : Below w14.heap.size w14 w15 := bel_trans (by go_grown) hb
    replace hT6 := hT6.below hb2 hT6.lt
    replace hB := bel_trans hB hb2
    clear hb Y U hb2
    have U := hT6.cell
    go_wp2_with fail
    refine (heldState_no _).mono ?_
    rintro e w16 ⟨rfl, hb⟩
    replace hB := bel_trans hB hb
    clear U
    go_wp2
    all_goals go_ret
    all_goals exact ⟨rfl, hB⟩

set_option maxRecDepth 100000 in
set_option maxHeartbeats 8000000 in
theorem exOpen_yes (aw : Option Addr) (lw cw : Nat) (ag : Option Addr) (lg cg : Nat) (c : Cf) (w : World) (hok : cfgOk c = true) (h1 : c.works.length = lw) (h2 : lw ≤ 9223372036854775807) (h3 : WorksAt w aw c.works) (h4 : c.groups.length = lg) (h5 : lg ≤ 9223372036854775807) (h6 : GroupsAt w ag c.groups) :
    Calls Try.prog 3 #[.agg #[.slice aw lw cw, .slice ag lg cg, .int .i64 c.start, .int .i64 c.calm, .int .i64 c.idle, .int .i64 c.back]] w fun e w' => e = .returned (.bool true) ∧ Below w.heap.size w w' := by
  have HA : Hid (lw ≤ 2000000 → lg ≤ 2000000 → CfgAt w (.agg #[.slice aw lw cw, .slice ag lg cg, .int .i64 c.start, .int .i64 c.calm, .int .i64 c.idle, .int .i64 c.back]) c) := fun q1 q2 => ⟨aw, lw, cw, ag, lg, cg, rfl, ⟨h1, q1, h3⟩, ⟨h4, q2, h6⟩⟩
  have H1 := hide h1
  have H4 := hide h4
  have HOK := hide hok
  clear h1 h3 h4 h6 hok
  go_enter Try.func3, Try.ntmps3
  go_wp2_with fail
  refine (szCfg_any _ _ _ _ _ _ _ _ _ _ _ h2 h5).mono ?_
  rintro e w1 ⟨r, rfl, hr, hb⟩
  have hA : Blk w1 w.heap.size #[.slice aw lw cw, .slice ag lg cg, .int .i64 c.start, .int .i64 c.calm, .int .i64 c.idle, .int .i64 c.back] 25 := (Blk.new w _ _).below hb (by simp)
  have hB : Below w.heap.size w w1 := bel_trans (by go_grown) hb
  clear hb
  have X := hA.cell
  by_cases hneg : r < 0
  · go_wp2
    all_goals go_ret
    all_goals exact ⟨rfl, hB⟩
  · obtain ⟨q1, q2⟩ := hr (by omega)
    have HC := hide (HA.out (by omega) (by omega))
    clear hr HA
    have hl1 : c.works.length ≤ 2000000 := by rw [H1.out]; omega
    have hl2 : c.groups.length ≤ 2000000 := by rw [H4.out]; omega
    have HL := hide (⟨hl1, hl2⟩ : _ ∧ _)
    clear hl1 hl2 q1 q2 h2 h5
    go_wp2_with fail
    refine (toCfg_any _ c _ (HC.out.keep hB)).mono ?_
    rintro e w2 ⟨v2, rfl, hv2, hb⟩
    replace hA := hA.below hb hA.lt
    replace hB := bel_trans hB hb
    clear hb X
    have HV2 := hide hv2
    clear hv2
    have X := hA.cell
    go_wp2_with fail
    refine (sOpen_yes _ c _ HV2.out HOK.out).mono ?_
    rintro e w3 ⟨v3, rfl, hO, hb⟩
    unfold Opened at hO
    rw [if_pos (by exact HOK.out)] at hO
    obtain ⟨P1, Q1, x1, y1, k1, j1, rfl, hn1, hx1, hy1, o1, u1⟩ := hO
    replace hA := hA.below hb hA.lt
    replace hB := bel_trans hB hb
    clear hb X HV2
    have hw3 : x1 ≤ 3 := by rw [hx1]; exact (ok_of_works HOK.out).2.2
    have hg3 : y1 ≤ 3 := by rw [hy1]; exact (ok_of_groups HOK.out).2.2
    have hP1 := (o1.lt P1 rfl).2
    have hQ1 := (u1.lt Q1 rfl).2
    have O1 := hide o1
    have U1 := hide u1
    have HX1 := hide hx1
    have HY1 := hide hy1
    clear o1 u1 hx1 hy1
    have X := hA.cell
    have za := hA.lt
    go_wp2_with fail
    refine (toCfg_own _ c _ (HC.out.keep (bel_trans hB (by go_grown)))).mono ?_
    rintro e w4 ⟨p, q, rfl, hC5, hpq, hp, hq, hr1, hr2, hb⟩
    have hp' : w3.heap.size + 1 ≤ p := by simpa using hp
    have hq' : w3.heap.size + 1 ≤ q := by simpa using hq
    have hT4 : Blk w4 w3.heap.size #[.slice none 0 0, .slice none 0 0, .slice (some ⟨P1, 0, none⟩) x1 k1, .slice (some ⟨Q1, 0, none⟩) y1 j1, .int .i64 1, .int .i64 1] 32 := (Blk.new w3 _ _).below hb (by simp)
    have hb2 : Below w3.heap.size w3 w4 := bel_trans (by go_grown) hb
    replace hA := hA.below hb2 hA.lt
    replace hB := bel_trans hB hb2
    replace O1 := hide (O1.out.keep hb2)
    replace U1 := hide (U1.out.keep hb2)
    have C5 := hide hC5
    clear hb hb2 X hp hq hC5
    have hpl := hr1.lt
    have hql := hr2.lt
    have hz4 := hT4.lt
    have X := hA.cell
    have Y := hT4.cell
    go_wp2_with fail
    refine (open_yes _ c _ (C5.out.keep (by go_grown)) HOK.out).mono ?_
    rintro e w5 ⟨v5, rfl, hO, hb⟩
    unfold Opened at hO
    rw [if_pos (by exact HOK.out)] at hO
    obtain ⟨P2, Q2, x2, y2, k2, j2, rfl, hn2, hx2, hy2, o2, u2⟩ := hO
    have hT5 : Blk w5 w4.heap.size #[.slice (some ⟨p, 0, none⟩) c.works.length c.works.length, .slice (some ⟨q, 0, none⟩) c.groups.length c.groups.length, .int .i64 c.start, .int .i64 c.calm, .int .i64 c.idle, .int .i64 c.back] 37 := (Blk.new w4 _ _).below hb (by simp)
    have hb2 : Below w4.heap.size w4 w5 := bel_trans (by go_grown) hb
    replace hA := hA.below hb2 hA.lt
    replace hT4 := hT4.below hb2 hT4.lt
    replace hB := bel_trans hB hb2
    replace hr1 := hr1.keepB hb2 hpl
    replace hr2 := hr2.keepB hb2 hql
    replace O1 := hide (O1.out.keep hb2)
    replace U1 := hide (U1.out.keep hb2)
    have hw32 : x2 ≤ 3 := by rw [hx2]; exact (ok_of_works HOK.out).2.2
    have hg32 : y2 ≤ 3 := by rw [hy2]; exact (ok_of_groups HOK.out).2.2
    have hP2 : w4.heap.size + 1 ≤ P2 ∧ P2 < w5.heap.size := by simpa using o2.lt P2 rfl
    have hQ2 : w4.heap.size + 1 ≤ Q2 ∧ Q2 < w5.heap.size := by simpa using u2.lt Q2 rfl
    have O2 := hide o2
    have U2 := hide u2
    have HX2 := hide hx2
    have HY2 := hide hy2
    clear o2 u2 hx2 hy2
    replace C5 := hide (C5.out.keep hb2)
    clear hb hb2 X Y
    have hz5 := hT5.lt
    have X := hA.cell
    have Y := hT4.cell
    have Z := hT5.cell
    have zy := hT4.lt
    go_wp2_with fail
    refine (eqState_same _ _ (openOr c) _ (by rw [openOr_yes HOK.out]; exact stateAt_yes HX2.out HY2.out (by omega) (by omega) (O2.out.alloc _) (U2.out.alloc _)) (by rw [openOr_yes HOK.out]; exact stateAt_yes HX1.out HY1.out (by omega) (by omega) (O1.out.alloc _) (U1.out.alloc _))).mono ?_
    rintro e w6 ⟨rfl, hb⟩
    have hT6 : Blk w6 w5.heap.size #[.slice none 0 0, .slice none 0 0, .slice (some ⟨P2, 0, none⟩) x2 k2, .slice (some ⟨Q2, 0, none⟩) y2 j2, .int .i64 1, .int .i64 1] 32 := (Blk.new w5 _ _).below hb (by simp)
    have hb2 : Below w5.heap.size w5 w6 := bel_trans (by go_grown) hb
    replace hA := hA.below hb2 hA.lt
    replace hT4 := hT4.below hb2 hT4.lt
    replace hT5 := hT5.below hb2 hT5.lt
    replace hB := bel_trans hB hb2
    have hr1l := hr1.lt
    have hr2l := hr2.lt
    replace hr1 := hr1.keepB hb2 hr1l
    replace hr2 := hr2.keepB hb2 hr2l
    replace O1 := hide (O1.out.keep hb2)
    replace U1 := hide (U1.out.keep hb2)
    replace O2 := hide (O2.out.keep hb2)
    replace U2 := hide (U2.out.keep hb2)
    replace C5 := hide (C5.out.keep hb2)
    clear hb hb2 X Y Z
    have X := hA.cell
    have Z := hT5.cell
    have zx := hA.lt
    have zz := hT5.lt
    have hcs : w6.cell? ⟨w.heap.size, 0, none⟩ = some (.slice aw lw cw) ∧ w6.cell? ⟨w.heap.size, 1, none⟩ = some (.slice ag lg cg) ∧ w6.cell? ⟨w.heap.size, 2, none⟩ = some (.int .i64 c.start) ∧ w6.cell? ⟨w.heap.size, 3, none⟩ = some (.int .i64 c.calm) ∧ w6.cell? ⟨w.heap.size, 4, none⟩ = some (.int .i64 c.idle) ∧ w6.cell? ⟨w.heap.size, 5, none⟩ = some (.int .i64 c.back) ∧ w6.cell? ⟨w4.heap.size, 0, none⟩ = some (.slice (some ⟨p, 0, none⟩) c.works.length c.works.length) ∧ w6.cell? ⟨w4.heap.size, 1, none⟩ = some (.slice (some ⟨q, 0, none⟩) c.groups.length c.groups.length) ∧ w6.cell? ⟨w4.heap.size, 2, none⟩ = some (.int .i64 c.start) ∧ w6.cell? ⟨w4.heap.size, 3, none⟩ = some (.int .i64 c.calm) ∧ w6.cell? ⟨w4.heap.size, 4, none⟩ = some (.int .i64 c.idle) ∧ w6.cell? ⟨w4.heap.size, 5, none⟩ = some (.int .i64 c.back) := ⟨X 0, X 1, X 2, X 3, X 4, X 5, Z 0, Z 1, Z 2, Z 3, Z 4, Z 5⟩
    have HB6 := hide hB
    clear hB
    go_wp2
    have hS0 := start_12 hcs
    go_region_held3 (fun w' => Below w6.heap.size w6 w' ∧ w'.cell? ⟨w.heap.size, 0, none⟩ = some (.slice aw lw cw) ∧ w'.cell? ⟨w.heap.size, 1, none⟩ = some (.slice ag lg cg) ∧ w'.cell? ⟨w.heap.size, 2, none⟩ = some (.int .i64 c.start) ∧ w'.cell? ⟨w.heap.size, 3, none⟩ = some (.int .i64 c.calm) ∧ w'.cell? ⟨w.heap.size, 4, none⟩ = some (.int .i64 c.idle) ∧ w'.cell? ⟨w.heap.size, 5, none⟩ = some (.int .i64 c.back) ∧ w'.cell? ⟨w4.heap.size, 0, none⟩ = some (.slice (some ⟨p, 0, none⟩) c.works.length c.works.length) ∧ w'.cell? ⟨w4.heap.size, 1, none⟩ = some (.slice (some ⟨q, 0, none⟩) c.groups.length c.groups.length) ∧ w'.cell? ⟨w4.heap.size, 2, none⟩ = some (.int .i64 c.start) ∧ w'.cell? ⟨w4.heap.size, 3, none⟩ = some (.int .i64 c.calm) ∧ w'.cell? ⟨w4.heap.size, 4, none⟩ = some (.int .i64 c.idle) ∧ w'.cell? ⟨w4.heap.size, 5, none⟩ = some (.int .i64 c.back))
      (assumption)
      (first | (go_at_call 8; refine (toCfg_any _ c _ (HC.out.held HB6.out (by assumption))).mono ?_; rintro e w7 ⟨v7, rfl, hv7, hb7⟩; have HV7 := hide hv7; clear hv7; have hS7 := keep_12 zx zx zx zx zx zx zz zz zz zz zz zz hb7 (by assumption)) | (go_at_call 11; refine (eqCfg_same _ _ c _ (C5.out.held (Below.refl _ _) (by assumption)) HV7.out).mono ?_; rintro e w8 ⟨rfl, hb8⟩; have hS8 := keep_12 zx zx zx zx zx zx zz zz zz zz zz zz hb8 (by assumption)))
    rename_i hh
    have hb2 := hh.1
    replace hA := hA.below hb2 hA.lt
    replace hT4 := hT4.below hb2 hT4.lt
    replace hT5 := hT5.below hb2 hT5.lt
    replace hT6 := hT6.below hb2 hT6.lt
    have hB := bel_trans HB6.out hb2
    have hr1l := hr1.lt
    have hr2l := hr2.lt
    replace hr1 := hr1.keepB hb2 hr1l
    replace hr2 := hr2.keepB hb2 hr2l
    replace O1 := hide (O1.out.keep hb2)
    replace U1 := hide (U1.out.keep hb2)
    replace O2 := hide (O2.out.keep hb2)
    replace U2 := hide (U2.out.keep hb2)
    clear hh hcs hS0 hS7 hS8 hb7 hb8 HV7 X Z hb2 HB6 C5
    obtain ⟨xs5, hx5⟩ := hr1
    obtain ⟨ys5, hy5⟩ := hr2
    have X5 := hide hx5
    have Y5 := hide hy5
    clear hx5 hy5
    have Z := hT5.cell
    go_wp2_with fail
    refine (markCfg_any p q _ _ _ _ p q xs5 ys5 _ _ _ _ _ hpq HL.out.1 HL.out.2 X5.out Y5.out).mono ?_
    rintro e w9 ⟨r9, rfl, hr9, hb⟩
    replace hA := hA.only hb (by omega)
    replace hT4 := hT4.only hb (by omega)
    replace hT5 := hT5.only hb (by omega)
    replace hT6 := hT6.only hb (by omega)
    replace hB : Below w.heap.size w w9 := hB.trans (hb.below (fun k hk => ⟨by have := hB.size; omega, by omega⟩))
    replace O1 := hide (O1.out.only hb (fun k hk => by simp [Value.ownBlock] at hk; omega))
    replace U1 := hide (U1.out.only hb (fun k hk => by simp [Value.ownBlock] at hk; omega))
    replace O2 := hide (O2.out.only hb (fun k hk => by simp [Value.ownBlock] at hk; omega))
    replace U2 := hide (U2.out.only hb (fun k hk => by simp [Value.ownBlock] at hk; omega))
    clear hb Z X5 Y5
    have hr9' : ¬ r9 < 0 := by omega
    have Y := hT4.cell
    have U := hT6.cell
    go_wp2_with fail
    refine (eqState_same _ _ (openOr c) _ (by rw [openOr_yes HOK.out]; exact stateAt_yes HX2.out HY2.out (by omega) (by omega) (O2.out) (U2.out)) (by rw [openOr_yes HOK.out]; exact stateAt_yes HX1.out HY1.out (by omega) (by omega) (O1.out) (U1.out))).mono ?_
    rintro e w10 ⟨rfl, hb⟩
    replace hA := hA.below hb hA.lt
    replace hT4 := hT4.below hb hT4.lt
    replace hT6 := hT6.below hb hT6.lt
    replace hB := bel_trans hB hb
    replace O1 := hide (O1.out.keep hb)
    replace U1 := hide (U1.out.keep hb)
    replace O2 := hide (O2.out.keep hb)
    replace U2 := hide (U2.out.keep hb)
    clear hb Y U hT5
    have U := hT6.cell
    go_wp2_with fail
    refine (markState_yes P2 Q2 x2 y2 k2 j2 _ _ _ _ _ hn2 (by omega) (by omega) (by simp [openS, HX2.out]) (by simp [openS, HY2.out]) O2.out U2.out).mono ?_
    rintro e w11 ⟨rfl, hb, o2, u2⟩
    replace hA := hA.only hb (by omega)
    replace hT4 := hT4.only hb (by omega)
    replace hT6 := hT6.only hb (by omega)
    replace hB : Below w.heap.size w w11 := hB.trans (hb.below (fun k hk => ⟨by have := hB.size; omega, by omega⟩))
    replace O1 := hide (O1.out.only hb (fun k hk => by simp [Value.ownBlock] at hk; omega))
    replace U1 := hide (U1.out.only hb (fun k hk => by simp [Value.ownBlock] at hk; omega))
    have O3 := hide o2
    have U3 := hide u2
    clear hb U o2 u2 O2 U2
    have U := hT6.cell
    go_wp2_with fail
    refine (heldState_yes P2 Q2 x2 y2 k2 j2 _ _ _ (by omega) (by omega) O3.out U3.out).mono ?_
    rintro e w12 ⟨rfl, hb⟩
    replace hA := hA.below hb hA.lt
    replace hT4 := hT4.below hb hT4.lt
    replace hT6 := hT6.below hb hT6.lt
    replace hB := bel_trans hB hb
    replace O1 := hide (O1.out.keep hb)
    replace U1 := hide (U1.out.keep hb)
    replace O3 := hide (O3.out.keep hb)
    replace U3 := hide (U3.out.keep hb)
    clear hb U
    have hmn : ¬ (1 + 3 * (x2 : Int) + 3 * (y2 : Int) < 0) := by omega
    have X := hA.cell
    have Y := hT4.cell
    have U := hT6.cell
    go_wp2_with fail
    refine (toCfg_any _ c _ (HC.out.keep hB)).mono ?_
    rintro e w13 ⟨v13, rfl, hv13, hb⟩
    replace hA := hA.below hb hA.lt
    replace hT4 := hT4.below hb hT4.lt
    replace hT6 := hT6.below hb hT6.lt
    replace hB := bel_trans hB hb
    replace O1 := hide (O1.out.keep hb)
    replace U1 := hide (U1.out.keep hb)
    replace O3 := hide (O3.out.keep hb)
    replace U3 := hide (U3.out.keep hb)
    have HV13 := hide hv13
    clear hb X Y U hv13
    have Y := hT4.cell
    have U := hT6.cell
    go_wp2_with fail
    refine (open_yes _ c _ HV13.out HOK.out).mono ?_
    rintro e w14 ⟨v14, rfl, hO, hb⟩
    unfold Opened at hO
    rw [if_pos (by exact HOK.out)] at hO
    obtain ⟨P3, Q3, x3, y3, k3, j3, rfl, hn3, hx3, hy3, o3, u3⟩ := hO
    have O5 := hide o3
    have U5 := hide u3
    have HX3 := hide hx3
    have HY3 := hide hy3
    clear o3 u3 hx3 hy3
    replace hA := hA.below hb hA.lt
    replace hT4 := hT4.below hb hT4.lt
    replace hT6 := hT6.below hb hT6.lt
    replace hB := bel_trans hB hb
    replace O1 := hide (O1.out.keep hb)
    replace U1 := hide (U1.out.keep hb)
    replace O3 := hide (O3.out.keep hb)
    replace U3 := hide (U3.out.keep hb)
    clear hb Y U HV13
    have Y := hT4.cell
    have U := hT6.cell
    have zy := hT4.lt
    have zu := hT6.lt
    go_wp2_with fail
    refine (eqState_same _ _ (openOr c) _ (by rw [openOr_yes HOK.out]; exact stateAt_yes HX3.out HY3.out (by rw [HX3.out]; exact (ok_of_works HOK.out).2.2) (by rw [HY3.out]; exact (ok_of_groups HOK.out).2.2) (O5.out.alloc _) (U5.out.alloc _)) (by rw [openOr_yes HOK.out]; exact stateAt_yes HX1.out HY1.out (by omega) (by omega) (O1.out.alloc _) (U1.out.alloc _))).mono ?_
    rintro e w15 ⟨rfl, hb⟩
    have hb2 : Below w14.heap.size w14 w15 := bel_trans (by go_grown) hb
    replace hT6 := hT6.below hb2 hT6.lt
    replace hB := bel_trans hB hb2
    replace O3 := hide (O3.out.keep hb2)
    replace U3 := hide (U3.out.keep hb2)
    clear hb Y U hb2
    have U := hT6.cell
    go_wp2_with fail
    refine (heldState_yes P2 Q2 x2 y2 k2 j2 _ _ _ (by omega) (by omega) O3.out U3.out).mono ?_
    rintro e w16 ⟨rfl, hb⟩
    replace hB := bel_trans hB hb
    clear U
    go_wp2
    all_goals go_ret
    all_goals exact ⟨rfl, hB⟩

end Go.Proofs.Ytcdjklpnjdladaa
