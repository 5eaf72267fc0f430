/- The exact law of RestSame: its walk. -/
import Derived.Test.YtifijknogofklaaGc
import Derived.Test.YtifijknogofklaaRg
import Derived.Test.YtifijknogofklaaRh
import Derived.Test.YtifijknogofklaaIs
import Derived.Test.YtifijknogofklaaKeep
namespace Go.Proofs.Ytifijknogofklaa
open Go.RowKit

theorem StateAt.held {w W w' : World} {v : Value} {c : St} {R : Prop} (h : StateAt w v c) (hW : Below w.heap.size w W) (hS : Below W.heap.size W w' ∧ R) : StateAt w' v c := h.keep (bel_trans hW hS.1)

set_option maxRecDepth 100000 in
set_option maxHeartbeats 4000000 in
theorem exRestSame (v v' : Value) (s s' : St) (w : World) (h : StateIn w v s) (h' : StateIn w v' s') :
    Calls Try.prog 6 #[v, v'] w fun e w' => e = .returned (.bool true) ∧ Below w.heap.size w w' := by
  obtain ⟨a1, l1, c1, a2, l2, c2, a3, l3, c3, a4, l4, c4, rfl, ⟨e1, m1, h1⟩, ⟨e2, m2, h2⟩, ⟨e3, m3, h3⟩, ⟨e4, m4, h4⟩, _⟩ := h
  obtain ⟨a1', l1', c1', a2', l2', c2', a3', l3', c3', a4', l4', c4', rfl, ⟨e1', m1', h1'⟩, ⟨e2', m2', h2'⟩, ⟨e3', m3', h3'⟩, ⟨e4', m4', h4'⟩, _⟩ := h'
  have HA : Hid (l1 ≤ 2000000 → l2 ≤ 2000000 → l3 ≤ 2000000 → l4 ≤ 2000000 → StateAt w (.agg #[.slice a1 l1 c1, .slice a2 l2 c2, .slice a3 l3 c3, .slice a4 l4 c4, .int .i64 s.nextPod, .int .i64 s.nextNode]) s) := fun q1 q2 q3 q4 => ⟨_, _, _, _, _, _, _, _, _, _, _, _, rfl, ⟨e1, q1, h1⟩, ⟨e2, q2, h2⟩, ⟨e3, q3, h3⟩, ⟨e4, q4, h4⟩⟩
  have HB : Hid (l1' ≤ 2000000 → l2' ≤ 2000000 → l3' ≤ 2000000 → l4' ≤ 2000000 → StateAt w (.agg #[.slice a1' l1' c1', .slice a2' l2' c2', .slice a3' l3' c3', .slice a4' l4' c4', .int .i64 s'.nextPod, .int .i64 s'.nextNode]) s') := fun q1 q2 q3 q4 => ⟨_, _, _, _, _, _, _, _, _, _, _, _, rfl, ⟨e1', q1, h1'⟩, ⟨e2', q2, h2'⟩, ⟨e3', q3, h3'⟩, ⟨e4', q4, h4'⟩⟩
  clear e1 e2 e3 e4 h1 h2 h3 h4 e1' e2' e3' e4' h1' h2' h3' h4'
  go_enter Try.func6, Try.ntmps6
  go_wp2_with fail
  refine (szState_any _ _ _ _ _ _ _ _ _ _ _ _ _ _ _ _ m1 m2 m3 m4 (by omega) (by omega)).mono ?_
  rintro e w1 ⟨r, rfl, hr, hb⟩
  have hX : Blk w1 w.heap.size #[.slice a1 l1 c1, .slice a2 l2 c2, .slice a3 l3 c3, .slice a4 l4 c4, .int .i64 s.nextPod, .int .i64 s.nextNode] 50 := ((Blk.new w _ _).alloc _).below hb (by simp; omega)
  have hY : Blk w1 (w.heap.size + 1) #[.slice a1' l1' c1', .slice a2' l2' c2', .slice a3' l3' c3', .slice a4' l4' c4', .int .i64 s'.nextPod, .int .i64 s'.nextNode] 50 := (by simpa using Blk.new (w.alloc _) _ _ : Blk _ (w.heap.size + 1) #[.slice a1' l1' c1', .slice a2' l2' c2', .slice a3' l3' c3', .slice a4' l4' c4', .int .i64 s'.nextPod, .int .i64 s'.nextNode] 50).below hb (by simp)
  have hB1 : Below w.heap.size w w1 := bel_trans (by go_grown) hb
  clear hb
  have X := hX.cell
  have Y := hY.cell
  by_cases hneg : r < 0
  · go_wp2
    all_goals go_ret
    all_goals exact ⟨rfl, hB1⟩
  · obtain ⟨r1, q1, q2, q3, q4⟩ := hr (by omega)
    have HC := hide (HA.out (by omega) (by omega) (by omega) (by omega))
    clear hr HA q1 q2 q3 q4
    go_wp2_with fail
    refine (szState_any _ _ _ _ _ _ _ _ _ _ _ _ _ _ _ _ m1' m2' m3' m4' (by omega) (by omega)).mono ?_
    rintro e w2 ⟨t, rfl, hr, hb⟩
    have hB2 := bel_trans hB1 hb
    clear X Y
    replace hX := hX.below hb hX.lt
    replace hY := hY.below hb hY.lt
    clear hb
    have X := hX.cell
    have Y := hY.cell
    by_cases hneg2 : t < 0
    · go_wp2
      all_goals go_ret
      all_goals exact ⟨rfl, hB2⟩
    · obtain ⟨_, q1, q2, q3, q4⟩ := hr (by omega)
      have HD := hide (HB.out (by omega) (by omega) (by omega) (by omega))
      clear hr HB q1 q2 q3 q4 m1 m2 m3 m4 m1' m2' m3' m4' r1
      have zx := hX.lt
      have zy := hY.lt
      have hcs : w2.cell? ⟨w.heap.size, 0, none⟩ = some (.slice a1 l1 c1) ∧ w2.cell? ⟨w.heap.size, 1, none⟩ = some (.slice a2 l2 c2) ∧ w2.cell? ⟨w.heap.size, 2, none⟩ = some (.slice a3 l3 c3) ∧ w2.cell? ⟨w.heap.size, 3, none⟩ = some (.slice a4 l4 c4) ∧ w2.cell? ⟨w.heap.size, 4, none⟩ = some (.int .i64 s.nextPod) ∧ w2.cell? ⟨w.heap.size, 5, none⟩ = some (.int .i64 s.nextNode) ∧ w2.cell? ⟨w.heap.size + 1, 0, none⟩ = some (.slice a1' l1' c1') ∧ w2.cell? ⟨w.heap.size + 1, 1, none⟩ = some (.slice a2' l2' c2') ∧ w2.cell? ⟨w.heap.size + 1, 2, none⟩ = some (.slice a3' l3' c3') ∧ w2.cell? ⟨w.heap.size + 1, 3, none⟩ = some (.slice a4' l4' c4') ∧ w2.cell? ⟨w.heap.size + 1, 4, none⟩ = some (.int .i64 s'.nextPod) ∧ w2.cell? ⟨w.heap.size + 1, 5, none⟩ = some (.int .i64 s'.nextNode) := ⟨X 0, X 1, X 2, X 3, X 4, X 5, Y 0, Y 1, Y 2, Y 3, Y 4, Y 5⟩
      go_wp2
      have hS0 := start_12 hcs
      go_region_held3 (fun w' => Below w2.heap.size w2 w' ∧ w'.cell? ⟨w.heap.size, 0, none⟩ = some (.slice a1 l1 c1) ∧ w'.cell? ⟨w.heap.size, 1, none⟩ = some (.slice a2 l2 c2) ∧ w'.cell? ⟨w.heap.size, 2, none⟩ = some (.slice a3 l3 c3) ∧ w'.cell? ⟨w.heap.size, 3, none⟩ = some (.slice a4 l4 c4) ∧ w'.cell? ⟨w.heap.size, 4, none⟩ = some (.int .i64 s.nextPod) ∧ w'.cell? ⟨w.heap.size, 5, none⟩ = some (.int .i64 s.nextNode) ∧ w'.cell? ⟨w.heap.size + 1, 0, none⟩ = some (.slice a1' l1' c1') ∧ w'.cell? ⟨w.heap.size + 1, 1, none⟩ = some (.slice a2' l2' c2') ∧ w'.cell? ⟨w.heap.size + 1, 2, none⟩ = some (.slice a3' l3' c3') ∧ w'.cell? ⟨w.heap.size + 1, 3, none⟩ = some (.slice a4' l4' c4') ∧ w'.cell? ⟨w.heap.size + 1, 4, none⟩ = some (.int .i64 s'.nextPod) ∧ w'.cell? ⟨w.heap.size + 1, 5, none⟩ = some (.int .i64 s'.nextNode))
        (assumption)
        (first | (go_at_call_of 17 (Value.agg #[Value.slice a1 l1 c1, Value.slice a2 l2 c2, Value.slice a3 l3 c3, Value.slice a4 l4 c4, Value.int IntKind.i64 s.nextPod, Value.int IntKind.i64 s.nextNode]); refine (toState_any _ s _ (HC.out.held hB2 (by assumption))).mono ?_; rintro e w6 ⟨v6, rfl, hv6, hb6⟩; have HV6 := hide hv6; clear hv6; have hS6 := keep_12 zx zx zx zx zx zx zy zy zy zy zy zy hb6 (by assumption)) | (go_at_call_of 17 (Value.agg #[Value.slice a1' l1' c1', Value.slice a2' l2' c2', Value.slice a3' l3' c3', Value.slice a4' l4' c4', Value.int IntKind.i64 s'.nextPod, Value.int IntKind.i64 s'.nextNode]); refine (toState_any _ s' _ (HD.out.held hB2 (by assumption))).mono ?_; rintro e w7 ⟨v7, rfl, hv7, hb7⟩; have HV7 := hide hv7; clear hv7; have HW6 := hide (HV6.out.keep hb7); have hS7 := keep_12 zx zx zx zx zx zx zy zy zy zy zy zy hb7 (by assumption)) | (go_at_call 16; refine (sRestSame_any _ _ s s' _ HW6.out HV7.out).mono ?_; rintro e w8 ⟨rfl, hb8⟩; have hS8 := keep_12 zx zx zx zx zx zx zy zy zy zy zy zy hb8 (by assumption)))
      rename_i hh
      have hB3 : Below w.heap.size w w8 := bel_trans hB2 hh.1
      have hX3 : Blk w8 w.heap.size #[.slice a1 l1 c1, .slice a2 l2 c2, .slice a3 l3 c3, .slice a4 l4 c4, .int .i64 s.nextPod, .int .i64 s.nextNode] 50 := hX.below hh.1 zx
      have hY3 : Blk w8 (w.heap.size + 1) #[.slice a1' l1' c1', .slice a2' l2' c2', .slice a3' l3' c3', .slice a4' l4' c4', .int .i64 s'.nextPod, .int .i64 s'.nextNode] 50 := hY.below hh.1 zy
      clear hh hcs hS0 hS6 hS7 hS8 hb6 hb7 hb8 HV6 HV7 HW6 X Y
      have X := hX3.cell
      have Y := hY3.cell
      have zx3 := hX3.lt
      have zy3 := hY3.lt
      go_wp2_with fail
      refine (toState_any _ s _ (HC.out.keep hB3)).mono ?_
      rintro e w9 ⟨v9, rfl, hv9, hb9⟩
      have HV9 := hide hv9
      obtain ⟨p1, k1, n1, p2, k2, n2, p3, k3, n3, p4, k4, n4, rfl, _, _, _, _⟩ := hv9
      have hB4 := bel_trans hB3 hb9
      clear X Y
      have hX4 := hX3.below hb9 hX3.lt
      have hY4 := hY3.below hb9 hY3.lt
      clear hX3 hY3 hb9 hX hY
      have X := hX4.cell
      have Y := hY4.cell
      have zx4 := hX4.lt
      have zy4 := hY4.lt
      go_wp2_with fail
      refine (toState_any _ s' _ (HD.out.keep (bel_trans hB4 (by go_grown)))).mono ?_
      rintro e w10 ⟨v10, rfl, hv10, hb10⟩
      have HV10 := hide hv10
      obtain ⟨u1, j1, g1, u2, j2, g2, u3, j3, g3, u4, j4, g4, rfl, _, _, _, _⟩ := hv10
      have hZ5 : Blk w10 w9.heap.size #[.slice p1 k1 n1, .slice p2 k2 n2, .slice p3 k3 n3, .slice p4 k4 n4, .int .i64 s.nextPod, .int .i64 s.nextNode] 58 := (Blk.new w9 _ _).below hb10 (by simp)
      have hX5 : Blk w10 w.heap.size #[.slice a1 l1 c1, .slice a2 l2 c2, .slice a3 l3 c3, .slice a4 l4 c4, .int .i64 s.nextPod, .int .i64 s.nextNode] 50 := (hX4.alloc _).below hb10 (by simp; omega)
      have hY5 : Blk w10 (w.heap.size + 1) #[.slice a1' l1' c1', .slice a2' l2' c2', .slice a3' l3' c3', .slice a4' l4' c4', .int .i64 s'.nextPod, .int .i64 s'.nextNode] 50 := (hY4.alloc _).below hb10 (by simp; omega)
      have hB9 : Below w9.heap.size w9 w10 := bel_trans (by go_grown) hb10
      have hB5 := bel_trans hB4 hB9
      have HV5 := hide (HV9.out.keep hB9)
      clear X Y hX4 hY4 hb10 hB9 HV9
      have X := hX5.cell
      have Y := hY5.cell
      have Z := hZ5.cell
      have zx5 := hX5.lt
      have zy5 := hY5.lt
      have zz5 := hZ5.lt
      go_wp2_with fail
      refine (restSame_any _ _ s s' _ (HV5.out.keep (by go_grown)) (HV10.out.keep (by go_grown))).mono ?_
      rintro e w11 ⟨rfl, hb11⟩
      have hU6 : Blk w11 w10.heap.size #[.slice u1 j1 g1, .slice u2 j2 g2, .slice u3 j3 g3, .slice u4 j4 g4, .int .i64 s'.nextPod, .int .i64 s'.nextNode] 58 := (Blk.new w10 _ _).below hb11 (by simp)
      have hX6 : Blk w11 w.heap.size #[.slice a1 l1 c1, .slice a2 l2 c2, .slice a3 l3 c3, .slice a4 l4 c4, .int .i64 s.nextPod, .int .i64 s.nextNode] 50 := (hX5.alloc _).below hb11 (by simp; omega)
      have hY6 : Blk w11 (w.heap.size + 1) #[.slice a1' l1' c1', .slice a2' l2' c2', .slice a3' l3' c3', .slice a4' l4' c4', .int .i64 s'.nextPod, .int .i64 s'.nextNode] 50 := (hY5.alloc _).below hb11 (by simp; omega)
      have hZ6 : Blk w11 w9.heap.size #[.slice p1 k1 n1, .slice p2 k2 n2, .slice p3 k3 n3, .slice p4 k4 n4, .int .i64 s.nextPod, .int .i64 s.nextNode] 58 := (hZ5.alloc _).below hb11 (by simp; omega)
      have hB11 : Below w10.heap.size w10 w11 := bel_trans (by go_grown) hb11
      have hB6 := bel_trans hB5 hB11
      have HV6 := hide (HV5.out.keep hB11)
      have HV7 := hide (HV10.out.keep hB11)
      clear X Y Z hX5 hY5 hZ5 hb11 hB11 HV5 HV10
      have X := hX6.cell
      have Y := hY6.cell
      have Z := hZ6.cell
      have U := hU6.cell
      have zx6 := hX6.lt
      have zy6 := hY6.lt
      have zz6 := hZ6.lt
      have zu6 := hU6.lt
      have hcs : w11.cell? ⟨w.heap.size, 0, none⟩ = some (.slice a1 l1 c1) ∧ w11.cell? ⟨w.heap.size, 1, none⟩ = some (.slice a2 l2 c2) ∧ w11.cell? ⟨w.heap.size, 2, none⟩ = some (.slice a3 l3 c3) ∧ w11.cell? ⟨w.heap.size, 3, none⟩ = some (.slice a4 l4 c4) ∧ w11.cell? ⟨w.heap.size, 4, none⟩ = some (.int .i64 s.nextPod) ∧ w11.cell? ⟨w.heap.size, 5, none⟩ = some (.int .i64 s.nextNode) ∧ w11.cell? ⟨w9.heap.size, 0, none⟩ = some (.slice p1 k1 n1) ∧ w11.cell? ⟨w9.heap.size, 1, none⟩ = some (.slice p2 k2 n2) ∧ w11.cell? ⟨w9.heap.size, 2, none⟩ = some (.slice p3 k3 n3) ∧ w11.cell? ⟨w9.heap.size, 3, none⟩ = some (.slice p4 k4 n4) ∧ w11.cell? ⟨w9.heap.size, 4, none⟩ = some (.int .i64 s.nextPod) ∧ w11.cell? ⟨w9.heap.size, 5, none⟩ = some (.int .i64 s.nextNode) := ⟨X 0, X 1, X 2, X 3, X 4, X 5, Z 0, Z 1, Z 2, Z 3, Z 4, Z 5⟩
      have HB6 := hide hB6
      clear hB6 zx zy zx3 zy3 zx4 zy4 zx5 zy5 zz5 hB1 hB2 hB3 hB4 hB5
      go_wp2
      have hS0 := start_12 hcs
      go_region_held3 (fun w' => Below w11.heap.size w11 w' ∧ w'.cell? ⟨w.heap.size, 0, none⟩ = some (.slice a1 l1 c1) ∧ w'.cell? ⟨w.heap.size, 1, none⟩ = some (.slice a2 l2 c2) ∧ w'.cell? ⟨w.heap.size, 2, none⟩ = some (.slice a3 l3 c3) ∧ w'.cell? ⟨w.heap.size, 3, none⟩ = some (.slice a4 l4 c4) ∧ w'.cell? ⟨w.heap.size, 4, none⟩ = some (.int .i64 s.nextPod) ∧ w'.cell? ⟨w.heap.size, 5, none⟩ = some (.int .i64 s.nextNode) ∧ w'.cell? ⟨w9.heap.size, 0, none⟩ = some (.slice p1 k1 n1) ∧ w'.cell? ⟨w9.heap.size, 1, none⟩ = some (.slice p2 k2 n2) ∧ w'.cell? ⟨w9.heap.size, 2, none⟩ = some (.slice p3 k3 n3) ∧ w'.cell? ⟨w9.heap.size, 3, none⟩ = some (.slice p4 k4 n4) ∧ w'.cell? ⟨w9.heap.size, 4, none⟩ = some (.int .i64 s.nextPod) ∧ w'.cell? ⟨w9.heap.size, 5, none⟩ = some (.int .i64 s.nextNode))
        (assumption)
        (first | (go_at_call 17; refine (toState_any _ s _ (HC.out.held HB6.out (by assumption))).mono ?_; rintro e w12 ⟨v12, rfl, hv12, hb12⟩; have HV12 := hide hv12; clear hv12; have hS12 := keep_12 zx6 zx6 zx6 zx6 zx6 zx6 zz6 zz6 zz6 zz6 zz6 zz6 hb12 (by assumption)) | (go_at_call 19; refine (eqState_same _ _ s _ (HV6.out.held (Below.refl _ _) (by assumption)) HV12.out).mono ?_; rintro e w13 ⟨rfl, hb13⟩; have hS13 := keep_12 zx6 zx6 zx6 zx6 zx6 zx6 zz6 zz6 zz6 zz6 zz6 zz6 hb13 (by assumption)))
      rename_i hh
      have HB7 := hide (bel_trans HB6.out hh.1)
      have hU7 : Blk w13 w10.heap.size #[.slice u1 j1 g1, .slice u2 j2 g2, .slice u3 j3 g3, .slice u4 j4 g4, .int .i64 s'.nextPod, .int .i64 s'.nextNode] 58 := hU6.below hh.1 zu6
      have hY7 : Blk w13 (w.heap.size + 1) #[.slice a1' l1' c1', .slice a2' l2' c2', .slice a3' l3' c3', .slice a4' l4' c4', .int .i64 s'.nextPod, .int .i64 s'.nextNode] 50 := hY6.below hh.1 zy6
      have HV8 := hide (HV7.out.keep hh.1)
      clear hh hcs hS0 hS12 hS13 hb12 hb13 HV12 X Y Z U hU6 hX6 hY6 hZ6 HV7 HV6
      have Y := hY7.cell
      have U := hU7.cell
      have zy7 := hY7.lt
      have zu7 := hU7.lt
      have hcs : w13.cell? ⟨w.heap.size + 1, 0, none⟩ = some (.slice a1' l1' c1') ∧ w13.cell? ⟨w.heap.size + 1, 1, none⟩ = some (.slice a2' l2' c2') ∧ w13.cell? ⟨w.heap.size + 1, 2, none⟩ = some (.slice a3' l3' c3') ∧ w13.cell? ⟨w.heap.size + 1, 3, none⟩ = some (.slice a4' l4' c4') ∧ w13.cell? ⟨w.heap.size + 1, 4, none⟩ = some (.int .i64 s'.nextPod) ∧ w13.cell? ⟨w.heap.size + 1, 5, none⟩ = some (.int .i64 s'.nextNode) ∧ w13.cell? ⟨w10.heap.size, 0, none⟩ = some (.slice u1 j1 g1) ∧ w13.cell? ⟨w10.heap.size, 1, none⟩ = some (.slice u2 j2 g2) ∧ w13.cell? ⟨w10.heap.size, 2, none⟩ = some (.slice u3 j3 g3) ∧ w13.cell? ⟨w10.heap.size, 3, none⟩ = some (.slice u4 j4 g4) ∧ w13.cell? ⟨w10.heap.size, 4, none⟩ = some (.int .i64 s'.nextPod) ∧ w13.cell? ⟨w10.heap.size, 5, none⟩ = some (.int .i64 s'.nextNode) := ⟨Y 0, Y 1, Y 2, Y 3, Y 4, Y 5, U 0, U 1, U 2, U 3, U 4, U 5⟩
      go_wp2
      have hS0 := start_12 hcs
      go_region_held3 (fun w' => Below w13.heap.size w13 w' ∧ w'.cell? ⟨w.heap.size + 1, 0, none⟩ = some (.slice a1' l1' c1') ∧ w'.cell? ⟨w.heap.size + 1, 1, none⟩ = some (.slice a2' l2' c2') ∧ w'.cell? ⟨w.heap.size + 1, 2, none⟩ = some (.slice a3' l3' c3') ∧ w'.cell? ⟨w.heap.size + 1, 3, none⟩ = some (.slice a4' l4' c4') ∧ w'.cell? ⟨w.heap.size + 1, 4, none⟩ = some (.int .i64 s'.nextPod) ∧ w'.cell? ⟨w.heap.size + 1, 5, none⟩ = some (.int .i64 s'.nextNode) ∧ w'.cell? ⟨w10.heap.size, 0, none⟩ = some (.slice u1 j1 g1) ∧ w'.cell? ⟨w10.heap.size, 1, none⟩ = some (.slice u2 j2 g2) ∧ w'.cell? ⟨w10.heap.size, 2, none⟩ = some (.slice u3 j3 g3) ∧ w'.cell? ⟨w10.heap.size, 3, none⟩ = some (.slice u4 j4 g4) ∧ w'.cell? ⟨w10.heap.size, 4, none⟩ = some (.int .i64 s'.nextPod) ∧ w'.cell? ⟨w10.heap.size, 5, none⟩ = some (.int .i64 s'.nextNode))
        (assumption)
        (first | (go_at_call 17; refine (toState_any _ s' _ (HD.out.held HB7.out (by assumption))).mono ?_; rintro e w14 ⟨v14, rfl, hv14, hb14⟩; have HV14 := hide hv14; clear hv14; have hS14 := keep_12 zy7 zy7 zy7 zy7 zy7 zy7 zu7 zu7 zu7 zu7 zu7 zu7 hb14 (by assumption)) | (go_at_call 19; refine (eqState_same _ _ s' _ (HV8.out.held (Below.refl _ _) (by assumption)) HV14.out).mono ?_; rintro e w15 ⟨rfl, hb15⟩; have hS15 := keep_12 zy7 zy7 zy7 zy7 zy7 zy7 zu7 zu7 zu7 zu7 zu7 zu7 hb15 (by assumption)))
      rename_i hh
      have hfin := bel_trans HB7.out hh.1
      go_wp2
      all_goals go_ret
      all_goals exact ⟨rfl, hfin⟩

end Go.Proofs.Ytifijknogofklaa
