/- Marks laid into what is asked and what there is, whole. -/
import Derived.Test.YtcdjklpnjdladaaOc
import Derived.Test.YtcdjklpnjdladaaOb
namespace Go.Proofs.Ytcdjklpnjdladaa
open Go.RowKit

set_option maxRecDepth 100000 in
set_option maxHeartbeats 2000000 in
theorem markCfg_any (p q lw cw lg cg B1 B2 : Nat) (xs ys : List Value) (s k i b : Int) (w : World) (hpq : p ≠ q) (h1 : lw ≤ 2000000) (h2 : lg ≤ 2000000)
    (o1 : w.ownsRow B1 60 8 (.slice (some ⟨p, 0, none⟩) lw cw) lw xs) (o2 : w.ownsRow B2 96 5 (.slice (some ⟨q, 0, none⟩) lg cg) lg ys) :
    Calls Try.prog 12 #[.agg #[.slice (some ⟨p, 0, none⟩) lw cw, .slice (some ⟨q, 0, none⟩) lg cg, .int .i64 s, .int .i64 k, .int .i64 i, .int .i64 b], .int .i64 1] w fun e w' => ∃ r : Int, e = .returned (.int .i64 r) ∧ 0 ≤ r ∧ Only (fun k => k = p ∨ k = q) w w' := by
  have hp := (o1.lt p rfl).2
  have hq := (o2.lt q rfl).2
  have O1 := hide o1
  have O2 := hide o2
  have hA : Only (fun k => k = p ∨ k = q) w (w.alloc (.cells #[.slice (some ⟨p, 0, none⟩) lw cw, .slice (some ⟨q, 0, none⟩) lg cg, .int .i64 s, .int .i64 k, .int .i64 i, .int .i64 b] 37)) := Only.of_below (by go_grown)
  have HA := hide hA
  clear o1 o2 hA
  go_enter Try.func12, Try.ntmps12
  go_wp2_with fail
  refine (markWorks_any p lw cw B1 xs 1 _ (by omega) h1 (O1.out.alloc _)).mono ?_
  rintro e w1 ⟨rfl, hO⟩
  have hX : Blk w1 w.heap.size #[.slice (some ⟨p, 0, none⟩) lw cw, .slice (some ⟨q, 0, none⟩) lg cg, .int .i64 s, .int .i64 k, .int .i64 i, .int .i64 b] 37 := (Blk.new w _ _).only hO (by show ¬ w.heap.size = p; omega)
  have o2' : w1.ownsRow B2 96 5 (.slice (some ⟨q, 0, none⟩) lg cg) lg ys := owns_only (O2.out.alloc _) hO (fun k hk => by simp [Value.ownBlock] at hk; show ¬ k = p; omega)
  have HO := hide (HA.out.trans (hO.mono (fun k hk => Or.inl hk)))
  have O3 := hide o2'
  clear hO o2' HA
  have X := hX.cell
  have zx := hX.lt
  go_wp2_with fail
  refine (markGroups_any q lg cg B2 ys _ _ (by omega) h2 O3.out).mono ?_
  rintro e w2 ⟨rfl, hO⟩
  have hX2 : Blk w2 w.heap.size #[.slice (some ⟨p, 0, none⟩) lw cw, .slice (some ⟨q, 0, none⟩) lg cg, .int .i64 s, .int .i64 k, .int .i64 i, .int .i64 b] 37 := hX.only hO (by show ¬ w.heap.size = q; omega)
  have HO2 := hide (HO.out.trans (hO.mono (fun k hk => Or.inr hk)))
  clear hO X hX zx HO
  have X := hX2.cell
  go_wp2
  all_goals go_ret
  all_goals exact ⟨_, rfl, by omega, HO2.out⟩

set_option maxRecDepth 100000 in
set_option maxHeartbeats 2000000 in
theorem markState_yes (p q n1 n2 k1 k2 B1 B2 : Nat) (l1 : List Ws) (l2 : List Gs) (w : World) (hpq : p ≠ q) (h1 : n1 ≤ 2000000) (h2 : n2 ≤ 2000000) (e1 : l1.length = n1) (e2 : l2.length = n2)
    (o1 : Owns 3 Ws.cell 62 B1 w (.slice (some ⟨p, 0, none⟩) n1 k1) l1) (o2 : Owns 3 Gs.cell 86 B2 w (.slice (some ⟨q, 0, none⟩) n2 k2) l2) :
    Calls Try.prog 13 #[.agg #[.slice none 0 0, .slice none 0 0, .slice (some ⟨p, 0, none⟩) n1 k1, .slice (some ⟨q, 0, none⟩) n2 k2, .int .i64 1, .int .i64 1], .int .i64 1] w fun e w' => e = .returned (.int .i64 (1 + 3 * n1 + 3 * n2)) ∧ Only (fun k => k = p ∨ k = q) w w' ∧ Owns 3 Ws.cell 62 B1 w' (.slice (some ⟨p, 0, none⟩) n1 k1) (markW 1 n1) ∧ Owns 3 Gs.cell 86 B2 w' (.slice (some ⟨q, 0, none⟩) n2 k2) (markG (1 + 3 * n1) n2) := by
  have hp : p < w.heap.size := (o1.lt p rfl).2
  have hq : q < w.heap.size := (o2.lt q rfl).2
  have O1 := hide o1
  have O2 := hide o2
  have E1 := hide e1
  have E2 := hide e2
  have hA : Only (fun k => k = p ∨ k = q) w (w.alloc (.cells #[.slice none 0 0, .slice none 0 0, .slice (some ⟨p, 0, none⟩) n1 k1, .slice (some ⟨q, 0, none⟩) n2 k2, .int .i64 1, .int .i64 1] 32)) := Only.of_below (by go_grown)
  have HA := hide hA
  clear o1 o2 hA e1 e2
  go_enter Try.func13, Try.ntmps13
  go_wp2_with (first | (go_at_call 35; refine (markPods_none _ _).mono ?_; rintro e w' ⟨rfl, rfl⟩) | (go_at_call 36; refine (markNodes_none _ _).mono ?_; rintro e w' ⟨rfl, rfl⟩))
  refine (markWs_any p n1 k1 B1 l1 1 _ (by omega) h1 E1.out (O1.out.alloc _)).mono ?_
  rintro e w1 ⟨rfl, hO, o1⟩
  have hX : Blk w1 w.heap.size #[.slice none 0 0, .slice none 0 0, .slice (some ⟨p, 0, none⟩) n1 k1, .slice (some ⟨q, 0, none⟩) n2 k2, .int .i64 1, .int .i64 1] 32 := (Blk.new w _ _).only hO (by show ¬ w.heap.size = p; omega)
  have o2' : Owns 3 Gs.cell 86 B2 w1 (.slice (some ⟨q, 0, none⟩) n2 k2) l2 := (O2.out.alloc _).only hO (fun k hk => by simp [Value.ownBlock] at hk; show ¬ k = p; omega)
  have HO := hide (HA.out.trans (hO.mono (fun k hk => Or.inl hk)))
  have O3 := hide o2'
  have O4 := hide o1
  clear hO o2' HA o1
  have X := hX.cell
  have zx := hX.lt
  go_wp2_with fail
  refine (markGs_any q n2 k2 B2 l2 _ _ (by omega) h2 E2.out O3.out).mono ?_
  rintro e w2 ⟨rfl, hO, o2⟩
  have hX2 : Blk w2 w.heap.size #[.slice none 0 0, .slice none 0 0, .slice (some ⟨p, 0, none⟩) n1 k1, .slice (some ⟨q, 0, none⟩) n2 k2, .int .i64 1, .int .i64 1] 32 := hX.only hO (by show ¬ w.heap.size = q; omega)
  have o1' := O4.out.only hO (fun k hk => by simp [Value.ownBlock] at hk; show ¬ k = q; omega)
  have HO2 := hide (HO.out.trans (hO.mono (fun k hk => Or.inr hk)))
  have HQ := hide (⟨o1', o2⟩ : _ ∧ _)
  clear hO X hX zx HO o1' o2
  have X := hX2.cell
  go_wp2
  all_goals go_ret
  all_goals exact ⟨rfl, HO2.out, HQ.out.1, HQ.out.2⟩

set_option maxRecDepth 100000 in
set_option maxHeartbeats 2000000 in
theorem heldState_yes (p q n1 n2 k1 k2 B1 B2 : Nat) (w : World) (h1 : n1 ≤ 2000000) (h2 : n2 ≤ 2000000)
    (o1 : Owns 3 Ws.cell 62 B1 w (.slice (some ⟨p, 0, none⟩) n1 k1) (markW 1 n1)) (o2 : Owns 3 Gs.cell 86 B2 w (.slice (some ⟨q, 0, none⟩) n2 k2) (markG (1 + 3 * n1) n2)) :
    Calls Try.prog 14 #[.agg #[.slice none 0 0, .slice none 0 0, .slice (some ⟨p, 0, none⟩) n1 k1, .slice (some ⟨q, 0, none⟩) n2 k2, .int .i64 1, .int .i64 1], .int .i64 1] w fun e w' => e = .returned (.int .i64 (1 + 3 * n1 + 3 * n2)) ∧ Below w.heap.size w w' := by
  have r1 : WssAt w (some ⟨p, 0, none⟩) (markW 1 n1) := by obtain ⟨a, c, hv, hr⟩ := o1.form; rw [Value.slice.injEq] at hv; rw [hv.1]; exact hr
  have r2 : GssAt w (some ⟨q, 0, none⟩) (markG (1 + 3 * n1) n2) := by obtain ⟨a, c, hv, hr⟩ := o2.form; rw [Value.slice.injEq] at hv; rw [hv.1]; exact hr
  have R1 := hide r1
  have R2 := hide r2
  clear o1 o2 r1 r2
  go_enter Try.func14, Try.ntmps14
  go_wp2_with (first | (go_at_call 39; refine (heldPods_none _ _).mono ?_; rintro e w' ⟨rfl, rfl⟩) | (go_at_call 40; refine (heldNodes_none _ _).mono ?_; rintro e w' ⟨rfl, rfl⟩) | (go_at_call 41; refine (heldWs_any _ n1 k1 1 _ (by omega) h1 (R1.out.keep (by go_grown))).mono ?_; rintro e w' ⟨rfl, rfl⟩) | (go_at_call 42; refine (heldGs_any _ n2 k2 (1 + 3 * n1) _ (by omega) h2 (R2.out.keep (by go_grown))).mono ?_; rintro e w' ⟨rfl, rfl⟩))
  all_goals go_ret
  all_goals exact ⟨rfl, by go_grown⟩

set_option maxRecDepth 100000 in
set_option maxHeartbeats 2000000 in
theorem markWs_none (k0 : Int) (w : World) :
    Calls Try.prog 37 #[.slice none 0 0, .int .i64 k0] w fun e w' => e = .returned (.int .i64 k0) ∧ w' = w := by
  go_enter Try.func37, Try.ntmps37
  go_wp2
  go_loopw [1, 5] (fun s i w' => i = .int .i64 0 ∧ s = .int .i64 k0 ∧ w' = w) (fun _ _ _ => 0)
  case atStart => exact ⟨rfl, rfl, rfl⟩
  case round =>
    obtain ⟨rfl, rfl, rfl⟩ := hrel
    go_wp2
    go_ret
    exact ⟨rfl, rfl⟩
set_option maxRecDepth 100000 in
set_option maxHeartbeats 2000000 in
theorem markGs_none (k0 : Int) (w : World) :
    Calls Try.prog 38 #[.slice none 0 0, .int .i64 k0] w fun e w' => e = .returned (.int .i64 k0) ∧ w' = w := by
  go_enter Try.func38, Try.ntmps38
  go_wp2
  go_loopw [1, 5] (fun s i w' => i = .int .i64 0 ∧ s = .int .i64 k0 ∧ w' = w) (fun _ _ _ => 0)
  case atStart => exact ⟨rfl, rfl, rfl⟩
  case round =>
    obtain ⟨rfl, rfl, rfl⟩ := hrel
    go_wp2
    go_ret
    exact ⟨rfl, rfl⟩
set_option maxRecDepth 100000 in
set_option maxHeartbeats 2000000 in
theorem markState_no (w : World) :
    Calls Try.prog 13 #[.agg #[.slice none 0 0, .slice none 0 0, .slice none 0 0, .slice none 0 0, .int .i64 0, .int .i64 0], .int .i64 1] w fun e w' => e = .returned (.int .i64 1) ∧ Below w.heap.size w w' := by
  go_enter Try.func13, Try.ntmps13
  go_wp2_with (first | (go_at_call 35; refine (markPods_none _ _).mono ?_; rintro e w' ⟨rfl, rfl⟩) | (go_at_call 36; refine (markNodes_none _ _).mono ?_; rintro e w' ⟨rfl, rfl⟩) | (go_at_call 37; refine (markWs_none _ _).mono ?_; rintro e w' ⟨rfl, rfl⟩) | (go_at_call 38; refine (markGs_none _ _).mono ?_; rintro e w' ⟨rfl, rfl⟩))
  all_goals go_ret
  all_goals exact ⟨rfl, by go_grown⟩
set_option maxRecDepth 100000 in
set_option maxHeartbeats 2000000 in
theorem heldState_no (w : World) :
    Calls Try.prog 14 #[.agg #[.slice none 0 0, .slice none 0 0, .slice none 0 0, .slice none 0 0, .int .i64 0, .int .i64 0], .int .i64 1] w fun e w' => e = .returned (.int .i64 1) ∧ Below w.heap.size w w' := by
  go_enter Try.func14, Try.ntmps14
  go_wp2_with (first | (go_at_call 39; refine (heldPods_none _ _).mono ?_; rintro e w' ⟨rfl, rfl⟩) | (go_at_call 40; refine (heldNodes_none _ _).mono ?_; rintro e w' ⟨rfl, rfl⟩) | (go_at_call 41; refine (heldWs_any none 0 0 1 _ (by omega) (by omega) (.inl rfl)).mono ?_; rintro e w' ⟨rfl, rfl⟩) | (go_at_call 42; refine (heldGs_any none 0 0 1 _ (by omega) (by omega) (.inl rfl)).mono ?_; rintro e w' ⟨rfl, rfl⟩))
  all_goals go_ret
  all_goals exact ⟨rfl, by go_grown⟩

end Go.Proofs.Ytcdjklpnjdladaa
