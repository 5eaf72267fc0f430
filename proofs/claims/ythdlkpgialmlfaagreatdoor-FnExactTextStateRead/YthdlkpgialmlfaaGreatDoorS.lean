/- What is asked, whole: the program's own conditions. -/
import Derived.Test.YthdlkpgialmlfaaGreatDoorR
namespace Go.Proofs.YthdlkpgialmlfaaGreatDoor
open Go.RowKit

def wOk (x : Wk) : Bool := wSize x && wCount x && wLoad x && wTol x && wRank x
def gOk (x : Gp) : Bool := okB x.cpu x.mem && gCount x && gBoot x

theorem CondAt.of {w0 : World} {k : FuncId} {fs : Array Value} {b : Bool} (hrun : ∀ args w, (callFunc k args).run Tryz.prog w = .ok (.enter k args) w)
    (h : ∀ w, Below w0.heap.size w0 w → Calls Tryz.prog k fs w fun e w' => e = .returned (.bool b) ∧ Below w.heap.size w w') : CondAt w0 (.func (.func k) fs #[]) b :=
  ⟨k, fs, hrun, rfl, h⟩

theorem allHold5 (B : Nat) (F0 F1 F2 F3 F4 : Value) (b0 b1 b2 b3 b4 : Bool) (w : World) (hB : B < w.heap.size)
    (c0 : w.cell? ⟨B, 0, none⟩ = some F0) (c1 : w.cell? ⟨B, 1, none⟩ = some F1) (c2 : w.cell? ⟨B, 2, none⟩ = some F2) (c3 : w.cell? ⟨B, 3, none⟩ = some F3) (c4 : w.cell? ⟨B, 4, none⟩ = some F4)
    (h0 : CondAt w F0 b0) (h1 : b0 = true → CondAt w F1 b1) (h2 : b0 = true → b1 = true → CondAt w F2 b2) (h3 : b0 = true → b1 = true → b2 = true → CondAt w F3 b3) (h4 : b0 = true → b1 = true → b2 = true → b3 = true → CondAt w F4 b4) :
    Calls Tryz.prog 74 #[.slice (some ⟨B, 0, none⟩) 5 5] w fun e w' => e = .returned (.bool (b0 && b1 && b2 && b3 && b4)) ∧ Below w.heap.size w w' := by
  have := allHold_any B 5 (fun | 0 => F0 | 1 => F1 | 2 => F2 | 3 => F3 | _ => F4) (fun | 0 => b0 | 1 => b1 | 2 => b2 | 3 => b3 | _ => b4) w (by omega) hB
    (fun i hi => match i, hi with | 0, _ => c0 | 1, _ => c1 | 2, _ => c2 | 3, _ => c3 | 4, _ => c4 | n + 5, h => absurd h (by omega))
    (fun i hi hp => match i, hi, hp with
      | 0, _, _ => h0 | 1, _, hp => h1 (hp 0 (by omega)) | 2, _, hp => h2 (hp 0 (by omega)) (hp 1 (by omega)) | 3, _, hp => h3 (hp 0 (by omega)) (hp 1 (by omega)) (hp 2 (by omega))
      | 4, _, hp => h4 (hp 0 (by omega)) (hp 1 (by omega)) (hp 2 (by omega)) (hp 3 (by omega)) | n + 5, h, _ => absurd h (by omega))
  refine this.mono ?_
  rintro e w' ⟨rfl, hb⟩
  exact ⟨ret_bool (by simp [List.range_succ, Bool.and_assoc]), hb⟩

theorem allHold3 (B : Nat) (F0 F1 F2 : Value) (b0 b1 b2 : Bool) (w : World) (hB : B < w.heap.size)
    (c0 : w.cell? ⟨B, 0, none⟩ = some F0) (c1 : w.cell? ⟨B, 1, none⟩ = some F1) (c2 : w.cell? ⟨B, 2, none⟩ = some F2)
    (h0 : CondAt w F0 b0) (h1 : b0 = true → CondAt w F1 b1) (h2 : b0 = true → b1 = true → CondAt w F2 b2) :
    Calls Tryz.prog 74 #[.slice (some ⟨B, 0, none⟩) 3 3] w fun e w' => e = .returned (.bool (b0 && b1 && b2)) ∧ Below w.heap.size w w' := by
  have := allHold_any B 3 (fun | 0 => F0 | 1 => F1 | _ => F2) (fun | 0 => b0 | 1 => b1 | _ => b2) w (by omega) hB
    (fun i hi => match i, hi with | 0, _ => c0 | 1, _ => c1 | 2, _ => c2 | n + 3, h => absurd h (by omega))
    (fun i hi hp => match i, hi, hp with
      | 0, _, _ => h0 | 1, _, hp => h1 (hp 0 (by omega)) | 2, _, hp => h2 (hp 0 (by omega)) (hp 1 (by omega)) | n + 3, h, _ => absurd h (by omega))
  refine this.mono ?_
  rintro e w' ⟨rfl, hb⟩
  exact ⟨ret_bool (by simp [List.range_succ, Bool.and_assoc]), hb⟩

set_option maxRecDepth 100000 in
set_option maxHeartbeats 400000 in
theorem wOk_any (x : Wk) (w : World) :
    Calls Tryz.prog 87 #[x.v] w fun e w' => e = .returned (.bool (wOk x)) ∧ Below w.heap.size w w' := by
  go_enter Tryz.func87, Tryz.ntmps87
  go_wp2_with fail
  refine (allHold5 _ _ _ _ _ _ (wSize x) (wCount x) (wLoad x) (wTol x) (wRank x) _ (by simp) (by simp [go_sem]) (by simp [go_sem]) (by simp [go_sem]) (by simp [go_sem]) (by simp [go_sem])
    (.of (run_into Tryz.func98 (by kernel_rfl) rfl) fun w _ => wSize_any x w) (fun _ => .of (run_into Tryz.func99 (by kernel_rfl) rfl) fun w _ => wCount_any x w) (fun _ _ => .of (run_into Tryz.func100 (by kernel_rfl) rfl) fun w _ => wLoad_any x w)
    (fun _ _ hl => .of (run_into Tryz.func101 (by kernel_rfl) rfl) fun w _ => wTol_any x w hl) (fun _ _ _ _ => .of (run_into Tryz.func102 (by kernel_rfl) rfl) fun w _ => wRank_any x w)).mono ?_
  rintro e w1 ⟨rfl, hb⟩
  go_wp2
  all_goals go_ret
  all_goals exact ⟨rfl, bel_trans (by go_grown) hb⟩

set_option maxRecDepth 100000 in
set_option maxHeartbeats 400000 in
theorem gOk_any (x : Gp) (w : World) :
    Calls Tryz.prog 90 #[x.v] w fun e w' => e = .returned (.bool (gOk x)) ∧ Below w.heap.size w w' := by
  go_enter Tryz.func90, Tryz.ntmps90
  go_wp2_with fail
  refine (allHold3 _ _ _ _ (okB x.cpu x.mem) (gCount x) (gBoot x) _ (by simp) (by simp [go_sem]) (by simp [go_sem]) (by simp [go_sem])
    (.of (run_into Tryz.func103 (by kernel_rfl) rfl) fun w _ => ok_any x.cpu x.mem w) (fun _ => .of (run_into Tryz.func104 (by kernel_rfl) rfl) fun w _ => gCount_any x w) (fun _ _ => .of (run_into Tryz.func105 (by kernel_rfl) rfl) fun w _ => gBoot_any x w)).mono ?_
  rintro e w1 ⟨rfl, hb⟩
  go_wp2
  all_goals go_ret
  all_goals exact ⟨rfl, bel_trans (by go_grown) hb⟩
end Go.Proofs.YthdlkpgialmlfaaGreatDoor
