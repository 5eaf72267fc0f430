/- What is asked, whole: the program's answer. -/
import Derived.Test.YthdlkpgialmlfaaGreatDoorS
namespace Go.Proofs.YthdlkpgialmlfaaGreatDoor
open Go.RowKit

structure Cf where
  works : List Wk
  groups : List Gp
  (start calm idle back : Int)

/-- A value that reads, in this world, as what is asked. -/
def CfgAt (w : World) (v : Value) (c : Cf) : Prop :=
  ∃ aw lw cw ag lg cg, v = .agg #[.slice aw lw cw, .slice ag lg cg, .int .i64 c.start, .int .i64 c.calm, .int .i64 c.idle, .int .i64 c.back] ∧
    (c.works.length = lw ∧ lw ≤ 2000000 ∧ WorksAt w aw c.works) ∧ (c.groups.length = lg ∧ lg ≤ 2000000 ∧ GroupsAt w ag c.groups)
theorem CfgAt.keep {w w' : World} {v : Value} {c : Cf} (h : CfgAt w v c) (hb : Below w.heap.size w w') : CfgAt w' v c := by
  obtain ⟨aw, lw, cw, ag, lg, cg, hv, ⟨h1, h2, h3⟩, h4, h5, h6⟩ := h
  exact ⟨aw, lw, cw, ag, lg, cg, hv, ⟨h1, h2, h3.keep hb⟩, h4, h5, h6.keep hb⟩

def worksB (c : Cf) : Bool := inB c.works.length 1 3 && c.works.all wOk
def groupsB (c : Cf) : Bool := inB c.groups.length 1 3 && c.groups.all gOk
def waitsB (c : Cf) : Bool := inB c.start 1 8 && inB c.calm 1 8 && inB c.back 1 8 && inB c.idle 2 8
def cfgOk (c : Cf) : Bool := worksB c && groupsB c && waitsB c

set_option maxHeartbeats 400000 in
theorem clo77_any (ok : Bool) (x : Wk) (w : World) :
    Calls Tryz.prog 86 #[.bool ok, x.v] w fun e w' => e = .returned (.bool (ok && wOk x)) ∧ Below w.heap.size w w' := by
  cases ok
  · go_enter Tryz.func86, Tryz.ntmps86
    go_wp2_with (go_at_call 87; refine (wOk_any x _).mono ?_; rintro e w1 ⟨rfl, hb⟩)
    all_goals go_ret
    all_goals exact ⟨rfl, by go_grown⟩
  · go_enter Tryz.func86, Tryz.ntmps86
    go_wp2_with (go_at_call 87; refine (wOk_any x _).mono ?_; rintro e w1 ⟨rfl, hb⟩)
    all_goals go_ret
    all_goals exact ⟨by simp, bel_trans (by go_grown) hb⟩
set_option maxHeartbeats 400000 in
theorem clo79_any (ok : Bool) (x : Gp) (w : World) :
    Calls Tryz.prog 89 #[.bool ok, x.v] w fun e w' => e = .returned (.bool (ok && gOk x)) ∧ Below w.heap.size w w' := by
  cases ok
  · go_enter Tryz.func89, Tryz.ntmps89
    go_wp2_with (go_at_call 90; refine (gOk_any x _).mono ?_; rintro e w1 ⟨rfl, hb⟩)
    all_goals go_ret
    all_goals exact ⟨rfl, by go_grown⟩
  · go_enter Tryz.func89, Tryz.ntmps89
    go_wp2_with (go_at_call 90; refine (gOk_any x _).mono ?_; rintro e w1 ⟨rfl, hb⟩)
    all_goals go_ret
    all_goals exact ⟨by simp, bel_trans (by go_grown) hb⟩

theorem take_all {α : Type} (p : α → Bool) (l : List α) (i : Nat) (h : i < l.length) : ((l.take i).all p && p l[i]) = (l.take (i + 1)).all p := by
  rw [List.take_succ_eq_append_getElem h, List.all_append]; simp

theorem foldW_all (a : Option Addr) (len cap : Nat) (l : List Wk) (w : World) (hlen : l.length = len) (hn : len ≤ 2000000) (hl : WorksAt w a l) :
    Calls Tryz.prog 85 #[.slice a len cap, .bool true, .func (.func 86) #[] #[]] w fun e w' => e = .returned (.bool (l.all wOk)) ∧ Below w.heap.size w w' := by
  refine (fold76_any a len cap l _ _ (fun i v => v = .bool ((l.take i).all wOk)) w hlen hn hl ⟨86, #[], run_into Tryz.func86 (by kernel_rfl) rfl, rfl, ?_⟩ (by simp)).mono ?_
  · rintro i h v w' rfl _
    refine (clo77_any _ _ _).mono ?_
    rintro e w2 ⟨rfl, hb⟩
    exact ⟨_, rfl, by rw [take_all], hb⟩
  · rintro e w' ⟨v, rfl, rfl, hb⟩
    exact ⟨by rw [List.take_of_length_le (by omega)], hb⟩
theorem foldG_all (a : Option Addr) (len cap : Nat) (l : List Gp) (w : World) (hlen : l.length = len) (hn : len ≤ 2000000) (hl : GroupsAt w a l) :
    Calls Tryz.prog 88 #[.slice a len cap, .bool true, .func (.func 89) #[] #[]] w fun e w' => e = .returned (.bool (l.all gOk)) ∧ Below w.heap.size w w' := by
  refine (fold47_any a len cap l _ _ (fun i v => v = .bool ((l.take i).all gOk)) w hlen hn hl ⟨89, #[], run_into Tryz.func89 (by kernel_rfl) rfl, rfl, ?_⟩ (by simp)).mono ?_
  · rintro i h v w' rfl _
    refine (clo79_any _ _ _).mono ?_
    rintro e w2 ⟨rfl, hb⟩
    exact ⟨_, rfl, by rw [take_all], hb⟩
  · rintro e w' ⟨v, rfl, rfl, hb⟩
    exact ⟨by rw [List.take_of_length_le (by omega)], hb⟩

set_option maxRecDepth 100000 in
set_option maxHeartbeats 400000 in
theorem worksOk_any (v : Value) (c : Cf) (w : World) (h : CfgAt w v c) :
    Calls Tryz.prog 75 #[v] w fun e w' => e = .returned (.bool (worksB c)) ∧ Below w.heap.size w w' := by
  obtain ⟨aw, lw, cw, ag, lg, cg, rfl, ⟨h1, h2, h3⟩, h4, h5, h6⟩ := h
  have H1 := hide h1
  have H3 := hide h3
  clear h1 h3 h4 h5 h6
  by_cases hi : inB lw 1 3 = true
  · go_enter Tryz.func75, Tryz.ntmps75
    go_wp2_with (first | (go_at_call 84; refine (within_any _ _ _ _).mono ?_; rintro e w' ⟨rfl, rfl⟩) | (go_at_call 85; refine (foldW_all _ _ _ c.works _ H1.out h2 (H3.out.keep (by go_grown))).mono ?_; rintro e w1 ⟨rfl, hb⟩))
    all_goals go_ret
    all_goals exact ⟨ret_bool (by simp [worksB, H1.out, hi]), bel_trans (by go_grown) hb⟩
  · have hi' : inB lw 1 3 = false := by simpa using hi
    clear hi
    go_enter Tryz.func75, Tryz.ntmps75
    go_wp2_with (first | (go_at_call 84; refine (within_any _ _ _ _).mono ?_; rintro e w' ⟨rfl, rfl⟩))
    all_goals go_ret
    all_goals exact ⟨ret_bool (by simp [worksB, H1.out, hi']), by go_grown⟩

set_option maxRecDepth 100000 in
set_option maxHeartbeats 400000 in
theorem groupsOk_any (v : Value) (c : Cf) (w : World) (h : CfgAt w v c) :
    Calls Tryz.prog 76 #[v] w fun e w' => e = .returned (.bool (groupsB c)) ∧ Below w.heap.size w w' := by
  obtain ⟨aw, lw, cw, ag, lg, cg, rfl, ⟨h4, h5, h6⟩, h1, h2, h3⟩ := h
  have H1 := hide h1
  have H3 := hide h3
  clear h1 h3 h4 h5 h6
  by_cases hi : inB lg 1 3 = true
  · go_enter Tryz.func76, Tryz.ntmps76
    go_wp2_with (first | (go_at_call 84; refine (within_any _ _ _ _).mono ?_; rintro e w' ⟨rfl, rfl⟩) | (go_at_call 88; refine (foldG_all _ _ _ c.groups _ H1.out h2 (H3.out.keep (by go_grown))).mono ?_; rintro e w1 ⟨rfl, hb⟩))
    all_goals go_ret
    all_goals exact ⟨ret_bool (by simp [groupsB, H1.out, hi]), bel_trans (by go_grown) hb⟩
  · have hi' : inB lg 1 3 = false := by simpa using hi
    clear hi
    go_enter Tryz.func76, Tryz.ntmps76
    go_wp2_with (first | (go_at_call 84; refine (within_any _ _ _ _).mono ?_; rintro e w' ⟨rfl, rfl⟩))
    all_goals go_ret
    all_goals exact ⟨ret_bool (by simp [groupsB, H1.out, hi']), by go_grown⟩

set_option maxRecDepth 100000 in
set_option maxHeartbeats 400000 in
theorem waitsOk_any (v : Value) (c : Cf) (w : World) (h : CfgAt w v c) :
    Calls Tryz.prog 77 #[v] w fun e w' => e = .returned (.bool (waitsB c)) ∧ Below w.heap.size w w' := by
  obtain ⟨aw, lw, cw, ag, lg, cg, rfl, ⟨h4, h5, h6⟩, h1, h2, h3⟩ := h
  clear h1 h2 h3 h4 h5 h6
  unfold waitsB
  cases e1 : inB c.start 1 8 <;> cases e2 : inB c.calm 1 8 <;> cases e3 : inB c.back 1 8
  all_goals
    go_enter Tryz.func77, Tryz.ntmps77
    go_wp2_with (first | (go_at_call 84; refine (within_any _ _ _ _).mono ?_; rintro e w' ⟨rfl, rfl⟩))
    all_goals go_ret
    all_goals exact ⟨ret_bool (by simp), by go_grown⟩

set_option maxRecDepth 100000 in
set_option maxHeartbeats 400000 in
theorem cfgOk_any (v : Value) (c : Cf) (w : World) (h : CfgAt w v c) :
    Calls Tryz.prog 53 #[v] w fun e w' => e = .returned (.bool (cfgOk c)) ∧ Below w.heap.size w w' := by
  have H := hide h
  obtain ⟨aw, lw, cw, ag, lg, cg, rfl, h1, h2⟩ := h
  clear h1 h2
  go_enter Tryz.func53, Tryz.ntmps53
  go_wp2_with fail
  refine (allHold3 _ _ _ _ (worksB c) (groupsB c) (waitsB c) _ (by simp) (by simp [go_sem]) (by simp [go_sem]) (by simp [go_sem])
    (.of (run_into Tryz.func75 (by kernel_rfl) rfl) fun w1 hb1 => worksOk_any _ c w1 (H.out.keep (bel_trans (by go_grown) hb1)))
    (fun _ => .of (run_into Tryz.func76 (by kernel_rfl) rfl) fun w1 hb1 => groupsOk_any _ c w1 (H.out.keep (bel_trans (by go_grown) hb1)))
    (fun _ _ => .of (run_into Tryz.func77 (by kernel_rfl) rfl) fun w1 hb1 => waitsOk_any _ c w1 (H.out.keep (bel_trans (by go_grown) hb1)))).mono ?_
  rintro e w1 ⟨rfl, hb⟩
  go_wp2
  all_goals go_ret
  all_goals exact ⟨rfl, bel_trans (by go_grown) hb⟩
end Go.Proofs.YthdlkpgialmlfaaGreatDoor
