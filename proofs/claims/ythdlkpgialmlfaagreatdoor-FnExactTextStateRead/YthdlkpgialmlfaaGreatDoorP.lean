/- What is asked of a work and of a group: the program's conditions. -/
import Derived.Test.YthdlkpgialmlfaaGreatDoorD
namespace Go.Proofs.YthdlkpgialmlfaaGreatDoor
open Go.RowKit

structure Wk where
  (cpu mem min max target limit tol rank : Int)
abbrev Wk.v (x : Wk) : Value := .agg #[.int .i64 x.cpu, .int .i64 x.mem, .int .i64 x.min, .int .i64 x.max, .int .i64 x.target, .int .i64 x.limit, .int .i64 x.tol, .int .i64 x.rank]
structure Gp where
  (cpu mem min max boot : Int)
abbrev Gp.v (x : Gp) : Value := .agg #[.int .i64 x.cpu, .int .i64 x.mem, .int .i64 x.min, .int .i64 x.max, .int .i64 x.boot]

def inB (n l m : Int) : Bool := decide (l ≤ n ∧ n ≤ m)
theorem in_iff {n l m : Int} : inB n l m = true ↔ l ≤ n ∧ n ≤ m := by simp [inB]

set_option maxHeartbeats 400000 in
theorem within_any (n l m : Int) (w : World) :
    Calls Tryz.prog 84 #[.int .i64 n, .int .i64 l, .int .i64 m] w fun e w' => e = .returned (.bool (inB n l m)) ∧ w' = w := by
  go_enter Tryz.func84, Tryz.ntmps84
  go_wp2
  all_goals go_ret
  all_goals exact ⟨ret_bool (by simp [inB, *] <;> omega), rfl⟩

def wSize (x : Wk) : Bool := okB x.cpu x.mem && !notB x.cpu x.mem
def wCount (x : Wk) : Bool := decide (1 ≤ x.min) && inB x.max x.min 8
def wLoad (x : Wk) : Bool := inB x.limit 1 10000 && inB x.target 1 (x.limit - 1)
def wTol (x : Wk) : Bool := inB x.tol 0 500 && decide (x.tol * x.target < 1000 * (x.limit - x.target))
def wRank (x : Wk) : Bool := inB x.rank 0 9
def gCount (x : Gp) : Bool := decide (0 ≤ x.min) && inB x.max x.min 8
def gBoot (x : Gp) : Bool := inB x.boot 1 8

set_option maxHeartbeats 400000 in
theorem wSize_any (x : Wk) (w : World) :
    Calls Tryz.prog 98 #[x.v] w fun e w' => e = .returned (.bool (wSize x)) ∧ Below w.heap.size w w' := by
  by_cases h1 : okB x.cpu x.mem = true
  · go_enter Tryz.func98, Tryz.ntmps98
    go_wp2_with (first | (go_at_call 103; refine (ok_any _ _ _).mono ?_; rintro e w1 ⟨rfl, hb⟩; obtain ⟨hc, hf⟩ := bcell hb) | (go_at_call 116; refine (isNothing_any' _ _ _).mono ?_; rintro e w2 ⟨rfl, hb2⟩))
    all_goals go_ret
    all_goals refine ⟨ret_bool (by simp [wSize, *]), ?_⟩
    all_goals repeat (first | exact Below.refl _ _ | refine Below.setCell ?_ (by go_size) _ | refine Below.alloc ?_ (by go_size) _ | refine Below.drew ?_ | refine bel_trans ?_ (by assumption))
  · have h1' : okB x.cpu x.mem = false := by simpa using h1
    clear h1
    go_enter Tryz.func98, Tryz.ntmps98
    go_wp2_with (first | (go_at_call 103; refine (ok_any _ _ _).mono ?_; rintro e w1 ⟨rfl, hb⟩; obtain ⟨hc, hf⟩ := bcell hb) | (go_at_call 116; refine (isNothing_any' _ _ _).mono ?_; rintro e w2 ⟨rfl, hb2⟩))
    all_goals go_ret
    all_goals refine ⟨ret_bool (by simp [wSize, *]), ?_⟩
    all_goals repeat (first | exact Below.refl _ _ | refine Below.setCell ?_ (by go_size) _ | refine Below.alloc ?_ (by go_size) _ | refine Below.drew ?_ | refine bel_trans ?_ (by assumption))

set_option maxHeartbeats 400000 in
theorem wCount_any (x : Wk) (w : World) :
    Calls Tryz.prog 99 #[x.v] w fun e w' => e = .returned (.bool (wCount x)) ∧ Below w.heap.size w w' := by
  go_enter Tryz.func99, Tryz.ntmps99
  go_wp2_with (go_at_call 84; refine (within_any _ _ _ _).mono ?_; rintro e w' ⟨rfl, rfl⟩)
  all_goals go_ret
  all_goals exact ⟨ret_bool (by simp [wCount, *]; try omega), by go_grown⟩

set_option maxHeartbeats 400000 in
theorem wLoad_any (x : Wk) (w : World) :
    Calls Tryz.prog 100 #[x.v] w fun e w' => e = .returned (.bool (wLoad x)) ∧ Below w.heap.size w w' := by
  by_cases h1 : inB x.limit 1 10000 = true
  · obtain ⟨p1, p2⟩ := in_iff.1 h1
    go_enter Tryz.func100, Tryz.ntmps100
    go_wp2_with (go_at_call 84; refine (within_any _ _ _ _).mono ?_; rintro e w' ⟨rfl, rfl⟩)
    all_goals go_ret
    all_goals exact ⟨ret_bool (by simp [wLoad, *]), by go_grown⟩
  · have h1' : inB x.limit 1 10000 = false := by simpa using h1
    clear h1
    go_enter Tryz.func100, Tryz.ntmps100
    go_wp2_with (go_at_call 84; refine (within_any _ _ _ _).mono ?_; rintro e w' ⟨rfl, rfl⟩)
    all_goals go_ret
    all_goals exact ⟨ret_bool (by simp [wLoad, *]), by go_grown⟩

theorem mul_bd (a b : Int) (h0 : 0 ≤ a) (h1 : a ≤ 500) (h2 : 0 ≤ b) (h3 : b ≤ 10000) : 0 ≤ a * b ∧ a * b ≤ 5000000 :=
  ⟨Int.mul_nonneg h0 h2, Int.le_trans (Int.mul_le_mul h1 h3 h2 (by omega)) (by omega)⟩

set_option maxHeartbeats 400000 in
theorem wTol_any (x : Wk) (w : World) (hl : wLoad x = true) :
    Calls Tryz.prog 101 #[x.v] w fun e w' => e = .returned (.bool (wTol x)) ∧ Below w.heap.size w w' := by
  unfold wLoad at hl
  rw [Bool.and_eq_true, in_iff, in_iff] at hl
  obtain ⟨⟨l1, l2⟩, l3, l4⟩ := hl
  by_cases h1 : inB x.tol 0 500 = true
  · obtain ⟨p1, p2⟩ := in_iff.1 h1
    obtain ⟨m1, m2⟩ := mul_bd x.tol x.target p1 p2 (by omega) (by omega)
    go_enter Tryz.func101, Tryz.ntmps101
    go_wp2_with (go_at_call 84; refine (within_any _ _ _ _).mono ?_; rintro e w' ⟨rfl, rfl⟩)
    all_goals go_ret
    all_goals exact ⟨ret_bool (by simp [wTol, *]), by go_grown⟩
  · have h1' : inB x.tol 0 500 = false := by simpa using h1
    clear h1
    go_enter Tryz.func101, Tryz.ntmps101
    go_wp2_with (go_at_call 84; refine (within_any _ _ _ _).mono ?_; rintro e w' ⟨rfl, rfl⟩)
    all_goals go_ret
    all_goals exact ⟨ret_bool (by simp [wTol, *]), by go_grown⟩

set_option maxHeartbeats 400000 in
theorem wRank_any (x : Wk) (w : World) :
    Calls Tryz.prog 102 #[x.v] w fun e w' => e = .returned (.bool (wRank x)) ∧ Below w.heap.size w w' := by
  go_enter Tryz.func102, Tryz.ntmps102
  go_wp2_with (go_at_call 84; refine (within_any _ _ _ _).mono ?_; rintro e w' ⟨rfl, rfl⟩)
  all_goals go_ret
  all_goals exact ⟨rfl, by go_grown⟩

set_option maxHeartbeats 400000 in
theorem gCount_any (x : Gp) (w : World) :
    Calls Tryz.prog 104 #[x.v] w fun e w' => e = .returned (.bool (gCount x)) ∧ Below w.heap.size w w' := by
  go_enter Tryz.func104, Tryz.ntmps104
  go_wp2_with (go_at_call 84; refine (within_any _ _ _ _).mono ?_; rintro e w' ⟨rfl, rfl⟩)
  all_goals go_ret
  all_goals exact ⟨ret_bool (by simp [gCount, *]; try omega), by go_grown⟩

set_option maxHeartbeats 400000 in
theorem gBoot_any (x : Gp) (w : World) :
    Calls Tryz.prog 105 #[x.v] w fun e w' => e = .returned (.bool (gBoot x)) ∧ Below w.heap.size w w' := by
  go_enter Tryz.func105, Tryz.ntmps105
  go_wp2_with (go_at_call 84; refine (within_any _ _ _ _).mono ?_; rintro e w' ⟨rfl, rfl⟩)
  all_goals go_ret
  all_goals exact ⟨rfl, by go_grown⟩

theorem hide {p : Prop} (h : p) : Hid p := h

theorem run_into {f : FuncId} {fn : Func} {c : Code} (hf : Tryz.prog.funcs[f]? = some fn) (hname : (fn.name == "runtime.NumGoroutine") = false) (hb : fn.body = some c) (args : Array Value) (w : World) :
    (callFunc f args).run Tryz.prog w = .ok (.enter f args) w := by
  have h1 : ¬ fn.name = "runtime.NumGoroutine" := by simpa using hname
  simp [callFunc, hf, h1, hb]

/-- A condition: called in any world behind w0 it tells b. -/
def CondAt (w0 : World) (F : Value) (b : Bool) : Prop :=
  ∃ k fs, (∀ args w, (callFunc k args).run Tryz.prog w = .ok (.enter k args) w) ∧ F = .func (.func k) fs #[] ∧ ∀ w, Below w0.heap.size w0 w → Calls Tryz.prog k fs w fun e w' => e = .returned (.bool b) ∧ Below w.heap.size w w'

set_option maxRecDepth 100000 in
set_option maxHeartbeats 400000 in
theorem allHold_any (B n : Nat) (F : Nat → Value) (b : Nat → Bool) (w : World) (hn : n ≤ 100) (hB : B < w.heap.size)
    (hcell : ∀ i, i < n → w.cell? ⟨B, i, none⟩ = some (F i)) (hc : ∀ i, i < n → (∀ j, j < i → b j = true) → CondAt w (F i) (b i)) :
    Calls Tryz.prog 74 #[.slice (some ⟨B, 0, none⟩) n n] w fun e w' => e = .returned (.bool ((List.range n).all b)) ∧ Below w.heap.size w w' := by
  have HC := hide hc
  have HL := hide hcell
  clear hc hcell
  go_enter Tryz.func74, Tryz.ntmps74
  go_wp2
  go_loopw [7] (fun i w' => ∃ k : Nat, k ≤ n ∧ i = .int .i64 k ∧ (∀ j, j < k → b j = true) ∧ Below w.heap.size w w') (fun i _ => n - (intOf i).toNat)
  case atStart => exact ⟨0, Nat.zero_le _, rfl, fun j hj => by omega, Below.refl _ _⟩
  case round =>
    obtain ⟨k, hk, rfl, hall, hbel⟩ := hrel
    by_cases hlt : k < n
    · obtain ⟨kf, fs, hrun, hF, hcall⟩ := HC.out k hlt hall
      have hcl : wr.cell? ⟨B, k, none⟩ = some (.func (.func kf) fs #[]) := by
        rw [(bcell hbel).1 _ _ hB, HL.out k hlt, hF]
      have hk0 : (0 : Int) ≤ (k : Int) := by omega
      have hkn : (k : Int) < (n : Int) := by omega
      have HCALL := hide hcall
      have HALL := hide hall
      have HF := hide hF
      clear hcall hall hF
      cases hbk : b k
      · go_wp2_with ((refine (HCALL.out _ hbel).mono ?_; rintro e w' ⟨rfl, hb⟩))
        all_goals go_ret
        all_goals exact ⟨ret_bool (by symm; rw [List.all_eq_false]; exact ⟨k, by simpa using hlt, by simp [hbk]⟩), bel_trans hbel hb⟩
      · go_wp2_with ((refine (HCALL.out _ hbel).mono ?_; rintro e w' ⟨rfl, hb⟩))
        go_roundw
        case rel => exact ⟨k + 1, by omega, by go_num, fun j hj => by
          by_cases hjk : j = k
          · subst hjk; exact hbk
          · exact HALL.out j (by omega), bel_trans hbel hb⟩
        case measure => simp [intOf]; omega
    · go_wp2
      go_ret
      exact ⟨ret_bool (by symm; rw [List.all_eq_true]; intro i hi; exact hall i (by simp at hi; omega)), hbel⟩
end Go.Proofs.YthdlkpgialmlfaaGreatDoor
