/- At rest: the program's RestWant and RestNear. -/
import Derived.Test.YtifijknogofklaaRa
namespace Go.Proofs.Ytifijknogofklaa
open Go.RowKit

def canL (c : Cf) (k l : Int) : Bool := cfgOk c && isAt k c.works.length && inB l 0 1000000
def workOf (c : Cf) (k : Int) : Wk := (c.works[k.toNat]?).getD ⟨0, 0, 0, 0, 0, 0, 0, 0⟩
def restWantI (c : Cf) (k l : Int) : Int := if canL c k l then wantI (workOf c k) l else 0
def restNearB (c : Cf) (k l p : Int) : Bool := canL c k l && rightI (workOf c k) l p

theorem isAt_nat {k : Int} {n : Nat} (h : isAt k n = true) : ∃ j : Nat, k = (j : Int) ∧ j < n := by
  simp only [isAt, Bool.and_eq_true, decide_eq_true_eq] at h
  exact ⟨k.toNat, by omega, by omega⟩
theorem workOf_nat {c : Cf} {j : Nat} (h : j < c.works.length) : workOf c (j : Int) = c.works[j] := by
  simp [workOf, h]
theorem canL_iff {c : Cf} {k l : Int} : canL c k l = true ↔ cfgOk c = true ∧ isAt k c.works.length = true ∧ 0 ≤ l ∧ l ≤ 1000000 := by
  simp [canL, in_iff, and_assoc]
theorem work_ok {c : Cf} (h : cfgOk c = true) {j : Nat} (hj : j < c.works.length) : wOk c.works[j] = true := all_at (ok_of_works h).1 j hj

set_option maxRecDepth 100000 in
set_option maxHeartbeats 1000000 in
theorem canLoad_any (v : Value) (c : Cf) (k l : Int) (w : World) (h : CfgAt w v c) :
    Calls Try.prog 23 #[v, .int .i64 k, .int .i64 l] w fun e w' => e = .returned (.bool (canL c k l)) ∧ Below w.heap.size w w' := by
  have H := hide h
  obtain ⟨aw, lw, cw, ag, lg, cg, rfl, h4, h5⟩ := h
  have E := hide h4.1
  clear h4 h5
  cases hok : cfgOk c
  · have hp : Hid (canL c k l = false) := by simp [canL, hok, Hid]
    go_enter Try.func23, Try.ntmps23
    go_wp2_with (first | (go_at_call 55; refine (cfgOk_any _ c _ (H.out.keep (by go_grown))).mono ?_; rintro e w1 ⟨rfl, hb⟩; obtain ⟨hc, hf⟩ := bcell hb))
    all_goals go_ret
    all_goals exact ⟨ret_bool hp.out.symm, bel_trans (by go_grown) hb⟩
  · cases hin : isAt k lw
    · have hp : Hid (canL c k l = false) := by simp [canL, E.out, hin, Hid]
      go_enter Try.func23, Try.ntmps23
      go_wp2_with (first | (go_at_call 55; refine (cfgOk_any _ c _ (H.out.keep (by go_grown))).mono ?_; rintro e w1 ⟨rfl, hb⟩; obtain ⟨hc, hf⟩ := bcell hb) | (go_at_call 56; refine (isPlace_any _ _ _ _ _).mono ?_; rintro e w' ⟨rfl, rfl⟩))
      all_goals go_ret
      all_goals exact ⟨ret_bool hp.out.symm, bel_trans (by go_grown) hb⟩
    · have hp : Hid (canL c k l = inB l 0 1000000) := by simp [canL, E.out, hin, hok, Hid]
      go_enter Try.func23, Try.ntmps23
      go_wp2_with (first | (go_at_call 55; refine (cfgOk_any _ c _ (H.out.keep (by go_grown))).mono ?_; rintro e w1 ⟨rfl, hb⟩; obtain ⟨hc, hf⟩ := bcell hb) | (go_at_call 56; refine (isPlace_any _ _ _ _ _).mono ?_; rintro e w' ⟨rfl, rfl⟩) | (go_at_call 57; refine (within_any _ _ _ _).mono ?_; rintro e w' ⟨rfl, rfl⟩))
      all_goals go_ret
      all_goals exact ⟨ret_bool hp.out.symm, bel_trans (by go_grown) hb⟩

set_option maxRecDepth 100000 in
set_option maxHeartbeats 1000000 in
theorem isRight_any (x : Wk) (l p : Int) (w : World) (hx : wOk x = true) (h1 : 0 ≤ l) (h2 : l ≤ 1000001) :
    Calls Try.prog 24 #[x.v, .int .i64 l, .int .i64 p] w fun e w' => e = .returned (.bool (rightI x l p)) ∧ Below w.heap.size w w' := by
  obtain ⟨_, _, _, _, m1, m2, m3, t1, t2, t3, o1, o2, _⟩ := wOk_bd hx
  clear hx
  cases hin : inB p x.min x.max
  · have hp : Hid (rightI x l p = false) := by simp [rightI, hin, Hid]
    go_enter Try.func24, Try.ntmps24
    go_wp2_with (first | (go_at_call 57; refine (within_any _ _ _ _).mono ?_; rintro e w' ⟨rfl, rfl⟩))
    all_goals go_ret
    all_goals exact ⟨ret_bool hp.out.symm, by go_grown⟩
  · obtain ⟨p1, p2⟩ := in_iff.1 hin
    by_cases he : p = wantI x l
    · have hp : Hid (rightI x l p = true) := by simp [rightI, hin, ← he, Hid]
      have hq : Hid (wantI x l = p) := he.symm
      clear he
      go_enter Try.func24, Try.ntmps24
      go_wp2_with fail
      refine (within_any _ _ _ _).mono ?_
      rintro e w' ⟨rfl, rfl⟩
      go_wp2_with fail
      refine (podsFor_any _ _ _ h1 h2 t1 (by omega)).mono ?_
      rintro e w1 ⟨rfl, hb⟩
      rw [hq.out]
      obtain ⟨hc, hf⟩ := bcell hb
      go_wp2
      all_goals go_ret
      all_goals exact ⟨ret_bool hp.out.symm, bel_trans (by go_grown) hb⟩
    · have hp : Hid (rightI x l p = nearI x l p) := by simp [rightI, hin, he, Hid]
      go_enter Try.func24, Try.ntmps24
      go_wp2_with (first | (go_at_call 57; refine (within_any _ _ _ _).mono ?_; rintro e w' ⟨rfl, rfl⟩) | (go_at_call 25; refine (podsFor_any _ _ _ h1 h2 t1 (by omega)).mono ?_; rintro e w1 ⟨rfl, hb⟩; obtain ⟨hc, hf⟩ := bcell hb) | (go_at_call 58; refine (isNear_any _ _ _ _ h1 h2 (by omega) (by omega) (by omega) (by omega) o1 o2).mono ?_; rintro e w2 ⟨rfl, hb2⟩))
      all_goals go_ret
      all_goals exact ⟨ret_bool (by rw [hp.out]; simp [he]), bel_trans (bel_trans (by go_grown) hb) hb2⟩

set_option maxRecDepth 100000 in
set_option maxHeartbeats 1000000 in
theorem restWant_any (v : Value) (c : Cf) (k l : Int) (w : World) (h : CfgAt w v c) :
    Calls Try.prog 9 #[v, .int .i64 k, .int .i64 l] w fun e w' => e = .returned (.int .i64 (restWantI c k l)) ∧ Below w.heap.size w w' := by
  have H := hide h
  obtain ⟨aw, lw, cw, ag, lg, cg, rfl, ⟨h4, h7, h6⟩, h5⟩ := h
  have HW := hide h6
  clear h5 h6
  cases hok : canL c k l
  · have hp : Hid (restWantI c k l = 0) := by simp [restWantI, hok, Hid]
    go_enter Try.func9, Try.ntmps9
    go_wp2_with (first | (go_at_call 23; refine (canLoad_any _ c _ _ _ (H.out.keep (by go_grown))).mono ?_; rintro e w1 ⟨rfl, hb⟩; obtain ⟨hc, hf⟩ := bcell hb))
    all_goals go_ret
    all_goals exact ⟨ret_int hp.out.symm, bel_trans (by go_grown) hb⟩
  · obtain ⟨k1, k2, k3, k4⟩ := canL_iff.1 hok
    obtain ⟨j, rfl, hj⟩ := isAt_nat k2
    have hx := hide (work_ok k1 hj)
    have hp : Hid (restWantI c j l = wantI c.works[j] l) := by simp [restWantI, hok, workOf_nat hj, Hid]
    obtain ⟨_, _, _, _, _, _, _, t1, t2, t3, _⟩ := wOk_bd hx.out
    have HJ := hide hj
    have hk0 : (0 : Int) ≤ (j : Int) := by omega
    have hkn : (j : Int) < (lw : Int) := by omega
    clear k1 k2 h4
    go_enter Try.func9, Try.ntmps9
    go_wp2_with fail
    refine (canLoad_any _ c _ _ _ (H.out.keep (by go_grown))).mono ?_
    rintro e w1 ⟨rfl, hb⟩
    obtain ⟨hc, hf⟩ := bcell hb
    obtain ⟨b, o, ha, hbl, c0, c1, c2, c3, c4, c5, c6, c7⟩ := (HW.out.keep (bel_trans (by go_grown) hb)).at j HJ.out
    have hBx : Below w.heap.size w w1 := bel_trans (by go_grown) hb
    subst ha
    go_wp2_with (first | (go_at_call 25; refine (podsFor_any c.works[j] _ _ k3 (by omega) t1 (by omega)).mono ?_; rintro e w2 ⟨rfl, hb2⟩))
    all_goals go_ret
    all_goals exact ⟨ret_int hp.out.symm, bel_trans hBx hb2⟩

set_option maxRecDepth 100000 in
set_option maxHeartbeats 1000000 in
theorem restNear_any (v : Value) (c : Cf) (k l p : Int) (w : World) (h : CfgAt w v c) :
    Calls Try.prog 8 #[v, .int .i64 k, .int .i64 l, .int .i64 p] w fun e w' => e = .returned (.bool (restNearB c k l p)) ∧ Below w.heap.size w w' := by
  have H := hide h
  obtain ⟨aw, lw, cw, ag, lg, cg, rfl, ⟨h4, h7, h6⟩, h5⟩ := h
  have HW := hide h6
  clear h5 h6
  cases hok : canL c k l
  · have hp : Hid (restNearB c k l p = false) := by simp [restNearB, hok, Hid]
    go_enter Try.func8, Try.ntmps8
    go_wp2_with (first | (go_at_call 23; refine (canLoad_any _ c _ _ _ (H.out.keep (by go_grown))).mono ?_; rintro e w1 ⟨rfl, hb⟩; obtain ⟨hc, hf⟩ := bcell hb))
    all_goals go_ret
    all_goals exact ⟨ret_bool hp.out.symm, bel_trans (by go_grown) hb⟩
  · obtain ⟨k1, k2, k3, k4⟩ := canL_iff.1 hok
    obtain ⟨j, rfl, hj⟩ := isAt_nat k2
    have hx := hide (work_ok k1 hj)
    have hp : Hid (restNearB c j l p = rightI c.works[j] l p) := by simp [restNearB, hok, workOf_nat hj, Hid]
    have HJ := hide hj
    have hk0 : (0 : Int) ≤ (j : Int) := by omega
    have hkn : (j : Int) < (lw : Int) := by omega
    clear k1 k2 h4
    go_enter Try.func8, Try.ntmps8
    go_wp2_with fail
    refine (canLoad_any _ c _ _ _ (H.out.keep (by go_grown))).mono ?_
    rintro e w1 ⟨rfl, hb⟩
    obtain ⟨hc, hf⟩ := bcell hb
    obtain ⟨b, o, ha, hbl, c0, c1, c2, c3, c4, c5, c6, c7⟩ := (HW.out.keep (bel_trans (by go_grown) hb)).at j HJ.out
    have hBx : Below w.heap.size w w1 := bel_trans (by go_grown) hb
    subst ha
    go_wp2_with (first | (go_at_call 24; refine (isRight_any c.works[j] _ _ _ hx.out k3 (by omega)).mono ?_; rintro e w2 ⟨rfl, hb2⟩))
    all_goals go_ret
    all_goals exact ⟨ret_bool hp.out.symm, bel_trans hBx hb2⟩
end Go.Proofs.Ytifijknogofklaa
