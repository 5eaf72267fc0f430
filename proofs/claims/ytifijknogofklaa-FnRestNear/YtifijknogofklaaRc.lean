/- At rest: what a load asks for and what is near it, by the document. -/
import Derived.Test.YtifijknogofklaaRb
import Derived.Test.YtifijknogofklaaSc
namespace Go.Proofs.Ytifijknogofklaa
open Go.RowKit

set_option maxHeartbeats 400000 in
theorem sClamp_any (n lo hi : Int) (w : World) :
    Calls Try.prog 28 #[.int .i64 n, .int .i64 lo, .int .i64 hi] w fun e w' => e = .returned (.int .i64 (maxI lo (minI n hi))) ∧ w' = w := by
  go_enter Try.func28, Try.ntmps28
  go_wp2_with (first | (go_at_call 64; refine (l1Min_any _ _ _).mono ?_; rintro e w' ⟨rfl, rfl⟩) | (go_at_call 63; refine (l1Max_any _ _ _).mono ?_; rintro e w' ⟨rfl, rfl⟩))
  all_goals go_ret
  all_goals exact ⟨rfl, rfl⟩

set_option maxHeartbeats 400000 in
theorem sCeil_any (l t : Int) (w : World) (h1 : 0 ≤ l) (h2 : l ≤ 1000001) (h3 : 1 ≤ t) (h4 : t ≤ 10000) :
    Calls Try.prog 29 #[.int .i64 l, .int .i64 t] w fun e w' => e = .returned (.int .i64 (ceilI l t)) ∧ w' = w := by
  have h5 : 0 < t := by omega
  have h6 : ¬ t = 0 := by omega
  obtain ⟨q0, q1⟩ := ceil_bd h1 h2 h3
  unfold ceilI at q0 q1 ⊢
  go_enter Try.func29, Try.ntmps29
  go_wp2
  all_goals go_ret
  all_goals exact ⟨rfl, rfl⟩

theorem near_abs (m l : Int) : (if l - m < 0 then -(l - m) else l - m) = maxI (l - m) (m - l) := by
  unfold maxI; split <;> split <;> omega

set_option maxRecDepth 100000 in
set_option maxHeartbeats 1000000 in
theorem sNear_any (x : Wk) (l p : Int) (w : World) (h1 : 0 ≤ l) (h2 : l ≤ 1000001) (h3 : 0 ≤ x.target) (h4 : x.target ≤ 10000) (h5 : 0 ≤ p) (h6 : p ≤ 8) (h7 : 0 ≤ x.tol) (h8 : x.tol ≤ 500) :
    Calls Try.prog 27 #[x.v, .int .i64 l, .int .i64 p] w fun e w' => e = .returned (.bool (nearI x l p)) ∧ Below w.heap.size w w' := by
  obtain ⟨m0, m1⟩ := mul_bd3 p x.target 8 10000 h5 h6 h3 h4
  obtain ⟨n0, n1⟩ := mul_bd3 x.tol (p * x.target) 500 80000 h7 h8 m0 (by omega)
  obtain ⟨r0, r1⟩ := mul_bd3 x.tol p 500 8 h7 h8 h5 h6
  have e1 : x.tol * p * x.target = x.tol * (p * x.target) := Int.mul_assoc _ _ _
  have b0 : 0 ≤ x.tol * p * x.target := by omega
  have b1 : x.tol * p * x.target ≤ 40000000 := by omega
  replace r1 : x.tol * p ≤ 4000 := by omega
  replace m1 : p * x.target ≤ 80000 := by omega
  have HE : Hid (nearI x l p = decide (maxI (l - p * x.target) (p * x.target - l) * 1000 ≤ x.tol * p * x.target)) := by
    rw [e1, Int.mul_comm _ (1000 : Int)]; rfl
  clear e1 n0 n1
  by_cases hd : l - p * x.target < 0
  · have HM : Hid (maxI (l - p * x.target) (p * x.target - l) = -(l - p * x.target)) := by rw [← near_abs, if_pos hd]; exact rfl
    go_enter Try.func27, Try.ntmps27
    go_wp2
    all_goals go_ret
    all_goals exact ⟨ret_bool (by rw [HE.out, HM.out]), by go_grown⟩
  · have HM : Hid (maxI (l - p * x.target) (p * x.target - l) = l - p * x.target) := by rw [← near_abs, if_neg hd]; exact rfl
    go_enter Try.func27, Try.ntmps27
    go_wp2
    all_goals go_ret
    all_goals exact ⟨ret_bool (by rw [HE.out, HM.out]), by go_grown⟩

/-- The five conditions of the document, parted. -/
theorem can_parts (c : Cf) (k l : Int) : canL c k l = false → cfgOk c = true → 0 ≤ k → k < (c.works.length : Int) → 0 ≤ l → ¬ l ≤ 1000000 := by
  intro h h1 h2 h3 h4 h5
  simp [canL, h1, isAt, h2, h3, inB, h4, h5] at h

set_option maxRecDepth 100000 in
set_option maxHeartbeats 2000000 in
theorem sRestWant_any (v : Value) (c : Cf) (k l : Int) (w : World) (h : CfgAt w v c) :
    Calls Try.prog 11 #[v, .int .i64 k, .int .i64 l] w fun e w' => e = .returned (.int .i64 (restWantI c k l)) ∧ Below w.heap.size w w' := by
  have H := hide h
  obtain ⟨aw, lw, cw, ag, lg, cg, rfl, ⟨h4, h7, h6⟩, h5⟩ := h
  have HW := hide h6
  have E := hide h4
  clear h5 h6
  cases hok : canL c k l
  · have hp : Hid (restWantI c k l = 0) := by simp [restWantI, hok, Hid]
    cases h1 : cfgOk c
    · clear hok h4
      go_enter Try.func11, Try.ntmps11
      go_wp2_with (first | (go_at_call 26; refine (sCfgOk_any _ c _ (H.out.keep (by go_grown))).mono ?_; rintro e w1 ⟨rfl, hb⟩; obtain ⟨hc, hf⟩ := bcell hb))
      all_goals go_ret
      all_goals exact ⟨ret_int hp.out.symm, bel_trans (by go_grown) hb⟩
    · by_cases h2 : k < 0
      · clear hok h4
        go_enter Try.func11, Try.ntmps11
        go_wp2_with (first | (go_at_call 26; refine (sCfgOk_any _ c _ (H.out.keep (by go_grown))).mono ?_; rintro e w1 ⟨rfl, hb⟩; obtain ⟨hc, hf⟩ := bcell hb))
        all_goals go_ret
        all_goals exact ⟨ret_int hp.out.symm, bel_trans (by go_grown) hb⟩
      · by_cases h3 : (lw : Int) ≤ k
        · clear hok h4
          go_enter Try.func11, Try.ntmps11
          go_wp2_with (first | (go_at_call 26; refine (sCfgOk_any _ c _ (H.out.keep (by go_grown))).mono ?_; rintro e w1 ⟨rfl, hb⟩; obtain ⟨hc, hf⟩ := bcell hb))
          all_goals go_ret
          all_goals exact ⟨ret_int hp.out.symm, bel_trans (by go_grown) hb⟩
        · by_cases h8 : l < 0
          · clear hok h4
            go_enter Try.func11, Try.ntmps11
            go_wp2_with (first | (go_at_call 26; refine (sCfgOk_any _ c _ (H.out.keep (by go_grown))).mono ?_; rintro e w1 ⟨rfl, hb⟩; obtain ⟨hc, hf⟩ := bcell hb))
            all_goals go_ret
            all_goals exact ⟨ret_int hp.out.symm, bel_trans (by go_grown) hb⟩
          · have h9 : 1000000 < l := by have := can_parts c k l hok h1 (by omega) (by omega) (by omega); omega
            clear hok h4
            go_enter Try.func11, Try.ntmps11
            go_wp2_with (first | (go_at_call 26; refine (sCfgOk_any _ c _ (H.out.keep (by go_grown))).mono ?_; rintro e w1 ⟨rfl, hb⟩; obtain ⟨hc, hf⟩ := bcell hb))
            all_goals go_ret
            all_goals exact ⟨ret_int hp.out.symm, bel_trans (by go_grown) hb⟩
  · obtain ⟨k1, k2, k3, k4⟩ := canL_iff.1 hok
    obtain ⟨j, rfl, hj⟩ := isAt_nat k2
    have hx := hide (work_ok k1 hj)
    have hp : Hid (restWantI c j l = wantI c.works[j] l) := by simp [restWantI, hok, workOf_nat hj, Hid]
    obtain ⟨_, _, _, _, _, _, _, t1, t2, t3, _⟩ := wOk_bd hx.out
    have HJ := hide hj
    have hk0 : ¬ (j : Int) < 0 := by omega
    have hk1 : (0 : Int) ≤ (j : Int) := by omega
    have hkn : (j : Int) < (lw : Int) := by omega
    have hkm : ¬ (lw : Int) ≤ (j : Int) := by omega
    have hl0 : ¬ l < 0 := by omega
    have hl1 : ¬ 1000000 < l := by omega
    clear k2 h4
    go_enter Try.func11, Try.ntmps11
    go_wp2_with fail
    refine (sCfgOk_any _ c _ (H.out.keep (by go_grown))).mono ?_
    rintro e w1 ⟨rfl, hb⟩
    obtain ⟨hc, hf⟩ := bcell hb
    obtain ⟨b, o, ha, hbl, c0, c1, c2, c3, c4, c5, c6, c7⟩ := (HW.out.keep (bel_trans (by go_grown) hb)).at j HJ.out
    have hBx : Below w.heap.size w w1 := bel_trans (by go_grown) hb
    subst ha
    clear hx HW
    generalize c.works[j] = x at *
    go_wp2
    go_region_held3 (fun w' => w'.cell? ⟨w1.heap.size, 4, none⟩ = some (.int .i64 x.target) ∧ w'.cell? ⟨w1.heap.size, 2, none⟩ = some (.int .i64 x.min) ∧ w'.cell? ⟨w1.heap.size, 3, none⟩ = some (.int .i64 x.max)) (go_keep)
      (first | (go_at_call 29; refine (sCeil_any _ _ _ k3 (by omega) t1 (by omega)).mono ?_; rintro e w' ⟨rfl, rfl⟩) | (go_at_call 28; refine (sClamp_any _ _ _ _).mono ?_; rintro e w' ⟨rfl, rfl⟩))
    all_goals go_wp2
    all_goals go_ret
    all_goals exact ⟨ret_int hp.out.symm, bel_trans hBx (by go_grown)⟩
end Go.Proofs.Ytifijknogofklaa
