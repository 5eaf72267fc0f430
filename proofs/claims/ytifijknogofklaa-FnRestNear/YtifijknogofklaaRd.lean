/- At rest: what is near enough, by the document. -/
import Derived.Test.YtifijknogofklaaRc
namespace Go.Proofs.Ytifijknogofklaa
open Go.RowKit

set_option maxRecDepth 100000 in
set_option maxHeartbeats 2000000 in
theorem sRestNear_no (v : Value) (c : Cf) (k l p : Int) (w : World) (h : CfgAt w v c) (hok : canL c k l = false) :
    Calls Try.prog 10 #[v, .int .i64 k, .int .i64 l, .int .i64 p] w fun e w' => e = .returned (.bool (restNearB c k l p)) ∧ Below w.heap.size w w' := by
  have H := hide h
  obtain ⟨aw, lw, cw, ag, lg, cg, rfl, ⟨h4, h7, h6⟩, h5⟩ := h
  clear h5 h6
  have hp : Hid (restNearB c k l p = false) := by simp [restNearB, hok, Hid]
  cases h1 : cfgOk c
  · clear hok h4
    go_enter Try.func10, Try.ntmps10
    go_wp2_with (first | (go_at_call 26; refine (sCfgOk_any _ c _ (H.out.keep (by go_grown))).mono ?_; rintro e w1 ⟨rfl, hb⟩; obtain ⟨hc, hf⟩ := bcell hb))
    all_goals go_ret
    all_goals exact ⟨ret_bool hp.out.symm, bel_trans (by go_grown) hb⟩
  · by_cases h2 : k < 0
    · clear hok h4
      go_enter Try.func10, Try.ntmps10
      go_wp2_with (first | (go_at_call 26; refine (sCfgOk_any _ c _ (H.out.keep (by go_grown))).mono ?_; rintro e w1 ⟨rfl, hb⟩; obtain ⟨hc, hf⟩ := bcell hb))
      all_goals go_ret
      all_goals exact ⟨ret_bool hp.out.symm, bel_trans (by go_grown) hb⟩
    · by_cases h3 : (lw : Int) ≤ k
      · clear hok h4
        go_enter Try.func10, Try.ntmps10
        go_wp2_with (first | (go_at_call 26; refine (sCfgOk_any _ c _ (H.out.keep (by go_grown))).mono ?_; rintro e w1 ⟨rfl, hb⟩; obtain ⟨hc, hf⟩ := bcell hb))
        all_goals go_ret
        all_goals exact ⟨ret_bool hp.out.symm, bel_trans (by go_grown) hb⟩
      · by_cases h8 : l < 0
        · clear hok h4
          go_enter Try.func10, Try.ntmps10
          go_wp2_with (first | (go_at_call 26; refine (sCfgOk_any _ c _ (H.out.keep (by go_grown))).mono ?_; rintro e w1 ⟨rfl, hb⟩; obtain ⟨hc, hf⟩ := bcell hb))
          all_goals go_ret
          all_goals exact ⟨ret_bool hp.out.symm, bel_trans (by go_grown) hb⟩
        · have h9 : 1000000 < l := by have := can_parts c k l hok h1 (by omega) (by omega) (by omega); omega
          clear hok h4
          go_enter Try.func10, Try.ntmps10
          go_wp2_with (first | (go_at_call 26; refine (sCfgOk_any _ c _ (H.out.keep (by go_grown))).mono ?_; rintro e w1 ⟨rfl, hb⟩; obtain ⟨hc, hf⟩ := bcell hb))
          all_goals go_ret
          all_goals exact ⟨ret_bool hp.out.symm, bel_trans (by go_grown) hb⟩

set_option maxRecDepth 100000 in
set_option maxHeartbeats 4000000 in
theorem sRestNear_any (v : Value) (c : Cf) (k l p : Int) (w : World) (h : CfgAt w v c) :
    Calls Try.prog 10 #[v, .int .i64 k, .int .i64 l, .int .i64 p] w fun e w' => e = .returned (.bool (restNearB c k l p)) ∧ Below w.heap.size w w' := by
  cases hok : canL c k l
  · exact sRestNear_no v c k l p w h hok
  · have H := hide h
    obtain ⟨aw, lw, cw, ag, lg, cg, rfl, ⟨h4, h7, h6⟩, h5⟩ := h
    have HW := hide h6
    clear h5 h6
    obtain ⟨k1, k2, k3, k4⟩ := canL_iff.1 hok
    obtain ⟨j, rfl, hj⟩ := isAt_nat k2
    have hx := hide (work_ok k1 hj)
    have hr : Hid (restWantI c j l = wantI c.works[j] l) := by simp [restWantI, hok, workOf_nat hj, Hid]
    have hp : Hid (restNearB c j l p = rightI c.works[j] l p) := by simp [restNearB, hok, workOf_nat hj, Hid]
    have HJ := hide hj
    have hk0 : ¬ (j : Int) < 0 := by omega
    have hk1 : (0 : Int) ≤ (j : Int) := by omega
    have hkn : (j : Int) < (lw : Int) := by omega
    have hkm : ¬ (lw : Int) ≤ (j : Int) := by omega
    have hl0 : ¬ l < 0 := by omega
    have hl1 : ¬ 1000000 < l := by omega
    clear k2 h4 hok
    go_enter Try.func10, Try.ntmps10
    go_wp2_with fail
    refine (sCfgOk_any _ c _ (H.out.keep (by go_grown))).mono ?_
    rintro e w1 ⟨rfl, hb⟩
    obtain ⟨hc, hf⟩ := bcell hb
    obtain ⟨b, o, ha, hbl, c0, c1, c2, c3, c4, c5, c6, c7⟩ := (HW.out.keep (bel_trans (by go_grown) hb)).at j HJ.out
    have hz : w.heap.size < w1.heap.size := by have := hb.size; simp at this; omega
    have hBx := hide (show Below w.heap.size w w1 from bel_trans (by go_grown) hb)
    subst ha
    clear HW
    generalize c.works[j] = x at *
    obtain ⟨_, _, _, _, m1, m2, m3, t1, t2, t3, o1, o2, _⟩ := wOk_bd hx.out
    by_cases g1 : p < x.min
    · have hp' : Hid (restNearB c j l p = false) := by rw [Hid, hp.out, rightI, show inB p x.min x.max = false from by simp [inB]; omega]; rfl
      clear hp
      go_wp2
      all_goals go_ret
      all_goals exact ⟨ret_bool hp'.out.symm, hBx.out⟩
    · by_cases g2 : x.max < p
      · have hp' : Hid (restNearB c j l p = false) := by rw [Hid, hp.out, rightI, show inB p x.min x.max = false from by simp [inB]; omega]; rfl
        clear hp
        go_wp2
        all_goals go_ret
        all_goals exact ⟨ret_bool hp'.out.symm, hBx.out⟩
      · have hin : inB p x.min x.max = true := in_iff.2 ⟨by omega, by omega⟩
        by_cases he : p = wantI x l
        · have hp' : Hid (restNearB c j l p = true) := by rw [Hid, hp.out, rightI, hin, ← he]; simp
          have hq : Hid (restWantI c j l = p) := by rw [Hid, hr.out, he]
          clear hp he hin hr
          go_wp2_with fail
          refine (sRestWant_any _ c _ _ _ (H.out.keep hBx.out)).mono ?_
          rintro e w2 ⟨rfl, hb2⟩
          rw [hq.out]
          obtain ⟨hc2, hf2⟩ := bcell hb2
          go_wp2
          all_goals go_ret
          all_goals exact ⟨ret_bool hp'.out.symm, bel_trans hBx.out hb2⟩
        · have hp' : Hid (restNearB c j l p = nearI x l p) := by rw [Hid, hp.out, rightI, hin]; simp [he]
          have hne : Hid (¬ p = wantI x l) := he
          clear hp he hin
          go_wp2_with fail
          refine (sRestWant_any _ c _ _ _ (H.out.keep hBx.out)).mono ?_
          rintro e w2 ⟨rfl, hb2⟩
          rw [hr.out]
          have he := hne.out
          obtain ⟨hc2, hf2⟩ := bcell hb2
          go_wp2_with (first | (go_at_call 27; refine (sNear_any _ _ _ _ k3 (by omega) (by omega) (by omega) (by omega) (by omega) o1 o2).mono ?_; rintro e w3 ⟨rfl, hb3⟩))
          all_goals go_ret
          all_goals exact ⟨ret_bool (by rw [hp'.out]; simp [he]), bel_trans (bel_trans hBx.out hb2) hb3⟩
end Go.Proofs.Ytifijknogofklaa
