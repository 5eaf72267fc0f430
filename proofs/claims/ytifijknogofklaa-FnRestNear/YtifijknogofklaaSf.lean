/- What is asked, whole: the document's room and bound. -/
import Derived.Test.YtifijknogofklaaSe
namespace Go.Proofs.Ytifijknogofklaa
open Go.RowKit

theorem wrap_of (n : Int) (h0 : 0 ≤ n) (h1 : n ≤ 1000000) : IntKind.i64.wrap n = n := by rw [IntKind.wrap_i64]; omega

set_option maxRecDepth 100000 in
set_option maxHeartbeats 2000000 in
theorem sRoomy_any (v : Value) (c : Cf) (w : World) (h : CfgAt w v c) :
    Calls Try.prog 90 #[v] w fun e w' => e = .returned (.bool (roomyB c)) ∧ Below w.heap.size w w' := by
  have H := hide h
  obtain ⟨aw, lw, cw, ag, lg, cg, rfl, h1, h2⟩ := h
  cases hok : cfgOk c
  · have hp : Hid (roomyB c = false) := by simp [roomyB, hok, Hid]
    clear h1 h2
    go_enter Try.func90, Try.ntmps90
    go_wp2
    refine wp_loop_once ?_
    go_wp2_with (first | (go_at_call 26; refine (sCfgOk_any _ c _ (H.out.keep (by go_grown))).mono ?_; rintro e w1 ⟨rfl, hb⟩; obtain ⟨hc, hf⟩ := bcell hb))
    all_goals go_ret
    all_goals exact ⟨ret_bool hp.out.symm, bel_trans (by go_grown) hb⟩
  · clear h1
    obtain ⟨h1, h3, h4⟩ := h2
    have H1 := hide h1
    have H4 := hide h4
    obtain ⟨k1, k2, k3⟩ := ok_of_groups hok
    have K1 := hide k1
    rw [h1] at k2 k3
    clear h1 h4 k1
    have hp : Hid (roomyB c = c.groups.any (roomG (podsOf c) (mostOfC c) (mostOfM c))) := by simp [roomyB, hok, Hid]
    go_enter Try.func90, Try.ntmps90
    go_wp2
    go_loopw [3] (fun i w' => ∃ k : Nat, k ≤ lg ∧ i = .int .i64 k ∧ Below w.heap.size w w' ∧ w.heap.size < w'.heap.size ∧ Hid ((c.groups.take k).any (roomG (podsOf c) (mostOfC c) (mostOfM c)) = false) ∧ w'.cell? ⟨w.heap.size, 0, none⟩ = some (.slice aw lw cw) ∧ w'.cell? ⟨w.heap.size, 1, none⟩ = some (.slice ag lg cg) ∧ w'.cell? ⟨w.heap.size, 2, none⟩ = some (.int .i64 c.start) ∧ w'.cell? ⟨w.heap.size, 3, none⟩ = some (.int .i64 c.calm) ∧ w'.cell? ⟨w.heap.size, 4, none⟩ = some (.int .i64 c.idle) ∧ w'.cell? ⟨w.heap.size, 5, none⟩ = some (.int .i64 c.back)) (fun i _ => lg - (intOf i).toNat)
    case atStart => exact ⟨0, Nat.zero_le _, rfl, by go_grown, by simp, by simp [Hid], by simp [go_sem]⟩
    case round =>
      obtain ⟨k, hk, rfl, hbel, hz, hany, hsix⟩ := hrel
      have HS := hide hsix
      obtain ⟨d0, d1, d2, d3, d4, d5⟩ := hsix
      by_cases hlt : k < lg
      · obtain ⟨b, o, ha, hbl, c0, c1, c2, c3, c4⟩ := (H4.out.keep hbel).at k (by rw [H1.out]; exact hlt)
        subst ha
        have hk0 : (0 : Int) ≤ (k : Int) := by omega
        have hkn : (k : Int) < (lg : Int) := by omega
        have hkl : k < c.groups.length := by rw [H1.out]; exact hlt
        have hgb := gOk_bd (all_at K1.out k hkl)
        have hsb := slotsI_bd (mostOfC c) (mostOfM c) c.groups[k].cpu c.groups[k].mem
        have hm := mul_bd2 (slotsI (mostOfC c) (mostOfM c) c.groups[k].cpu c.groups[k].mem) c.groups[k].max 10000 8 hsb.1 hsb.2 (by omega) (by omega)
        have hwr := wrap_of _ hm.1 (Int.le_trans hm.2 (by omega))
        clear hgb hsb hm
        by_cases hroom : podsOf c ≤ slotsI (mostOfC c) (mostOfM c) c.groups[k].cpu c.groups[k].mem * c.groups[k].max
        all_goals
          go_wp2_with (first | (go_at_call 26; refine (sCfgOk_any _ c _ (H.out.keep hbel)).mono ?_; rintro e w1 ⟨rfl, hb⟩; obtain ⟨e0, e1, e2, e3, e4, e5⟩ := six_keep hz hb HS.out; have y0 : w.heap.size < w1.heap.size := Nat.lt_of_lt_of_le hz hb.size; have hbl1 : b < w1.heap.size := Nat.lt_of_lt_of_le hbl hb.size; have x0 := ((bcell hb).1 _ _ hbl).trans c0; have x1 := ((bcell hb).1 _ _ hbl).trans c1; have x3 := ((bcell hb).1 _ _ hbl).trans c3; clear c0 c1 c2 c3 c4 d0 d1 d2 d3 d4 d5))
          refine wp_region_below (by kernel_rfl) (by kernel_rfl) ?_
          repeat (first
            | (refine BigFrame.wpQuiet_skip rfl ?_; simp only [Act.put, List.setIfInBounds_toArray, List.set_cons_zero, List.set_cons_succ])
            | (apply quiet_at (hg := rfl); (· (intro w' hw'; obtain ⟨hc, hf⟩ := bcell hw'; go_simp; first | (go_at_call 89; refine (sMost_any _ c _ (H.out.keep (bel_trans (bel_trans hbel hb) hw'))).mono ?_; rintro e w9 ⟨rfl, hb9⟩; exact ⟨rfl, bel_trans hw' hb9⟩) | (go_at_call 97; refine (specSlots_any _ _ _ _ _).mono ?_; rintro e w9 ⟨rfl, hb9⟩; exact ⟨rfl, bel_trans hw' hb9⟩) | (go_at_call 98; refine (sPods_any _ c _ (H.out.keep (bel_trans (bel_trans hbel hb) hw'))).mono ?_; rintro e w9 ⟨rfl, hb9⟩; exact ⟨rfl, bel_trans hw' hb9⟩) | rfl)); simp only [Act.put, List.setIfInBounds_toArray, List.set_cons_zero, List.set_cons_succ]))
          refine wpQuiet_nil ?_
          intro w2 hw2
          go_wp2
        · go_ret
          refine ⟨ret_bool ?_, bel_trans (bel_trans hbel hb) hw2⟩
          rw [hp.out]
          symm
          rw [List.any_eq_true]
          exact ⟨c.groups[k], List.getElem_mem hkl, by simpa [roomG] using hroom⟩
        · go_roundw
          case rel =>
            refine ⟨k + 1, by omega, by go_num, bel_trans (bel_trans hbel hb) hw2, Nat.lt_of_lt_of_le y0 hw2.size, ?_, six_keep y0 hw2 ⟨e0, e1, e2, e3, e4, e5⟩⟩
            show _ = _
            rw [← take_any _ _ _ hkl, hany.out, Bool.false_or]
            simpa [roomG] using hroom
          case measure => simp [intOf]; omega
      · go_wp2_with (first | (go_at_call 26; refine (sCfgOk_any _ c _ (H.out.keep hbel)).mono ?_; rintro e w1 ⟨rfl, hb⟩; obtain ⟨e0, e1, e2, e3, e4, e5⟩ := six_keep hz hb HS.out))
        all_goals go_ret
        all_goals refine ⟨ret_bool ?_, bel_trans hbel hb⟩
        all_goals rw [hp.out, ← hany.out, List.take_of_length_le (by rw [H1.out]; omega)]

end Go.Proofs.Ytifijknogofklaa
