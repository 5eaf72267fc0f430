/- What is asked, whole: the document's answer. -/
import Derived.Test.YtoceohacplmgnaaGreatDoorSb
namespace Go.Proofs.YtoceohacplmgnaaGreatDoor
open Go.RowKit

theorem cfgOk_iff (c : Cf) : cfgOk c = true ↔ (1 ≤ c.works.length ∧ c.works.length ≤ 3) ∧ (1 ≤ c.groups.length ∧ c.groups.length ≤ 3) ∧ inB c.start 1 8 = true ∧ inB c.calm 1 8 = true ∧ inB c.idle 1 8 = true ∧ 2 ≤ c.idle ∧ inB c.back 1 8 = true ∧ c.works.all wOk = true ∧ c.groups.all gOk = true := by
  unfold cfgOk worksB groupsB waitsB
  simp only [Bool.and_eq_true, in_iff]
  constructor
  · rintro ⟨⟨⟨⟨h1, h2⟩, h3⟩, ⟨h4, h5⟩, h6⟩, ⟨⟨h7, h8⟩, h9⟩, h10⟩
    exact ⟨by omega, by omega, h7, h8, by omega, by omega, h9, h3, h6⟩
  · rintro ⟨h1, h2, h3, h4, h5, h6, h7, h8, h9⟩
    exact ⟨⟨⟨by omega, h8⟩, by omega, h9⟩, ⟨⟨h3, h4⟩, h7⟩, by omega⟩
theorem not_ok {c : Cf} (h : ¬ ((1 ≤ c.works.length ∧ c.works.length ≤ 3) ∧ (1 ≤ c.groups.length ∧ c.groups.length ≤ 3) ∧ inB c.start 1 8 = true ∧ inB c.calm 1 8 = true ∧ inB c.idle 1 8 = true ∧ 2 ≤ c.idle ∧ inB c.back 1 8 = true ∧ c.works.all wOk = true ∧ c.groups.all gOk = true)) : false = cfgOk c := by
  symm; rw [Bool.eq_false_iff]; exact fun hh => h ((cfgOk_iff c).1 hh)

theorem all_take_false {α : Type} {p : α → Bool} {l : List α} (i : Nat) (hi : i < l.length) (h : p l[i] = false) : l.all p = false := by
  rw [List.all_eq_false]; exact ⟨l[i], List.getElem_mem hi, by simp [h]⟩

set_option maxRecDepth 100000 in
set_option maxHeartbeats 2000000 in
theorem sCfgOk_head (v : Value) (c : Cf) (w : World) (h : CfgAt w v c) (hn : ¬ ((1 ≤ c.works.length ∧ c.works.length ≤ 3) ∧ (1 ≤ c.groups.length ∧ c.groups.length ≤ 3) ∧ inB c.start 1 8 = true ∧ inB c.calm 1 8 = true ∧ inB c.idle 1 8 = true ∧ 2 ≤ c.idle ∧ inB c.back 1 8 = true)) :
    Calls Tryz.prog 46 #[v] w fun e w' => e = .returned (.bool (cfgOk c)) ∧ Below w.heap.size w w' := by
  have hz : cfgOk c = false := (not_ok fun h => hn ⟨h.1, h.2.1, h.2.2.1, h.2.2.2.1, h.2.2.2.2.1, h.2.2.2.2.2.1, h.2.2.2.2.2.2.1⟩).symm
  rw [hz]
  clear hz
  obtain ⟨aw, lw, cw, ag, lg, cg, rfl, ⟨h1, h2, h3⟩, ⟨h4, h5, h6⟩⟩ := h
  rw [h1, h4] at hn
  clear h1 h3 h4 h6
  by_cases q1 : 1 ≤ lw ∧ lw ≤ 3
  · by_cases q2 : 1 ≤ lg ∧ lg ≤ 3
    · have q3 : (1 : Int) ≤ lw := by omega
      have q4 : (lw : Int) ≤ 3 := by omega
      have q5 : (1 : Int) ≤ lg := by omega
      have q6 : (lg : Int) ≤ 3 := by omega
      cases e1 : inB c.start 1 8
      · go_enter Tryz.func46, Tryz.ntmps46
        go_wp2_with (first | (go_at_call 67; refine (sWait_any _ _).mono ?_; rintro e w' ⟨rfl, rfl⟩))
        all_goals go_ret
        all_goals exact ⟨rfl, by go_grown⟩
      · cases e2 : inB c.calm 1 8
        · go_enter Tryz.func46, Tryz.ntmps46
          go_wp2_with (first | (go_at_call 67; refine (sWait_any _ _).mono ?_; rintro e w' ⟨rfl, rfl⟩))
          all_goals go_ret
          all_goals exact ⟨rfl, by go_grown⟩
        · cases e3 : inB c.idle 1 8
          · go_enter Tryz.func46, Tryz.ntmps46
            go_wp2_with (first | (go_at_call 67; refine (sWait_any _ _).mono ?_; rintro e w' ⟨rfl, rfl⟩))
            all_goals go_ret
            all_goals exact ⟨rfl, by go_grown⟩
          · by_cases q7 : 2 ≤ c.idle
            · cases e4 : inB c.back 1 8
              · go_enter Tryz.func46, Tryz.ntmps46
                go_wp2_with (first | (go_at_call 67; refine (sWait_any _ _).mono ?_; rintro e w' ⟨rfl, rfl⟩))
                all_goals go_ret
                all_goals exact ⟨rfl, by go_grown⟩
              · exact absurd ⟨q1, q2, e1, e2, e3, q7, e4⟩ hn
            · have q8 : c.idle < 2 := by omega
              go_enter Tryz.func46, Tryz.ntmps46
              go_wp2_with (first | (go_at_call 67; refine (sWait_any _ _).mono ?_; rintro e w' ⟨rfl, rfl⟩))
              all_goals go_ret
              all_goals exact ⟨rfl, by go_grown⟩
    · go_enter Tryz.func46, Tryz.ntmps46
      go_wp2_with (first | (go_at_call 67; refine (sWait_any _ _).mono ?_; rintro e w' ⟨rfl, rfl⟩))
      all_goals go_ret
      all_goals exact ⟨rfl, by go_grown⟩
  · go_enter Tryz.func46, Tryz.ntmps46
    go_wp2_with (first | (go_at_call 67; refine (sWait_any _ _).mono ?_; rintro e w' ⟨rfl, rfl⟩))
    all_goals go_ret
    all_goals exact ⟨rfl, by go_grown⟩

set_option maxRecDepth 100000 in
set_option maxHeartbeats 2000000 in
theorem sCfgOk_any (v : Value) (c : Cf) (w : World) (h : CfgAt w v c) :
    Calls Tryz.prog 46 #[v] w fun e w' => e = .returned (.bool (cfgOk c)) ∧ Below w.heap.size w w' := by
  by_cases hn : ((1 ≤ c.works.length ∧ c.works.length ≤ 3) ∧ (1 ≤ c.groups.length ∧ c.groups.length ≤ 3) ∧ inB c.start 1 8 = true ∧ inB c.calm 1 8 = true ∧ inB c.idle 1 8 = true ∧ 2 ≤ c.idle ∧ inB c.back 1 8 = true)
  · have fin : Hid (cfgOk c = (c.works.all wOk && c.groups.all gOk)) := by
      show _ = _
      rw [Bool.eq_iff_iff, cfgOk_iff, Bool.and_eq_true]
      exact ⟨fun h => h.2.2.2.2.2.2.2, fun h => ⟨hn.1, hn.2.1, hn.2.2.1, hn.2.2.2.1, hn.2.2.2.2.1, hn.2.2.2.2.2.1, hn.2.2.2.2.2.2, h⟩⟩
    obtain ⟨aw, lw, cw, ag, lg, cg, rfl, ⟨h1, h2, h3⟩, ⟨h4, h5, h6⟩⟩ := h
    obtain ⟨q1, q2, e1, e2, e3, q7, e4⟩ := hn
    have H1 := hide h1
    have H3 := hide h3
    have H4 := hide h4
    have H6 := hide h6
    rw [h1] at q1
    rw [h4] at q2
    clear h1 h3 h4 h6
    have q3 : (1 : Int) ≤ lw := by omega
    have q4 : (lw : Int) ≤ 3 := by omega
    have q5 : (1 : Int) ≤ lg := by omega
    have q6 : (lg : Int) ≤ 3 := by omega
    go_enter Tryz.func46, Tryz.ntmps46
    go_wp2_with (first | (go_at_call 67; refine (sWait_any _ _).mono ?_; rintro e w' ⟨rfl, rfl⟩))
    go_loopw [3] (fun i w' => ∃ k : Nat, k ≤ lw ∧ i = .int .i64 k ∧ Hid ((c.works.take k).all wOk = true) ∧ Below w.heap.size w w' ∧ w.heap.size < w'.heap.size ∧ w'.cell? ⟨w.heap.size, 0, none⟩ = some (.slice aw lw cw) ∧ w'.cell? ⟨w.heap.size, 1, none⟩ = some (.slice ag lg cg)) (fun i _ => lw - (intOf i).toNat)
    case atStart => exact ⟨0, Nat.zero_le _, rfl, by simp [Hid], by go_grown, by simp, by simp [go_sem], by simp [go_sem]⟩
    case round =>
      obtain ⟨k, hk, rfl, hall, hbel, hz, d0, d1⟩ := hrel
      by_cases hlt : k < lw
      · obtain ⟨b, o, ha, hbl, c0, c1, c2, c3, c4, c5, c6, c7⟩ := (H3.out.keep hbel).at k (by rw [H1.out]; exact hlt)
        subst ha
        have hk0 : (0 : Int) ≤ (k : Int) := by omega
        have hkn : (k : Int) < (lw : Int) := by omega
        have hkl : k < c.works.length := by rw [H1.out]; exact hlt
        cases hw : wOk c.works[k]
        · go_wp2_with (first | (go_at_call 68; refine (sWork_any c.works[k] _).mono ?_; rintro e w2 ⟨rfl, hb⟩))
          all_goals go_ret
          all_goals exact ⟨ret_bool (by rw [fin.out, all_take_false k hkl hw]; rfl), bel_trans hbel hb⟩
        · have HW := hide hw
          go_wp2_with (first | (go_at_call 68; refine (sWork_any c.works[k] _).mono ?_; rintro e w2 ⟨rfl, hb⟩))
          go_roundw
          case rel =>
            refine ⟨k + 1, by omega, by go_num, ?_, bel_trans hbel hb, Nat.lt_of_lt_of_le hz hb.size, ?_, ?_⟩
            · show _ = _
              rw [← take_all _ _ _ hkl, hall.out, HW.out]; rfl
            · rw [(bcell hb).1 _ _ hz]; exact d0
            · rw [(bcell hb).1 _ _ hz]; exact d1
          case measure => simp [intOf]; omega
      · have hall' : Hid (c.works.all wOk = true) := by
          have := hall.out
          rwa [List.take_of_length_le (by rw [H1.out]; omega)] at this
        clear hall
        go_wp2
        go_loopw [4] (fun i w' => ∃ k : Nat, k ≤ lg ∧ i = .int .i64 k ∧ Hid ((c.groups.take k).all gOk = true) ∧ Below w.heap.size w w' ∧ w.heap.size < w'.heap.size ∧ w'.cell? ⟨w.heap.size, 1, none⟩ = some (.slice ag lg cg)) (fun i _ => lg - (intOf i).toNat)
        case atStart => exact ⟨0, Nat.zero_le _, rfl, by simp [Hid], hbel, hz, d1⟩
        case round =>
          obtain ⟨j, hj, rfl, hgl, hbel2, hz2, d2⟩ := hrel
          by_cases hlt2 : j < lg
          · obtain ⟨b, o, ha, hbl, c0, c1, c2, c3, c4⟩ := (H6.out.keep hbel2).at j (by rw [H4.out]; exact hlt2)
            subst ha
            have hk0 : (0 : Int) ≤ (j : Int) := by omega
            have hkn : (j : Int) < (lg : Int) := by omega
            have hkl : j < c.groups.length := by rw [H4.out]; exact hlt2
            cases hw : gOk c.groups[j]
            · go_wp2_with (first | (go_at_call 69; refine (sGroup_any c.groups[j] _).mono ?_; rintro e w2 ⟨rfl, hb⟩))
              all_goals go_ret
              all_goals exact ⟨ret_bool (by rw [fin.out, all_take_false j hkl hw, Bool.and_false]), bel_trans hbel2 hb⟩
            · have HW := hide hw
              go_wp2_with (first | (go_at_call 69; refine (sGroup_any c.groups[j] _).mono ?_; rintro e w2 ⟨rfl, hb⟩))
              go_roundw
              case rel =>
                refine ⟨j + 1, by omega, by go_num, ?_, bel_trans hbel2 hb, Nat.lt_of_lt_of_le hz2 hb.size, ?_⟩
                · show _ = _
                  rw [← take_all _ _ _ hkl, hgl.out, HW.out]; rfl
                · rw [(bcell hb).1 _ _ hz2]; exact d2
              case measure => simp [intOf]; omega
          · go_wp2
            go_ret
            refine ⟨ret_bool ?_, hbel2⟩
            have := hgl.out
            rw [List.take_of_length_le (by rw [H4.out]; omega)] at this
            rw [fin.out, hall'.out, this]; rfl
  · exact sCfgOk_head v c w h hn
end Go.Proofs.YtoceohacplmgnaaGreatDoor
