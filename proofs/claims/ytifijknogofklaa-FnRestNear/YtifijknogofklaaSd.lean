/- What is asked, whole: the document's counts. -/
import Derived.Test.YtifijknogofklaaSc
namespace Go.Proofs.Ytifijknogofklaa
open Go.RowKit

/-- Six cells of a box stay. -/
theorem six_keep {W w1 : World} {B : Nat} {v0 v1 v2 v3 v4 v5 : Value} (hz : B < W.heap.size) (hb : Below W.heap.size W w1)
    (h : W.cell? ⟨B, 0, none⟩ = some v0 ∧ W.cell? ⟨B, 1, none⟩ = some v1 ∧ W.cell? ⟨B, 2, none⟩ = some v2 ∧ W.cell? ⟨B, 3, none⟩ = some v3 ∧ W.cell? ⟨B, 4, none⟩ = some v4 ∧ W.cell? ⟨B, 5, none⟩ = some v5) :
    w1.cell? ⟨B, 0, none⟩ = some v0 ∧ w1.cell? ⟨B, 1, none⟩ = some v1 ∧ w1.cell? ⟨B, 2, none⟩ = some v2 ∧ w1.cell? ⟨B, 3, none⟩ = some v3 ∧ w1.cell? ⟨B, 4, none⟩ = some v4 ∧ w1.cell? ⟨B, 5, none⟩ = some v5 := by
  obtain ⟨h0, h1, h2, h3, h4, h5⟩ := h
  have hc := (bcell hb).1
  exact ⟨(hc _ _ hz).trans h0, (hc _ _ hz).trans h1, (hc _ _ hz).trans h2, (hc _ _ hz).trans h3, (hc _ _ hz).trans h4, (hc _ _ hz).trans h5⟩

set_option maxRecDepth 100000 in
set_option maxHeartbeats 1000000 in
theorem sPods_any (v : Value) (c : Cf) (w : World) (h : CfgAt w v c) :
    Calls Try.prog 98 #[v] w fun e w' => e = .returned (.int .i64 (podsOf c)) ∧ Below w.heap.size w w' := by
  have H := hide h
  obtain ⟨aw, lw, cw, ag, lg, cg, rfl, h1, h2⟩ := h
  cases hok : cfgOk c
  · have hp : Hid (podsOf c = 0) := by simp [podsOf, hok, Hid]
    clear h1 h2
    go_enter Try.func98, Try.ntmps98
    go_wp2
    refine wp_loop_once ?_
    go_wp2_with (first | (go_at_call 26; refine (sCfgOk_any _ c _ (H.out.keep (by go_grown))).mono ?_; rintro e w1 ⟨rfl, hb⟩; obtain ⟨hc, hf⟩ := bcell hb))
    all_goals go_ret
    all_goals exact ⟨ret_int hp.out.symm, bel_trans (by go_grown) hb⟩
  · obtain ⟨h1, h3, h4⟩ := h1
    have H1 := hide h1
    have H4 := hide h4
    obtain ⟨k1, k2, k3⟩ := ok_of_works hok
    have K1 := hide k1
    rw [h1] at k2 k3
    clear h1 h2 h4 k1
    have hp : Hid (podsOf c = sumMax c.works) := by simp [podsOf, hok, Hid]
    go_enter Try.func98, Try.ntmps98
    go_wp2
    go_loopw [3, 4] (fun n i w' => ∃ k : Nat, k ≤ lw ∧ i = .int .i64 k ∧ n = .int .i64 (sumMax (c.works.take k)) ∧ Below w.heap.size w w' ∧ w.heap.size < w'.heap.size ∧ w'.cell? ⟨w.heap.size, 0, none⟩ = some (.slice aw lw cw) ∧ w'.cell? ⟨w.heap.size, 1, none⟩ = some (.slice ag lg cg) ∧ w'.cell? ⟨w.heap.size, 2, none⟩ = some (.int .i64 c.start) ∧ w'.cell? ⟨w.heap.size, 3, none⟩ = some (.int .i64 c.calm) ∧ w'.cell? ⟨w.heap.size, 4, none⟩ = some (.int .i64 c.idle) ∧ w'.cell? ⟨w.heap.size, 5, none⟩ = some (.int .i64 c.back)) (fun _ i _ => lw - (intOf i).toNat)
    case atStart => exact ⟨0, Nat.zero_le _, rfl, by simp [sumMax], by go_grown, by simp, by simp [go_sem]⟩
    case round =>
      obtain ⟨k, hk, rfl, rfl, hbel, hz, hsix⟩ := hrel
      have HS := hide hsix
      obtain ⟨d0, d1, d2, d3, d4, d5⟩ := hsix
      have hsb := sumMax_bd c.works K1.out k
      by_cases hlt : k < lw
      · obtain ⟨b, o, ha, hbl, c0, c1, c2, c3, c4, c5, c6, c7⟩ := (H4.out.keep hbel).at k (by rw [H1.out]; exact hlt)
        subst ha
        have hk0 : (0 : Int) ≤ (k : Int) := by omega
        have hkn : (k : Int) < (lw : Int) := by omega
        have hkl : k < c.works.length := by rw [H1.out]; exact hlt
        have hwb := wOk_bd (all_at K1.out k hkl)
        have m1 : 0 ≤ c.works[k].max := by omega
        have m2 : c.works[k].max ≤ 8 := by omega
        clear hwb
        go_wp2_with (first | (go_at_call 26; refine (sCfgOk_any _ c _ (H.out.keep hbel)).mono ?_; rintro e w1 ⟨rfl, hb⟩; obtain ⟨e0, e1, e2, e3, e4, e5⟩ := six_keep hz hb HS.out; have hx3 : w1.cell? ⟨b, o + k * 8 + 3, none⟩ = some (.int .i64 c.works[k].max) := (by rw [(bcell hb).1 _ _ hbl]; exact c3)))
        go_roundw
        case rel =>
          refine ⟨k + 1, by omega, by go_num, ?_, bel_trans hbel hb, Nat.lt_of_lt_of_le hz hb.size, six_keep hz hb HS.out⟩
          unfold sumMax
          rw [take_sum _ _ _ hkl]
        case measure => simp [intOf]; omega
      · go_wp2_with (first | (go_at_call 26; refine (sCfgOk_any _ c _ (H.out.keep hbel)).mono ?_; rintro e w1 ⟨rfl, hb⟩; obtain ⟨e0, e1, e2, e3, e4, e5⟩ := six_keep hz hb HS.out))
        all_goals go_ret
        all_goals exact ⟨ret_int (by rw [hp.out, List.take_of_length_le (by rw [H1.out]; omega)]), bel_trans hbel hb⟩

end Go.Proofs.Ytifijknogofklaa
