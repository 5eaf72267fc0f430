/- What is asked, whole: the document's greatest size. -/
import Derived.Test.YtifijknogofklaaSd
import Derived.Test.YtifijknogofklaaLast
namespace Go.Proofs.Ytifijknogofklaa
open Go.RowKit

theorem two_keep {W w1 : World} {B : Nat} {x y : Value} (hz : B < W.heap.size) (hb : Below W.heap.size W w1) (h : W.cell? ⟨B, 0, none⟩ = some x ∧ W.cell? ⟨B, 1, none⟩ = some y ∧ W.frozen? ⟨B, 0, none⟩ = false ∧ W.frozen? ⟨B, 1, none⟩ = false) :
    w1.cell? ⟨B, 0, none⟩ = some x ∧ w1.cell? ⟨B, 1, none⟩ = some y ∧ w1.frozen? ⟨B, 0, none⟩ = false ∧ w1.frozen? ⟨B, 1, none⟩ = false := by
  obtain ⟨h0, h1, h2, h3⟩ := h
  have hc := bcell hb
  exact ⟨(hc.1 _ _ hz).trans h0, (hc.1 _ _ hz).trans h1, (hc.2 _ _ hz).trans h2, (hc.2 _ _ hz).trans h3⟩

set_option maxRecDepth 100000 in
set_option maxHeartbeats 2000000 in
theorem sMost_any (v : Value) (c : Cf) (w : World) (h : CfgAt w v c) :
    Calls Try.prog 89 #[v] w fun e w' => e = .returned (.agg #[.int .i64 (mostOfC c), .int .i64 (mostOfM c)]) ∧ Below w.heap.size w w' := by
  have H := hide h
  obtain ⟨aw, lw, cw, ag, lg, cg, rfl, h1, h2⟩ := h
  cases hok : cfgOk c
  · have hp : Hid (mostOfC c = 0 ∧ mostOfM c = 0) := by simp [mostOfC, mostOfM, hok, Hid]
    clear h1 h2
    go_enter Try.func89, Try.ntmps89
    go_wp2
    refine wp_loop_once ?_
    go_wp2_with (first | (go_at_call 26; refine (sCfgOk_any _ c _ (H.out.keep (by go_grown))).mono ?_; rintro e w1 ⟨rfl, hb⟩; obtain ⟨hc, hf⟩ := bcell hb; have hs : w.heap.size + 3 ≤ w1.heap.size := (by have := hb.size; simpa using this); have z2 : w.heap.size + 1 < w1.heap.size := (by omega); have z3 : w.heap.size + 2 < w1.heap.size := (by omega)))
    refine bodyPost_ret (v := .agg #[.int .i64 0, .int .i64 0]) (by simp [results, Try.results89, go_sem, *]) rfl ⟨by rw [hp.out.1, hp.out.2], ?_⟩
    exact ((bel_trans (by go_grown) hb).setCell (by simp) _).setCell (by simp) _
  · obtain ⟨h1, h3, h4⟩ := h1
    have H1 := hide h1
    have H4 := hide h4
    obtain ⟨k1, k2, k3⟩ := ok_of_works hok
    rw [h1] at k2 k3
    clear h1 h2 h4 k1
    have hp : Hid (mostOfC c = mostC c.works ∧ mostOfM c = mostM c.works) := by simp [mostOfC, mostOfM, hok, Hid]
    go_enter Try.func89, Try.ntmps89
    go_wp2
    go_loopw [4] (fun i w' => ∃ k : Nat, k ≤ lw ∧ i = .int .i64 k ∧ Below w.heap.size w w' ∧ w.heap.size + 2 < w'.heap.size ∧ (w'.cell? ⟨w.heap.size + 2, 0, none⟩ = some (.int .i64 (mostC (c.works.take k))) ∧ w'.cell? ⟨w.heap.size + 2, 1, none⟩ = some (.int .i64 (mostM (c.works.take k))) ∧ w'.frozen? ⟨w.heap.size + 2, 0, none⟩ = false ∧ w'.frozen? ⟨w.heap.size + 2, 1, none⟩ = false) ∧ (∃ x y, w'.cell? ⟨w.heap.size + 1, 0, none⟩ = some x ∧ w'.cell? ⟨w.heap.size + 1, 1, none⟩ = some y ∧ w'.frozen? ⟨w.heap.size + 1, 0, none⟩ = false ∧ w'.frozen? ⟨w.heap.size + 1, 1, none⟩ = false) ∧ w'.cell? ⟨w.heap.size, 0, none⟩ = some (.slice aw lw cw) ∧ w'.cell? ⟨w.heap.size, 1, none⟩ = some (.slice ag lg cg) ∧ w'.cell? ⟨w.heap.size, 2, none⟩ = some (.int .i64 c.start) ∧ w'.cell? ⟨w.heap.size, 3, none⟩ = some (.int .i64 c.calm) ∧ w'.cell? ⟨w.heap.size, 4, none⟩ = some (.int .i64 c.idle) ∧ w'.cell? ⟨w.heap.size, 5, none⟩ = some (.int .i64 c.back)) (fun i _ => lw - (intOf i).toNat)
    case atStart => exact ⟨0, Nat.zero_le _, rfl, by go_grown, by simp, by simp [go_sem, mostC, mostM], ⟨_, _, by simp [go_sem]; exact ⟨rfl, rfl⟩⟩, by simp [go_sem]⟩
    case round =>
      obtain ⟨k, hk, rfl, hbel, hz2, hs2, ⟨x, y, hr2⟩, hsix⟩ := hrel
      have hz : w.heap.size < wr.heap.size := by omega
      have hz1 : w.heap.size + 1 < wr.heap.size := by omega
      have HS2 := hide hs2
      have HR2 := hide hr2
      have HS := hide hsix
      obtain ⟨d0, d1, d2, d3, d4, d5⟩ := hsix
      obtain ⟨s0, s1, s2, s3⟩ := hs2
      obtain ⟨r0, r1, r2, r3⟩ := hr2
      by_cases hlt : k < lw
      · obtain ⟨b, o, ha, hbl, c0, c1, c2, c3, c4, c5, c6, c7⟩ := (H4.out.keep hbel).at k (by rw [H1.out]; exact hlt)
        subst ha
        have hk0 : (0 : Int) ≤ (k : Int) := by omega
        have hkn : (k : Int) < (lw : Int) := by omega
        have hkl : k < c.works.length := by rw [H1.out]; exact hlt
        go_wp2_with (first | (go_at_call 26; refine (sCfgOk_any _ c _ (H.out.keep hbel)).mono ?_; rintro e w1 ⟨rfl, hb⟩; obtain ⟨e0, e1, e2, e3, e4, e5⟩ := six_keep hz hb HS.out; obtain ⟨t0, t1, t2, t3⟩ := two_keep hz2 hb HS2.out; have hx0 : w1.cell? ⟨b, o + k * 8, none⟩ = some (.int .i64 c.works[k].cpu) := (by rw [(bcell hb).1 _ _ hbl]; exact c0); have hx1 : w1.cell? ⟨b, o + k * 8 + 1, none⟩ = some (.int .i64 c.works[k].mem) := (by rw [(bcell hb).1 _ _ hbl]; exact c1); have y0 : w.heap.size < w1.heap.size := Nat.lt_of_lt_of_le hz hb.size; have y2 : w.heap.size + 2 < w1.heap.size := Nat.lt_of_lt_of_le hz2 hb.size; have hbl1 : b < w1.heap.size := Nat.lt_of_lt_of_le hbl hb.size))
        refine wp_region_below_last (by kernel_rfl) (by simp) (by kernel_rfl) (by kernel_rfl) ?_
        simp only [frontOf, lastOf]
        repeat (first
          | (refine BigFrame.wpQuiet_skip rfl ?_; simp only [Act.put, List.setIfInBounds_toArray, List.set_cons_zero, List.set_cons_succ])
          | (apply quiet_at (hg := rfl); (· (intro w' hw'; obtain ⟨hc, hf⟩ := bcell hw'; go_simp; first | (go_at_call 88; refine (specMost_any _ _ _ _ _).mono ?_; rintro e w9 ⟨rfl, hb9⟩; exact ⟨rfl, bel_trans hw' hb9⟩) | rfl)); simp only [Act.put, List.setIfInBounds_toArray, List.set_cons_zero, List.set_cons_succ]))
        refine wpQuiet_nil ?_
        intro w2 hw2
        obtain ⟨g0, g1, g2, g3⟩ := two_keep y2 hw2 ⟨t0, t1, t2, t3⟩
        go_wp2
        go_roundw
        case rel =>
          have hb2 := bel_trans hb hw2
          have hsz2 : w.heap.size + 2 < w2.heap.size := Nat.lt_of_lt_of_le y2 hw2.size
          refine ⟨k + 1, by omega, by go_num, ((bel_trans hbel hb2).setCell (by go_size) _).setCell (by go_size) _, by simpa using hsz2, ?_, ⟨x, y, ?_⟩, ?_⟩
          · unfold mostC mostM
            rw [take_foldl _ _ _ _ hkl, take_foldl _ _ _ _ hkl]
            simp [*, go_sem]
          · obtain ⟨p0, p1, p2, p3⟩ := two_keep hz1 hb2 HR2.out
            simp [*, go_sem]
          · obtain ⟨p0, p1, p2, p3, p4, p5⟩ := six_keep hz hb2 HS.out
            simp [*, go_sem]
        case measure => simp [intOf]; omega
      · have hkk : k = lw := by omega
        subst hkk
        go_wp2_with (first | (go_at_call 26; refine (sCfgOk_any _ c _ (H.out.keep hbel)).mono ?_; rintro e w1 ⟨rfl, hb⟩; obtain ⟨e0, e1, e2, e3, e4, e5⟩ := six_keep hz hb HS.out; obtain ⟨t0, t1, t2, t3⟩ := two_keep hz2 hb HS2.out; obtain ⟨p0, p1, p2, p3⟩ := two_keep hz1 hb HR2.out))
        refine bodyPost_ret (v := .agg #[.int .i64 (mostC c.works), .int .i64 (mostM c.works)]) ?_ rfl ⟨by rw [hp.out.1, hp.out.2], ?_⟩
        · rw [List.take_of_length_le (by rw [H1.out]; exact Nat.le_refl _)]
          simp [results, Try.results89, go_sem, *]
        · exact ((bel_trans hbel hb).setCell (by simp) _).setCell (by simp) _
end Go.Proofs.Ytifijknogofklaa
