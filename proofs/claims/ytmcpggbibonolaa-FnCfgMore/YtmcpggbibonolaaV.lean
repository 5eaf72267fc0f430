/- What is asked, whole: the program's counts, second part. -/
import Derived.Test.YtmcpggbibonolaaU
import Derived.Deep.DeepCutAuto
namespace Go.Proofs.Ytmcpggbibonolaa
open Go.RowKit

def podsOf (c : Cf) : Int := if cfgOk c then sumMax c.works else 0
def nodesOf (c : Cf) : Int := if cfgOk c then sumMaxG c.groups else 0
def mostOfC (c : Cf) : Int := if cfgOk c then mostC c.works else 0
def mostOfM (c : Cf) : Int := if cfgOk c then mostM c.works else 0

set_option maxRecDepth 100000 in
set_option maxHeartbeats 400000 in
theorem pods_any (v : Value) (c : Cf) (w : World) (h : CfgAt w v c) :
    Calls Try.prog 19 #[v] w fun e w' => e = .returned (.int .i64 (podsOf c)) ∧ Below w.heap.size w w' := by
  have H := hide h
  obtain ⟨aw, lw, cw, ag, lg, cg, rfl, ⟨h1, h2, h3⟩, h4⟩ := h
  have H1 := hide h1
  have H3 := hide h3
  clear h1 h3 h4
  cases hok : cfgOk c
  · have hp : podsOf c = 0 := by simp [podsOf, hok]
    go_enter Try.func19, Try.ntmps19
    go_wp2_with (first | (go_at_call 15; refine (cfgOk_any _ c _ (H.out.keep (by go_grown))).mono ?_; rintro e w1 ⟨rfl, hb⟩; obtain ⟨hc, hf⟩ := bcell hb))
    all_goals go_ret
    all_goals exact ⟨ret_int hp.symm, bel_trans (by go_grown) hb⟩
  · have hp : Hid (podsOf c = sumMax c.works) := by simp [podsOf, hok, Hid]
    obtain ⟨k1, k2, k3⟩ := ok_of_works hok
    have K1 := hide k1
    rw [H1.out] at k2 k3
    clear k1
    go_enter Try.func19, Try.ntmps19
    go_wp2_with (first | (go_at_call 15; refine (cfgOk_any _ c _ (H.out.keep (by go_grown))).mono ?_; rintro e w1 ⟨rfl, hb⟩; obtain ⟨hc, hf⟩ := bcell hb) | (go_at_call 50; refine (foldW_pods _ _ _ c.works _ H1.out k3 (H3.out.keep (bel_trans (by go_grown) hb)) K1.out).mono ?_; rintro e w2 ⟨rfl, hb2⟩))
    all_goals go_ret
    all_goals exact ⟨ret_int hp.out.symm, bel_trans (bel_trans (by go_grown) hb) hb2⟩

set_option maxRecDepth 100000 in
set_option maxHeartbeats 400000 in
theorem nodes_any (v : Value) (c : Cf) (w : World) (h : CfgAt w v c) :
    Calls Try.prog 20 #[v] w fun e w' => e = .returned (.int .i64 (nodesOf c)) ∧ Below w.heap.size w w' := by
  have H := hide h
  obtain ⟨aw, lw, cw, ag, lg, cg, rfl, h4, ⟨h1, h2, h3⟩⟩ := h
  have H1 := hide h1
  have H3 := hide h3
  clear h1 h3 h4
  cases hok : cfgOk c
  · have hp : nodesOf c = 0 := by simp [nodesOf, hok]
    go_enter Try.func20, Try.ntmps20
    go_wp2_with (first | (go_at_call 15; refine (cfgOk_any _ c _ (H.out.keep (by go_grown))).mono ?_; rintro e w1 ⟨rfl, hb⟩; obtain ⟨hc, hf⟩ := bcell hb))
    all_goals go_ret
    all_goals exact ⟨ret_int hp.symm, bel_trans (by go_grown) hb⟩
  · have hp : Hid (nodesOf c = sumMaxG c.groups) := by simp [nodesOf, hok, Hid]
    obtain ⟨k1, k2, k3⟩ := ok_of_groups hok
    have K1 := hide k1
    rw [H1.out] at k2 k3
    clear k1
    go_enter Try.func20, Try.ntmps20
    go_wp2_with (first | (go_at_call 15; refine (cfgOk_any _ c _ (H.out.keep (by go_grown))).mono ?_; rintro e w1 ⟨rfl, hb⟩; obtain ⟨hc, hf⟩ := bcell hb) | (go_at_call 52; refine (foldG_nodes _ _ _ c.groups _ H1.out k3 (H3.out.keep (bel_trans (by go_grown) hb)) K1.out).mono ?_; rintro e w2 ⟨rfl, hb2⟩))
    all_goals go_ret
    all_goals exact ⟨ret_int hp.out.symm, bel_trans (bel_trans (by go_grown) hb) hb2⟩

set_option maxRecDepth 100000 in
set_option maxHeartbeats 400000 in
theorem turns_any (v : Value) (c : Cf) (w : World) (h : CfgAt w v c) (hok : cfgOk c = true) :
    Calls Try.prog 38 #[v] w fun e w' => e = .returned (.int .i64 (2 + sumTurns c.works)) ∧ Below w.heap.size w w' := by
  obtain ⟨aw, lw, cw, ag, lg, cg, rfl, ⟨h1, h2, h3⟩, h4⟩ := h
  have H1 := hide h1
  have H3 := hide h3
  clear h1 h3 h4
  obtain ⟨k1, k2, k3⟩ := ok_of_works hok
  have K1 := hide k1
  rw [H1.out] at k2 k3
  clear k1
  go_enter Try.func38, Try.ntmps38
  go_wp2_with (first | (go_at_call 50; refine (foldW_turns _ _ _ c.works _ H1.out k3 (H3.out.keep (by go_grown)) K1.out).mono ?_; rintro e w2 ⟨rfl, hb2⟩))
  all_goals go_ret
  all_goals exact ⟨rfl, bel_trans (by go_grown) hb2⟩

set_option maxRecDepth 100000 in
set_option maxHeartbeats 400000 in
theorem boot_any (v : Value) (c : Cf) (w : World) (h : CfgAt w v c) (hok : cfgOk c = true) :
    Calls Try.prog 37 #[v] w fun e w' => e = .returned (.int .i64 (mostBoot c.groups)) ∧ Below w.heap.size w w' := by
  obtain ⟨aw, lw, cw, ag, lg, cg, rfl, h4, ⟨h1, h2, h3⟩⟩ := h
  have H1 := hide h1
  have H3 := hide h3
  clear h1 h3 h4
  obtain ⟨k1, k2, k3⟩ := ok_of_groups hok
  rw [H1.out] at k2 k3
  clear k1
  go_enter Try.func37, Try.ntmps37
  go_wp2_with (first | (go_at_call 52; refine (foldG_boot _ _ _ c.groups _ H1.out k3 (H3.out.keep (by go_grown))).mono ?_; rintro e w2 ⟨rfl, hb2⟩))
  all_goals go_ret
  all_goals exact ⟨rfl, bel_trans (by go_grown) hb2⟩

set_option maxRecDepth 100000 in
set_option maxHeartbeats 400000 in
theorem most_any (v : Value) (c : Cf) (w : World) (h : CfgAt w v c) :
    Calls Try.prog 21 #[v] w fun e w' => e = .returned (.agg #[.int .i64 (mostOfC c), .int .i64 (mostOfM c)]) ∧ Below w.heap.size w w' := by
  have H := hide h
  obtain ⟨aw, lw, cw, ag, lg, cg, rfl, ⟨h1, h2, h3⟩, h4⟩ := h
  have H1 := hide h1
  have H3 := hide h3
  clear h1 h3 h4
  cases hok : cfgOk c
  · have hp : Hid (mostOfC c = 0 ∧ mostOfM c = 0) := by simp [mostOfC, mostOfM, hok, Hid]
    go_enter Try.func21, Try.ntmps21
    go_wp2_with (first | (go_at_call 15; refine (cfgOk_any _ c _ (H.out.keep (by go_grown))).mono ?_; rintro e w1 ⟨rfl, hb⟩; obtain ⟨hc, hf⟩ := bcell hb; have hs : w.heap.size + 2 ≤ w1.heap.size := (by have := hb.size; simpa using this); have z2 : w.heap.size + 1 < w1.heap.size := (by omega)))
    refine bodyPost_ret (v := .agg #[.int .i64 0, .int .i64 0]) (by simp [results, Try.results21, go_sem, *]) rfl ⟨by rw [hp.out.1, hp.out.2], ?_⟩
    exact ((bel_trans (by go_grown) hb).setCell (by simp) _).setCell (by simp) _
  · have hp : Hid (mostOfC c = mostC c.works ∧ mostOfM c = mostM c.works) := by simp [mostOfC, mostOfM, hok, Hid]
    obtain ⟨k1, k2, k3⟩ := ok_of_works hok
    rw [H1.out] at k2 k3
    clear k1
    go_enter Try.func21, Try.ntmps21
    go_wp2_with (first | (go_at_call 15; refine (cfgOk_any _ c _ (H.out.keep (by go_grown))).mono ?_; rintro e w1 ⟨rfl, hb⟩; obtain ⟨hc, hf⟩ := bcell hb; have hs : w.heap.size + 2 ≤ w1.heap.size := (by have := hb.size; simpa using this); have z2 : w.heap.size + 1 < w1.heap.size := (by omega)) | (go_at_call 54; refine (foldW_most _ _ _ c.works _ H1.out k3 (H3.out.keep (bel_trans (by go_grown) hb))).mono ?_; rintro e w2 ⟨rfl, hb2⟩; obtain ⟨hc2, hf2⟩ := bcell hb2; have hs3 : w.heap.size + 2 ≤ w2.heap.size := (by have := hb2.size; omega); have z3 : w.heap.size + 1 < w2.heap.size := (by omega)))
    refine bodyPost_ret (v := .agg #[.int .i64 (mostC c.works), .int .i64 (mostM c.works)]) (by simp [results, Try.results21, go_sem, *]) rfl ⟨by rw [hp.out.1, hp.out.2], ?_⟩
    exact ((bel_trans (bel_trans (by go_grown) hb) hb2).setCell (by simp) _).setCell (by simp) _

end Go.Proofs.Ytmcpggbibonolaa
