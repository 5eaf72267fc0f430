/- What is asked, whole: the bound. -/
import Derived.Test.YtmcpggbibonolaaW
namespace Go.Proofs.Ytmcpggbibonolaa
open Go.RowKit

def boundI (n b t s k i bk f : Int) : Int := t * ((n + 1) * (b + 3) + s + k + 4) + f * (b + 8 * bk + 3) + (n + 1) * (i + 2)
def boundOf (c : Cf) (f : Int) : Int := if cfgOk c && inB f 0 100 then boundI (nodesOf c) (mostBoot c.groups) (2 + sumTurns c.works) c.start c.calm c.idle c.back f else 0

theorem bound_facts (n b t s k i bk f : Int) (h1 : 0 ≤ n) (h2 : n ≤ 24) (h3 : 0 ≤ b) (h4 : b ≤ 8) (h5 : 0 ≤ t) (h6 : t ≤ 29) (h7 : 1 ≤ s) (h8 : s ≤ 8) (h9 : 1 ≤ k) (h10 : k ≤ 8) (h11 : 2 ≤ i) (h12 : i ≤ 8) (h13 : 1 ≤ bk) (h14 : bk ≤ 8) (h15 : 0 ≤ f) (h16 : f ≤ 100) :
    (0 ≤ (n + 1) * (b + 3) ∧ (n + 1) * (b + 3) ≤ 275) ∧ (0 ≤ t * ((n + 1) * (b + 3) + s + k + 4) ∧ t * ((n + 1) * (b + 3) + s + k + 4) ≤ 8555) ∧ (0 ≤ f * (b + 8 * bk + 3) ∧ f * (b + 8 * bk + 3) ≤ 7500) ∧ (0 ≤ (n + 1) * (i + 2) ∧ (n + 1) * (i + 2) ≤ 250) := by
  have a1 := mul_bd2 (n + 1) (b + 3) 25 11 (by omega) (by omega) (by omega) (by omega)
  have a2 := mul_bd2 t ((n + 1) * (b + 3) + s + k + 4) 29 295 (by omega) (by omega) (by omega) (by omega)
  have a3 := mul_bd2 f (b + 8 * bk + 3) 100 75 (by omega) (by omega) (by omega) (by omega)
  have a4 := mul_bd2 (n + 1) (i + 2) 25 10 (by omega) (by omega) (by omega) (by omega)
  exact ⟨⟨a1.1, by omega⟩, ⟨a2.1, by omega⟩, ⟨a3.1, by omega⟩, ⟨a4.1, by omega⟩⟩

theorem nodesOf_bd (c : Cf) (h : cfgOk c = true) : 0 ≤ nodesOf c ∧ nodesOf c ≤ 24 := by
  obtain ⟨h1, h2, h3⟩ := ok_of_groups h
  have := sumMaxG_bd c.groups h1 c.groups.length
  rw [List.take_of_length_le (Nat.le_refl _)] at this
  simp only [nodesOf, h, if_true]; omega
theorem podsOf_bd (c : Cf) (h : cfgOk c = true) : 0 ≤ podsOf c ∧ podsOf c ≤ 24 := by
  obtain ⟨h1, h2, h3⟩ := ok_of_works h
  have := sumMax_bd c.works h1 c.works.length
  rw [List.take_of_length_le (Nat.le_refl _)] at this
  simp only [podsOf, h, if_true]; omega
theorem mostBoot_bd' (c : Cf) (h : cfgOk c = true) : 0 ≤ mostBoot c.groups ∧ mostBoot c.groups ≤ 8 := by
  obtain ⟨h1, h2, h3⟩ := ok_of_groups h
  have := mostBoot_bd c.groups h1 c.groups.length
  rwa [List.take_of_length_le (Nat.le_refl _)] at this
theorem sumTurns_bd' (c : Cf) (h : cfgOk c = true) : 0 ≤ sumTurns c.works ∧ sumTurns c.works ≤ 27 := by
  obtain ⟨h1, h2, h3⟩ := ok_of_works h
  have := sumTurns_bd c.works h1 c.works.length
  rw [List.take_of_length_le (Nat.le_refl _)] at this
  omega

set_option maxRecDepth 100000 in
set_option maxHeartbeats 1000000 in
theorem bound_any (v : Value) (c : Cf) (f : Int) (w : World) (h : CfgAt w v c) :
    Calls Try.prog 13 #[v, .int .i64 f] w fun e w' => e = .returned (.int .i64 (boundOf c f)) ∧ Below w.heap.size w w' := by
  have H := hide h
  obtain ⟨aw, lw, cw, ag, lg, cg, rfl, h4, h5⟩ := h
  clear h4 h5
  cases hok : cfgOk c
  · have hp : Hid (boundOf c f = 0) := by simp [boundOf, hok, Hid]
    go_enter Try.func13, Try.ntmps13
    go_wp2_with (first | (go_at_call 15; refine (cfgOk_any _ c _ (H.out.keep (by go_grown))).mono ?_; rintro e w1 ⟨rfl, hb⟩; obtain ⟨hc, hf⟩ := bcell hb))
    all_goals go_ret
    all_goals exact ⟨ret_int hp.out.symm, bel_trans (by go_grown) hb⟩
  · cases hin : inB f 0 100
    · have hp : Hid (boundOf c f = 0) := by simp [boundOf, hin, Hid]
      go_enter Try.func13, Try.ntmps13
      go_wp2_with (first | (go_at_call 15; refine (cfgOk_any _ c _ (H.out.keep (by go_grown))).mono ?_; rintro e w1 ⟨rfl, hb⟩; obtain ⟨hc, hf⟩ := bcell hb) | (go_at_call 36; refine (within_any _ _ _ _).mono ?_; rintro e w' ⟨rfl, rfl⟩))
      all_goals go_ret
      all_goals exact ⟨ret_int hp.out.symm, bel_trans (by go_grown) hb⟩
    · have hp : Hid (boundOf c f = boundI (nodesOf c) (mostBoot c.groups) (2 + sumTurns c.works) c.start c.calm c.idle c.back f) := by simp [boundOf, hok, hin, Hid]
      obtain ⟨f1, f2⟩ := in_iff.1 hin
      obtain ⟨n1, n2⟩ := nodesOf_bd c hok
      obtain ⟨b1, b2⟩ := mostBoot_bd' c hok
      obtain ⟨t1, t2⟩ := sumTurns_bd' c hok
      obtain ⟨⟨s1, s2⟩, ⟨k1, k2⟩, ⟨g1, g2⟩, ⟨i1, i2⟩⟩ := ok_of_waits hok
      obtain ⟨⟨p1, p2⟩, ⟨p3, p4⟩, ⟨p5, p6⟩, ⟨p7, p8⟩⟩ := bound_facts (nodesOf c) (mostBoot c.groups) (2 + sumTurns c.works) c.start c.calm c.idle c.back f n1 n2 b1 b2 (by omega) (by omega) s1 s2 k1 k2 i1 i2 g1 g2 f1 f2
      go_enter Try.func13, Try.ntmps13
      go_wp2_with (first | (go_at_call 15; refine (cfgOk_any _ c _ (H.out.keep (by go_grown))).mono ?_; rintro e w1 ⟨rfl, hb⟩; obtain ⟨hc, hf⟩ := bcell hb; have hs : w.heap.size < w1.heap.size := (by have := hb.size; simp at this; omega)) | (go_at_call 36; refine (within_any _ _ _ _).mono ?_; rintro e w' ⟨rfl, rfl⟩))
      refine wp_gen (fun W => Below w.heap.size w W ∧ w.heap.size < W.heap.size ∧ W.cell? ⟨w.heap.size, 0, none⟩ = some (.slice aw lw cw) ∧ W.cell? ⟨w.heap.size, 1, none⟩ = some (.slice ag lg cg) ∧ W.cell? ⟨w.heap.size, 2, none⟩ = some (.int .i64 c.start) ∧ W.cell? ⟨w.heap.size, 3, none⟩ = some (.int .i64 c.calm) ∧ W.cell? ⟨w.heap.size, 4, none⟩ = some (.int .i64 c.idle) ∧ W.cell? ⟨w.heap.size, 5, none⟩ = some (.int .i64 c.back)) ⟨bel_trans (by go_grown) hb, by simp [*, go_sem]⟩ ?_
      clear hc hf hb hs
      rintro W ⟨hW, hz, hcs⟩
      have hS0 := start_6 hcs
      have hSW := self_6 hcs
      go_region_held3 (fun w' => Below W.heap.size W w' ∧ w'.cell? ⟨w.heap.size, 0, none⟩ = some (.slice aw lw cw) ∧ w'.cell? ⟨w.heap.size, 1, none⟩ = some (.slice ag lg cg) ∧ w'.cell? ⟨w.heap.size, 2, none⟩ = some (.int .i64 c.start) ∧ w'.cell? ⟨w.heap.size, 3, none⟩ = some (.int .i64 c.calm) ∧ w'.cell? ⟨w.heap.size, 4, none⟩ = some (.int .i64 c.idle) ∧ w'.cell? ⟨w.heap.size, 5, none⟩ = some (.int .i64 c.back))
        (assumption)
        (first | (go_at_call 20; refine (nodes_any _ c _ (H.out.held hW (by assumption))).mono ?_; rintro e w1 ⟨rfl, hb⟩; have hS1 := keep_6 hz hz hz hz hz hz hb (by assumption)) | (go_at_call 37; refine (boot_any _ c _ (H.out.held hW (by assumption)) hok).mono ?_; rintro e w2 ⟨rfl, hb2⟩; have hS2 := keep_6 hz hz hz hz hz hz hb2 (by assumption)))
      rename_i hh
      have HH := hide hh
      obtain ⟨hh0, d0, d1, d2, d3, d4, d5⟩ := hh
      go_wp2
      have hS5 := drew_6 HH.out
      go_region_held3 (fun w' => Below W.heap.size W w' ∧ w'.cell? ⟨w.heap.size, 0, none⟩ = some (.slice aw lw cw) ∧ w'.cell? ⟨w.heap.size, 1, none⟩ = some (.slice ag lg cg) ∧ w'.cell? ⟨w.heap.size, 2, none⟩ = some (.int .i64 c.start) ∧ w'.cell? ⟨w.heap.size, 3, none⟩ = some (.int .i64 c.calm) ∧ w'.cell? ⟨w.heap.size, 4, none⟩ = some (.int .i64 c.idle) ∧ w'.cell? ⟨w.heap.size, 5, none⟩ = some (.int .i64 c.back))
        (assumption)
        (first | (go_at_call 38; refine (turns_any _ c _ (H.out.held hW (by assumption)) hok).mono ?_; rintro e w3 ⟨rfl, hb3⟩; have hS3 := keep_6 hz hz hz hz hz hz hb3 (by assumption)))
      rename_i hh3
      go_wp2
      go_ret
      refine ⟨ret_int ?_, bel_trans hW hh3.1⟩
      rw [hp.out]
      unfold boundI
      go_unwrap
end Go.Proofs.Ytmcpggbibonolaa
