/- What there is: two lists held against each other (slices.Equal). -/
import Derived.Test.YtifijknogofklaaGa
namespace Go.Proofs.Ytifijknogofklaa
open Go.RowKit

theorem take_next {α : Type} {l l' : List α} {k : Nat} (h : l.take k = l'.take k) (h1 : k < l.length) (h2 : k < l'.length) (e : l[k] = l'[k]) : l.take (k + 1) = l'.take (k + 1) := by
  rw [List.take_succ_eq_append_getElem h1, List.take_succ_eq_append_getElem h2, h, e]
theorem ne_at {α : Type} [DecidableEq α] {l l' : List α} {k : Nat} (h1 : k < l.length) (h2 : k < l'.length) (e : ¬ l[k] = l'[k]) : decide (l = l') = false := by
  apply decide_eq_false
  intro h
  subst h
  exact e rfl
theorem ne_len {α : Type} [DecidableEq α] {l l' : List α} (e : ¬ l.length = l'.length) : decide (l = l') = false := by
  apply decide_eq_false
  intro h
  subst h
  exact e rfl

set_option maxRecDepth 100000 in
set_option maxHeartbeats 4000000 in
theorem equalPods_any (a a' : Option Addr) (len len' cap cap' : Nat) (l l' : List Pd) (w : World) (hlen : l.length = len) (hlen' : l'.length = len') (hn : len ≤ 2000000) (hn' : len' ≤ 2000000) (hl : PodsAt w a l) (hl' : PodsAt w a' l') :
    Calls Try.prog 44 #[.slice a len cap, .slice a' len' cap'] w fun e w' => e = .returned (.bool (decide (l = l'))) ∧ Below w.heap.size w w' := by
  have HL := hide hl
  have HL' := hide hl'
  have HN := hide hlen
  have HN' := hide hlen'
  clear hl hl' hlen hlen'
  by_cases hll : len = len'
  · subst hll
    go_enter Try.func44, Try.ntmps44
    go_wp2
    go_loopw [13] (fun i w' => ∃ k : Nat, k ≤ len ∧ i = .int .i64 k ∧ l.take k = l'.take k ∧ Below w.heap.size w w') (fun i _ => len - (intOf i).toNat)
    case atStart => exact ⟨0, Nat.zero_le _, rfl, by simp, Below.refl _ _⟩
    case round =>
      obtain ⟨k, hk, rfl, htk, hbel⟩ := hrel
      by_cases hlt : k < len
      · have hkl : k < l.length := by rw [HN.out]; exact hlt
        have hkl' : k < l'.length := by rw [HN'.out]; exact hlt
        obtain ⟨b, o, ha, hbl, c0, c1, c2, c3, c4⟩ := (HL.out.keep hbel).at k hkl
        obtain ⟨b', o', ha', hbl', d0, d1, d2, d3, d4⟩ := (HL'.out.keep hbel).at k hkl'
        subst ha ha'
        have hk0 : (0 : Int) ≤ (k : Int) := by omega
        have hkn : (k : Int) < (len : Int) := by omega
        by_cases h0 : l[k].id = l'[k].id
        · by_cases h1 : l[k].work = l'[k].work
          · by_cases h2 : l[k].node = l'[k].node
            · by_cases h3 : l[k].nom = l'[k].nom
              · by_cases h4 : l[k].wait = l'[k].wait
                · have hee : l[k] = l'[k] := (pd_ext _ _).2 ⟨h0, h1, h2, h3, h4⟩
                  go_wp2
                  refine wp_region_below (by kernel_rfl) (by kernel_rfl) ?_
                  repeat (first
                    | (apply quiet_at (hg := rfl); (· (intro w' hw'; obtain ⟨hc, hf⟩ := bcell hw'; go_simp; first | rfl)); simp only [Act.put, List.setIfInBounds_toArray, List.set_cons_zero, List.set_cons_succ]))
                  refine wpQuiet_nil ?_
                  intro w2 hw2
                  go_wp2
                  go_roundw
                  case rel => exact ⟨k + 1, by omega, by go_num, take_next htk hkl hkl' hee, bel_trans hbel hw2⟩
                  case measure => simp [intOf]; omega
                · have hne : ¬ l[k] = l'[k] := fun e => h4 (by rw [e])
                  go_wp2
                  refine wp_region_below (by kernel_rfl) (by kernel_rfl) ?_
                  repeat (first
                    | (apply quiet_at (hg := rfl); (· (intro w' hw'; obtain ⟨hc, hf⟩ := bcell hw'; go_simp; first | rfl)); simp only [Act.put, List.setIfInBounds_toArray, List.set_cons_zero, List.set_cons_succ]))
                  refine wpQuiet_nil ?_
                  intro w2 hw2
                  go_wp2
                  go_ret
                  exact ⟨ret_bool (ne_at hkl hkl' hne).symm, bel_trans hbel hw2⟩
              · have hne : ¬ l[k] = l'[k] := fun e => h3 (by rw [e])
                go_wp2
                refine wp_region_below (by kernel_rfl) (by kernel_rfl) ?_
                repeat (first
                  | (apply quiet_at (hg := rfl); (· (intro w' hw'; obtain ⟨hc, hf⟩ := bcell hw'; go_simp; first | rfl)); simp only [Act.put, List.setIfInBounds_toArray, List.set_cons_zero, List.set_cons_succ]))
                refine wpQuiet_nil ?_
                intro w2 hw2
                go_wp2
                go_ret
                exact ⟨ret_bool (ne_at hkl hkl' hne).symm, bel_trans hbel hw2⟩
            · have hne : ¬ l[k] = l'[k] := fun e => h2 (by rw [e])
              go_wp2
              refine wp_region_below (by kernel_rfl) (by kernel_rfl) ?_
              repeat (first
                | (apply quiet_at (hg := rfl); (· (intro w' hw'; obtain ⟨hc, hf⟩ := bcell hw'; go_simp; first | rfl)); simp only [Act.put, List.setIfInBounds_toArray, List.set_cons_zero, List.set_cons_succ]))
              refine wpQuiet_nil ?_
              intro w2 hw2
              go_wp2
              go_ret
              exact ⟨ret_bool (ne_at hkl hkl' hne).symm, bel_trans hbel hw2⟩
          · have hne : ¬ l[k] = l'[k] := fun e => h1 (by rw [e])
            go_wp2
            refine wp_region_below (by kernel_rfl) (by kernel_rfl) ?_
            repeat (first
              | (apply quiet_at (hg := rfl); (· (intro w' hw'; obtain ⟨hc, hf⟩ := bcell hw'; go_simp; first | rfl)); simp only [Act.put, List.setIfInBounds_toArray, List.set_cons_zero, List.set_cons_succ]))
            refine wpQuiet_nil ?_
            intro w2 hw2
            go_wp2
            go_ret
            exact ⟨ret_bool (ne_at hkl hkl' hne).symm, bel_trans hbel hw2⟩
        · have hne : ¬ l[k] = l'[k] := fun e => h0 (by rw [e])
          go_wp2
          refine wp_region_below (by kernel_rfl) (by kernel_rfl) ?_
          repeat (first
            | (apply quiet_at (hg := rfl); (· (intro w' hw'; obtain ⟨hc, hf⟩ := bcell hw'; go_simp; first | rfl)); simp only [Act.put, List.setIfInBounds_toArray, List.set_cons_zero, List.set_cons_succ]))
          refine wpQuiet_nil ?_
          intro w2 hw2
          go_wp2
          go_ret
          exact ⟨ret_bool (ne_at hkl hkl' hne).symm, bel_trans hbel hw2⟩
      · have hkk : k = len := by omega
        subst hkk
        have hll : l = l' := by
          have h1 : l.take k = l := List.take_of_length_le (by rw [HN.out]; exact Nat.le_refl _)
          have h2 : l'.take k = l' := List.take_of_length_le (by rw [HN'.out]; exact Nat.le_refl _)
          rw [← h1, htk, h2]
        go_wp2
        go_ret
        exact ⟨ret_bool (by simp [hll]), hbel⟩
  · have hne : ¬ (len : Int) = (len' : Int) := by omega
    go_enter Try.func44, Try.ntmps44
    go_wp2
    go_ret
    exact ⟨ret_bool (ne_len (by rw [HN.out, HN'.out]; exact hll)).symm, Below.refl _ _⟩

end Go.Proofs.Ytifijknogofklaa
