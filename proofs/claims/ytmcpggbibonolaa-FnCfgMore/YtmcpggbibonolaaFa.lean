/- Plain facts of what is asked. -/
import Derived.Test.YtmcpggbibonolaaX
namespace Go.Proofs.Ytmcpggbibonolaa

theorem fold_max {α : Type} (f : α → Int) : ∀ (l : List α) (z : Int), z ≤ l.foldl (fun m x => maxI m (f x)) z ∧ ∀ x ∈ l, f x ≤ l.foldl (fun m x => maxI m (f x)) z
  | [], z => ⟨by simp, fun x hx => by cases hx⟩
  | y :: l, z => by
    have h := fold_max f l (maxI z (f y))
    have h1 : z ≤ maxI z (f y) ∧ f y ≤ maxI z (f y) := by unfold maxI; split <;> omega
    refine ⟨Int.le_trans h1.1 h.1, fun x hx => ?_⟩
    rcases List.mem_cons.1 hx with rfl | hx
    · exact Int.le_trans h1.2 h.1
    · exact h.2 x hx
theorem fits_most (c : Cf) (h : cfgOk c = true) (i : Nat) (hi : i < c.works.length) : fitB c.works[i].cpu c.works[i].mem (mostOfC c) (mostOfM c) = true := by
  rw [fit_iff]
  simp only [mostOfC, mostOfM, h, if_true, mostC, mostM]
  exact ⟨(fold_max Wk.cpu c.works 0).2 _ (List.getElem_mem hi), (fold_max Wk.mem c.works 0).2 _ (List.getElem_mem hi)⟩
theorem max_sum : ∀ (l : List Wk), l.all wOk = true → 0 ≤ sumMax l ∧ ∀ x ∈ l, x.max ≤ sumMax l
  | [], _ => ⟨by simp [sumMax], fun x hx => by cases hx⟩
  | y :: l, h => by
    simp only [List.all_cons, Bool.and_eq_true] at h
    have hi := max_sum l h.2
    have hy := wOk_bd h.1
    have e : sumMax (y :: l) = y.max + sumMax l := by simp [sumMax]
    rw [e]
    refine ⟨by omega, fun x hx => ?_⟩
    rcases List.mem_cons.1 hx with rfl | hx
    · omega
    · have := hi.2 x hx; omega
theorem max_pods (c : Cf) (h : cfgOk c = true) (i : Nat) (hi : i < c.works.length) : c.works[i].max ≤ podsOf c := by
  simp only [podsOf, h, if_true]
  exact (max_sum _ (ok_of_works h).1).2 _ (List.getElem_mem hi)
theorem mul_pos2 (a b : Int) (h0 : 0 < a) (h1 : 0 < b) : 0 < a * b := Int.mul_pos h0 h1
theorem bound_more (c : Cf) (h : cfgOk c = true) (f : Int) (h0 : 0 ≤ f) (h1 : f < 100) : boundOf c f < boundOf c (f + 1) ∧ 0 < boundOf c f := by
  have a1 := nodesOf_bd c h
  have a2 := mostBoot_bd' c h
  have a3 := sumTurns_bd' c h
  have a4 := ok_of_waits h
  have b1 := bound_facts (nodesOf c) (mostBoot c.groups) (2 + sumTurns c.works) c.start c.calm c.idle c.back f a1.1 a1.2 a2.1 a2.2 (by omega) (by omega) a4.1.1 a4.1.2 a4.2.1.1 a4.2.1.2 a4.2.2.2.1 a4.2.2.2.2 a4.2.2.1.1 a4.2.2.1.2 h0 (by omega)
  have e1 : inB f 0 100 = true := in_iff.2 ⟨h0, by omega⟩
  have e2 : inB (f + 1) 0 100 = true := in_iff.2 ⟨by omega, by omega⟩
  simp only [boundOf, h, e1, e2, Bool.and_self, if_true, boundI]
  have e3 : (f + 1) * (mostBoot c.groups + 8 * c.back + 3) = f * (mostBoot c.groups + 8 * c.back + 3) + (mostBoot c.groups + 8 * c.back + 3) := by rw [Int.add_mul, Int.one_mul]
  have e4 := mul_pos2 (nodesOf c + 1) (c.idle + 2) (by omega) (by omega)
  rw [e3]
  omega
theorem bound_no (c : Cf) (h : cfgOk c = false) (f : Int) : boundOf c f = 0 := by simp [boundOf, h]
theorem pods_no (c : Cf) (h : cfgOk c = false) : podsOf c = 0 := by simp [podsOf, h]
theorem nodes_no (c : Cf) (h : cfgOk c = false) : nodesOf c = 0 := by simp [nodesOf, h]
theorem roomy_yes (c : Cf) (h : cfgOk c = true) : c.groups.any (roomG (podsOf c) (mostOfC c) (mostOfM c)) = roomyB c := by simp [roomyB, h]
theorem slots_mul (a b c d m : Int) (h0 : 0 ≤ m) (h1 : m ≤ 8) : IntKind.i64.wrap (slotsI a b c d * m) = slotsI a b c d * m := by
  have h := slotsI_bd a b c d
  have := mul_bd2 (slotsI a b c d) m 10000 8 h.1 h.2 h0 h1
  rw [IntKind.wrap_i64]; omega
end Go.Proofs.Ytmcpggbibonolaa
