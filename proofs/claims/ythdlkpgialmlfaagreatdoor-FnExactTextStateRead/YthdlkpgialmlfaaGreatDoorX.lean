/- What is asked, whole: the bound. -/
import Derived.Test.YthdlkpgialmlfaaGreatDoorW
namespace Go.Proofs.YthdlkpgialmlfaaGreatDoor
open Go.RowKit

def boundI (n b t s k i bk f : Int) : Int := t * ((n + 1) * (b + 3) + s + k + 4) + f * (b + 8 * bk + 3) + (n + 1) * (i + 2)
def boundOf (c : Cf) (f : Int) : Int := if cfgOk c && inB f 0 100 then boundI (nodesOf c) (mostBoot c.groups) (2 + sumTurns c.works) c.start c.calm c.idle c.back f else 0

theorem bound_facts (n b t s k i bk f : Int) (h1 : 0 ≤ n) (h2 : n ≤ 24) (h3 : 0 ≤ b) (h4 : b ≤ 8) (h5 : 0 ≤ t) (h6 : t ≤ 29) (h7 : 1 ≤ s) (h8 : s ≤ 8) (h9 : 1 ≤ k) (h10 : k ≤ 8) (h11 : 2 ≤ i) (h12 : i ≤ 8) (h13 : 1 ≤ bk) (h14 : bk ≤ 8) (h15 : 0 ≤ f) (h16 : f ≤ 100) :
    (0 ≤ (n + 1) * (b + 3) ∧ (n + 1) * (b + 3) ≤ 275) ∧ (0 ≤ t * ((n + 1) * (b + 3) + s + k + 4) ∧ t * ((n + 1) * (b + 3) + s + k + 4) ≤ 8555) ∧ (0 ≤ f * (b + 8 * bk + 3) ∧ f * (b + 8 * bk + 3) ≤ 7500) ∧ (0 ≤ (n + 1) * (i + 2) ∧ (n + 1) * (i + 2) ≤ 250) := by
  have a1 := mul_bd2 (n + 1) (b + 3) 25 11 (by omega) (by omega) (by omega) (by omega)
  have a2 := mul_bd2 t ((n + 1) * (b + 3) + s + k + 4) 29 295 (by omega) (by omega) (by omega) (by omega)
  have a3 := mul_bd2 f (b + 8 * bk + 3) 100 75 (by omega) (by omega) (by omega) (by omega)
  have a4 := mul_bd2 (n + 1) (i + 2) 25 10 (by omega) (by omega) (by omega) (by omega)
  exact ⟨⟨a1.1, by omega⟩, ⟨a2.1, by omega⟩, ⟨a3.1, by omega⟩, ⟨a4.1, by omega⟩⟩

theorem nodesOf_bd (c : Cf) (h : cfgOk c = true) : 0 ≤ nodesOf c ∧ nodesOf c ≤ 24 := by
  obtain ⟨h1, h2, h3⟩ := ok_of_groups h
  have := sumMaxG_bd c.groups h1 c.groups.length
  rw [List.take_of_length_le (Nat.le_refl _)] at this
  simp only [nodesOf, h, if_true]; omega
theorem podsOf_bd (c : Cf) (h : cfgOk c = true) : 0 ≤ podsOf c ∧ podsOf c ≤ 24 := by
  obtain ⟨h1, h2, h3⟩ := ok_of_works h
  have := sumMax_bd c.works h1 c.works.length
  rw [List.take_of_length_le (Nat.le_refl _)] at this
  simp only [podsOf, h, if_true]; omega
theorem mostBoot_bd' (c : Cf) (h : cfgOk c = true) : 0 ≤ mostBoot c.groups ∧ mostBoot c.groups ≤ 8 := by
  obtain ⟨h1, h2, h3⟩ := ok_of_groups h
  have := mostBoot_bd c.groups h1 c.groups.length
  rwa [List.take_of_length_le (Nat.le_refl _)] at this
theorem sumTurns_bd' (c : Cf) (h : cfgOk c = true) : 0 ≤ sumTurns c.works ∧ sumTurns c.works ≤ 27 := by
  obtain ⟨h1, h2, h3⟩ := ok_of_works h
  have := sumTurns_bd c.works h1 c.works.length
  rw [List.take_of_length_le (Nat.le_refl _)] at this
  omega
end Go.Proofs.YthdlkpgialmlfaaGreatDoor
