/- The order of the components by a number, plainly: facts on lists of numbers. -/
import Derived.Test.YtllcpchojjlnhaaSh
namespace Go.Proofs.Ytllcpchojjlnhaa

/-- k of the list ks are left; r is what is left of the number. -/
def ordF : Nat → List Int → Nat → List Int
  | 0, _, _ => []
  | k + 1, ks, r => ks.getD (r % (k + 1)) 0 :: ordF k (ks.take (r % (k + 1)) ++ ks.drop (r % (k + 1) + 1)) (r / (k + 1))

/-- A number below 0 is as -(n + 1). -/
def restOf (n : Int) : Nat := if n < 0 then (-(n + 1)).toNat else n.toNat

def ordI (n : Int) : List Int := ordF 6 [1, 2, 3, 4, 5, 6] (restOf n)

theorem ordF_length : ∀ (k : Nat) (ks : List Int) (r : Nat), (ordF k ks r).length = k
  | 0, _, _ => rfl
  | k + 1, ks, r => by simp [ordF, ordF_length k]

theorem ordI_length (n : Int) : (ordI n).length = 6 := ordF_length _ _ _

theorem take_drop_perm (ks : List Int) (p : Nat) (h : p < ks.length) : (ks.getD p 0 :: (ks.take p ++ ks.drop (p + 1))).Perm ks := by
  have e : ks.getD p 0 = ks[p] := by simp [List.getD, h]
  have d : ks.drop p = ks[p] :: ks.drop (p + 1) := List.drop_eq_getElem_cons h
  rw [e]
  have h1 : (ks[p] :: (ks.take p ++ ks.drop (p + 1))).Perm (ks.take p ++ ks[p] :: ks.drop (p + 1)) := List.perm_middle.symm
  rw [← d, List.take_append_drop] at h1
  exact h1

theorem cut_length (ks : List Int) (p : Nat) (h : p < ks.length) : (ks.take p ++ ks.drop (p + 1)).length = ks.length - 1 := by
  simp; omega

theorem ordF_perm : ∀ (k : Nat) (ks : List Int) (r : Nat), ks.length = k → (ordF k ks r).Perm ks
  | 0, ks, r, h => by
    have : ks = [] := List.length_eq_zero_iff.1 h
    subst this; exact .refl _
  | k + 1, ks, r, h => by
    have hp : r % (k + 1) < ks.length := by rw [h]; exact Nat.mod_lt _ (Nat.succ_pos k)
    refine .trans (.cons _ (ordF_perm k _ _ ?_)) (take_drop_perm ks _ hp)
    rw [cut_length ks _ hp, h]; rfl

theorem ordI_perm (n : Int) : (ordI n).Perm [1, 2, 3, 4, 5, 6] := ordF_perm 6 _ _ rfl
theorem ordI_nodup (n : Int) : (ordI n).Nodup := (ordI_perm n).nodup_iff.2 (by decide)
theorem ordI_in (n : Int) (x : Int) (h : x ∈ ordI n) : 1 ≤ x ∧ x ≤ 6 := by
  have := (ordI_perm n).mem_iff.1 h
  simp at this; omega

end Go.Proofs.Ytllcpchojjlnhaa
