/- Texts: what is asked, as the document writes it. -/
import Derived.Test.YthdlkpgialmlfaaGreatDoorTb
import Derived.Test.YthdlkpgialmlfaaGreatDoorX
import Derived.Test.YthdlkpgialmlfaaGreatDoorBk
namespace Go.Proofs.YthdlkpgialmlfaaGreatDoor
open Go.RowKit

theorem ints_new (w : World) (l : List Int) (T : TypeId) : IntsAt (w.alloc (.cells (l.map (Value.int .i64)).toArray T)) (some ⟨w.heap.size, 0, none⟩) l := by
  refine .inr ⟨w.heap.size, 0, rfl, by simp, fun i hi => ?_⟩
  rw [(Blk.new w _ T).cell]
  simp [hi]
theorem nums_lit (l : List Int) (r : Nat) (cs : Array Value) (n cap : Nat) (w : World) (hs : r = w.heap.size) (hcs : cs = (l.map (Value.int .i64)).toArray) (hlen : l.length = n) (hn : n ≤ 100) (hr : ∀ x ∈ l, I64 x) :
    Calls Tryz.prog 45 #[.slice (some ⟨r, 0, none⟩) n cap] (w.alloc (.cells cs 3)) fun e w' => e = .returned (str (numsB l)) ∧ Below w.heap.size w w' := by
  subst hcs hs
  refine (nums_any _ n cap l _ hlen (by omega) (ints_new w l 3) hr).mono ?_
  rintro e w' ⟨rfl, hb⟩
  exact ⟨rfl, Below.trans (by go_grown) (hb.mono (by simp))⟩
theorem numsB_length (l : List Int) (h : ∀ x ∈ l, I64 x) : (numsB l).length ≤ 21 * l.length := numsP_length l h _ (Nat.le_refl _)
theorem i64_of {n a b : Int} (h1 : a ≤ n) (h2 : n ≤ b) (h3 : -9223372036854775808 ≤ a := by omega) (h4 : b ≤ 9223372036854775807 := by omega) : I64 n := ⟨by omega, by omega⟩

def workB (x : Wk) : List UInt8 := [10, 119, 111, 114, 107, 32] ++ numsB [x.cpu, x.mem, x.min, x.max, x.target, x.limit, x.tol, x.rank]
def groupB (x : Gp) : List UInt8 := [10, 103, 114, 111, 117, 112, 32] ++ numsB [x.cpu, x.mem, x.min, x.max, x.boot]
def headB (c : Cf) : List UInt8 := [99, 102, 103, 32] ++ numsB [c.start, c.calm, c.idle, c.back]
def worksP (c : Cf) (k : Nat) : List UInt8 := headB c ++ ((c.works.take k).map workB).flatten
def cfgP (c : Cf) (k : Nat) : List UInt8 := worksP c c.works.length ++ ((c.groups.take k).map groupB).flatten
def cfgB (c : Cf) : List UInt8 := if cfgOk c then cfgP c c.groups.length else []

theorem take_flat {α : Type} (f : α → List UInt8) (l : List α) (k : Nat) (h : k < l.length) : ((l.take (k + 1)).map f).flatten = ((l.take k).map f).flatten ++ f l[k] := by
  rw [List.take_succ_eq_append_getElem h]; simp only [List.map_append, List.flatten_append, List.map_cons, List.map_nil, List.flatten_cons, List.flatten_nil, List.append_nil]
theorem wk_i64 {x : Wk} (h : wOk x = true) : ∀ n ∈ [x.cpu, x.mem, x.min, x.max, x.target, x.limit, x.tol, x.rank], I64 n := by
  obtain ⟨h1, h2, h3, h4, h5, h6, h7, h8, h9, h10, h11, h12, h13, h14, _⟩ := wOk_bd h
  intro n hn
  simp only [List.mem_cons, List.not_mem_nil, or_false] at hn
  rcases hn with rfl | rfl | rfl | rfl | rfl | rfl | rfl | rfl <;> exact ⟨by omega, by omega⟩
theorem gp_i64 {x : Gp} (h : gOk x = true) : ∀ n ∈ [x.cpu, x.mem, x.min, x.max, x.boot], I64 n := by
  obtain ⟨h1, h2, h3, h4, h5, h6, h7, h8, h9⟩ := gOk_bd h
  intro n hn
  simp only [List.mem_cons, List.not_mem_nil, or_false] at hn
  rcases hn with rfl | rfl | rfl | rfl | rfl <;> exact ⟨by omega, by omega⟩
theorem hd_i64 {c : Cf} (h : cfgOk c = true) : ∀ n ∈ [c.start, c.calm, c.idle, c.back], I64 n := by
  obtain ⟨⟨s1, s2⟩, ⟨k1, k2⟩, ⟨g1, g2⟩, ⟨i1, i2⟩⟩ := ok_of_waits h
  intro n hn
  simp only [List.mem_cons, List.not_mem_nil, or_false] at hn
  rcases hn with rfl | rfl | rfl | rfl <;> exact ⟨by omega, by omega⟩
theorem worksP_length {c : Cf} (h : cfgOk c = true) : ∀ k, k ≤ c.works.length → (worksP c k).length ≤ 100 + 200 * k
  | 0, _ => by
    have := numsB_length _ (hd_i64 h)
    simp [worksP, headB] at this ⊢
    omega
  | k + 1, hk => by
    have h1 := worksP_length h k (by omega)
    have h2 := numsB_length _ (wk_i64 (all_at (ok_of_works h).1 k (by omega)))
    simp only [worksP, take_flat _ _ k (show k < c.works.length by omega), workB, List.length_append, List.length_cons, List.length_nil] at h1 h2 ⊢
    omega
theorem cfgP_length {c : Cf} (h : cfgOk c = true) : ∀ k, k ≤ c.groups.length → (cfgP c k).length ≤ 1000 + 200 * k
  | 0, _ => by
    have h1 := worksP_length h c.works.length (Nat.le_refl _)
    have := (ok_of_works h).2.2
    simp [cfgP] at h1 ⊢
    omega
  | k + 1, hk => by
    have h1 := cfgP_length h k (by omega)
    have h2 := numsB_length _ (gp_i64 (all_at (ok_of_groups h).1 k (by omega)))
    simp only [cfgP, take_flat _ _ k (show k < c.groups.length by omega), groupB, List.length_append, List.length_cons, List.length_nil] at h1 h2 ⊢
    omega
end Go.Proofs.YthdlkpgialmlfaaGreatDoor
