/- The iterator over the kinds of the components: what it yields, round by round. -/
import Derived.Test.YtllcpchojjlnhaaPu
import Derived.RangeFuncNested
import Derived.RangeFuncBound
import Derived.RangeFuncCalls
import Derived.RangeFuncLeaves
import Derived.Shelf.Abstract
import Derived.Shelf.RegionOpen
import Derived.WalkKit
import Derived.OwnWalkIn
import Derived.TacticsInMore
import Derived.Deep.RegionWith
import Derived.BigRegion
import Derived.LoopIn
import Derived.LoopNIn
namespace Go.Proofs.Ytllcpchojjlnhaa
open Go.RowKit Go.Sort Go.Shelf

theorem grownBy_row {w : World} {g n : Nat} (d : Array Int) : w.grownBy (putRow (Value.int .i64) (Sort.ahead w n) g 0 d) (some g) := by
  refine ⟨rfl, rfl, rfl, by simp, fun k hk hne => ?_⟩
  have : g ≠ k := fun e => hne (by rw [e])
  simp [putRow, mapBlock, Sort.ahead, Array.getElem?_modify, this]

/-- The row of kinds: its block, its cells. -/
def Kinds (W : World) (K : Nat) (ks : List Int) : Prop := Holds (Value.int .i64) W K 0 ks.toArray

theorem kinds_start (W : World) : Holds (Value.int .i64) (W.alloc (.cells #[.int .i64 1, .int .i64 2, .int .i64 3, .int .i64 4, .int .i64 5, .int .i64 6] 3)).drew W.heap.size 0 [1, 2, 3, 4, 5, 6].toArray := by
  have hb : (W.alloc (.cells #[.int .i64 1, .int .i64 2, .int .i64 3, .int .i64 4, .int .i64 5, .int .i64 6] 3)).drew.heap[W.heap.size]? = some (.cells #[.int .i64 1, .int .i64 2, .int .i64 3, .int .i64 4, .int .i64 5, .int .i64 6] 3 (0, 0)) := World.alloc_heap_new W _
  intro j hj
  have hj6 : j < 6 := hj
  refine ⟨?_, by unfold World.frozen?; rw [hb]; simp⟩
  simp only [World.cell?, hb, Nat.zero_add]
  match j, hj6 with
  | 0, _ => rfl
  | 1, _ => rfl
  | 2, _ => rfl
  | 3, _ => rfl
  | 4, _ => rfl
  | 5, _ => rfl

theorem holds_front {W : World} {K : Nat} {xs ys : List Int} (h : Holds (Value.int .i64) W K 0 (xs ++ ys).toArray) : Holds (Value.int .i64) W K 0 xs.toArray := fun j hj => by
  have hj' : j < xs.length := by simpa using hj
  obtain ⟨h1, h2⟩ := h j (by simp; omega)
  refine ⟨?_, h2⟩
  rw [h1]
  simp [hj', List.getElem?_append_left hj']

theorem delete_kinds (W : World) (K k p : Nat) (ks : List Int) (h : Holds (Value.int .i64) W K 0 ks.toArray) (hlk : ks.length = k + 1) (hk : k + 1 ≤ 6) (hp : p < k + 1) (z : Int) (hz : z = (p : Int) + 1) :
    Calls Try.prog 18 #[.slice (some ⟨K, 0, none⟩) (k + 1) 6, .int .i64 (p : Int), .int .i64 z] W.drew fun e w' =>
      e = .returned (.slice (some ⟨K, 0, none⟩) k 6) ∧ Holds (Value.int .i64) w' K 0 (ks.take p ++ ks.drop (p + 1)).toArray ∧ W.grownBy w' (some K) := by
  have h1 := Try.slices_Delete_int K 0 6 p (p + 1) ks W.drew h (by omega) (by omega) (by omega) (by omega)
  rw [hlk] at h1
  subst hz
  have e1 : ((p + 1 : Nat) : Int) = (p : Int) + 1 := by simp
  have e2 : k + 1 - (p + 1 - p) = k := by omega
  rw [e1, e2] at h1
  refine Calls.mono h1 ?_
  intro e w' ⟨he, q, hw⟩
  refine ⟨he, ?_, ?_⟩
  · rw [hw]
    refine holds_front (ys := List.replicate (p + 1 - p) 0) ?_
    exact holds_putRow _ _ _ _ ks.toArray _ h (by simp; omega)
  · rw [hw]
    have := grownBy_row (w := W.drew) (g := K) (n := q) (ks.take p ++ ks.drop (p + 1) ++ List.replicate (p + 1 - p) 0).toArray
    exact ⟨this.os, this.tape, this.output, this.size, this.block⟩

set_option maxRecDepth 100000 in
set_option maxHeartbeats 2000000 in
theorem kinds_in (m l Bn : Nat) (n : Int) (J : List Int → World → Prop) (W : World)
    (hB : W.cell? ⟨Bn, 0, none⟩ = some (.int .i64 n)) (hn : -9223372036854775808 ≤ n ∧ n ≤ 9223372036854775807)
    (hJ : ∀ pre A B, J pre A → A.grownBy B (some W.heap.size) → J pre B)
    (hY : ∀ pre x W1, J pre W1 → W.heap.size < W1.heap.size → pre.length < 6 → YieldAt Fence.wide m Try.prog l #[.int .i64 x] W1 fun e W' => e = .returned (.bool true) ∧ J (pre ++ [x]) W' ∧ W'.heap[W.heap.size]? = W1.heap[W.heap.size]?)
    (h0 : J [] W) :
    CallsIn Fence.wide (m + 1) Try.prog 17 #[.func (.yield l) #[] #[], .pointer (some ⟨Bn, 0, none⟩)] W fun e W' => (∃ v, e = .returned v) ∧ J (ordI n) W' := by
  have hBl : Bn < W.heap.size := World.block_lt_of_cell? W ⟨Bn, 0, none⟩ hB
  have hnr : IntKind.i64.wrap n = n := IntWalk.i64_in n hn
  refine callsIn_of_wp Try.func17 rfl trivial ?_ rfl
  simp only [Try.ntmps17, List.size_toArray, List.length_cons, List.length_nil, Nat.reduceAdd, Nat.reduceSub, Array.replicate_succ, Array.replicate_zero, List.push_toArray, List.append_toArray, List.nil_append, List.cons_append]
  gi_wp2
  gi_region
  have hW1 : J [] (W.alloc (.cells #[.int .i64 1, .int .i64 2, .int .i64 3, .int .i64 4, .int .i64 5, .int .i64 6] 3)).drew :=
    hJ [] W _ h0 ⟨rfl, rfl, rfl, by simp [World.drew], fun k hk _ => Below.heap_alloc W _ k hk⟩
  have hH1 : Holds (Value.int .i64) (W.alloc (.cells #[.int .i64 1, .int .i64 2, .int .i64 3, .int .i64 4, .int .i64 5, .int .i64 6] 3)).drew W.heap.size 0 [1, 2, 3, 4, 5, 6].toArray := kinds_start W
  obtain ⟨W1, hW1e⟩ : ∃ W1, (W.alloc (.cells #[.int .i64 1, .int .i64 2, .int .i64 3, .int .i64 4, .int .i64 5, .int .i64 6] 3)).drew = W1 := ⟨_, rfl⟩
  have hs1 : W.heap.size < W1.heap.size := by rw [← hW1e]; simp [World.drew]
  rw [hW1e] at hW1 hH1 ⊢
  clear hW1e h0
  have hr9 : restOf n ≤ 9223372036854775807 := by unfold restOf; split <;> omega
  gi_wp2
  all_goals
    have hr6 : (restOf n : Int) = (if n < 0 then -(n + 1) else n) := by unfold restOf; split <;> omega
    first
      | (have hneg : n < 0 := by assumption
         rw [if_pos hneg] at hr6
         rw [decide_eq_true hneg]
         clear hneg)
      | rw [if_neg (by omega)] at hr6
    gi_loopw [3, 4, 5] (fun s3 s4 s5 wr => ∃ (k r : Nat) (ks pre : List Int), s3 = .slice (some ⟨W.heap.size, 0, none⟩) k 6 ∧ s4 = .int .i64 (r : Int) ∧ s5 = .int .i64 (k : Int) ∧ ks.length = k ∧ r ≤ 9223372036854775807 ∧ Holds (Value.int .i64) wr W.heap.size 0 ks.toArray ∧ pre ++ ordF k ks r = ordI n ∧ J pre wr ∧ W.heap.size < wr.heap.size) (fun _ _ s5 _ => (intOf s5).toNat)
    case atStart =>
      exact ⟨6, restOf n, [1, 2, 3, 4, 5, 6], [], rfl, by rw [hr6]; try rfl, rfl, rfl, hr9, hH1, rfl, hW1, hs1⟩
    case round =>
      obtain ⟨k, r, ks, pre, rfl, rfl, rfl, hlk, hr9, hH, hpre, hJp, hsz⟩ := hrel
      cases k with
      | zero =>
        gi_wp2
        go_end0
        exact ⟨⟨_, rfl⟩, by rw [← hpre]; simpa [ordF] using hJp⟩
      | succ k =>
        have hp : r % (k + 1) < k + 1 := Nat.mod_lt _ (Nat.succ_pos k)
        have hlen : pre.length < 6 := by
          have := congrArg List.length hpre
          rw [List.length_append, ordF_length, ordI_length] at this; omega
        have hk6 : k + 1 ≤ 6 := by
          have := congrArg List.length hpre
          rw [List.length_append, ordF_length, ordI_length] at this; omega
        obtain ⟨p, hpe⟩ : ∃ p, r % (k + 1) = p := ⟨_, rfl⟩
        obtain ⟨x, hx⟩ : ∃ x, ks.getD p 0 = x := ⟨_, rfl⟩
        rw [hpe] at hp
        obtain ⟨hc, hf⟩ := hH p (by simpa [hlk] using hp)
        have hcx : wr.cell? ⟨W.heap.size, p, none⟩ = some (.int .i64 x) := by
          rw [Nat.zero_add] at hc; rw [hc, ← hx]
          simp [List.getD, show p < ks.length by omega]
        obtain ⟨fn, tmps, assign, body, hy, hR⟩ := hY pre x wr hJp hsz hlen
        have hpr : p ≤ r := by rw [← hpe]; exact Nat.mod_le _ _
        have hmod : ((r : Int).tmod ((k : Int) + 1)) = (p : Int) := by rw [← hpe]; rfl
        have hmodw : IntKind.i64.wrap (p : Int) = (p : Int) := IntWalk.i64_in _ (by omega)
        have hdiv : ((r : Int).tdiv ((k : Int) + 1)) = ((r / (k + 1) : Nat) : Int) := rfl
        have hdel : ∀ W', Holds (Value.int .i64) W' W.heap.size 0 ks.toArray → ∀ z, z = (p : Int) + 1 → Calls Try.prog 18 #[.slice (some ⟨W.heap.size, 0, none⟩) (k + 1) 6, .int .i64 (p : Int), .int .i64 z] W'.drew fun e w' =>
            e = .returned (.slice (some ⟨W.heap.size, 0, none⟩) k 6) ∧ Holds (Value.int .i64) w' W.heap.size 0 (ks.take p ++ ks.drop (p + 1)).toArray ∧ W'.grownBy w' (some W.heap.size) := fun W' h => delete_kinds W' W.heap.size k p ks h hlk hk6 (by omega)
        gi_wp2
        refine hR.mono ?_
        rintro e W3 ⟨rfl, hJ3, hk3⟩
        have hH3 : Holds (Value.int .i64) W3 W.heap.size 0 ks.toArray := fun j hj => ⟨(World.cell?_of_block hk3).trans (hH j hj).1, (World.frozen?_of_block hk3).trans (hH j hj).2⟩
        gi_wp2
        refine (wpIn_wide (n := m + 1)).2 ?_
        have hd := hdel W3 hH3
        clear hdel
        have hs3 : W.heap.size < W3.heap.size := World.block_lt_of_cell? W3 ⟨W.heap.size, 0 + p, none⟩ (hH3 p (by simpa [hlk] using hp)).1
        have hquo : wrap64 ((r : Int) / ((k : Int) + 1)) = ((r / (k + 1) : Nat) : Int) := by
          have h1 : r / (k + 1) ≤ r := Nat.div_le_self _ _
          have h2 : (r : Int) / ((k : Int) + 1) = ((r / (k + 1) : Nat) : Int) := by simp
          rw [h2]
          have h3 : r / (k + 1) ≤ 9223372036854775807 := Nat.le_trans h1 hr9
          generalize r / (k + 1) = y at h3 ⊢
          unfold wrap64; omega
        have hz : IntKind.i64.wrap ((p : Int) + 1) = (p : Int) + 1 := IntWalk.i64_in _ (by omega)
        go_region_with (go_at_call 18; refine Calls.mono (hd _ (by first | exact hz | rfl)) ?_; rintro e w4 ⟨rfl, hH4, hg4⟩)
        all_goals
          have hfin : ∃ (k1 r1 : Nat) (ks1 pre1 : List Int), Value.slice (some ⟨W.heap.size, 0, none⟩) k 6 = .slice (some ⟨W.heap.size, 0, none⟩) k1 6 ∧ Value.int .i64 ((r : Int) / ((k : Int) + 1)) = .int .i64 (r1 : Int) ∧ Value.int .i64 (k : Int) = .int .i64 (k1 : Int) ∧ ks1.length = k1 ∧ r1 ≤ 9223372036854775807 ∧ Holds (Value.int .i64) w4 W.heap.size 0 ks1.toArray ∧ pre1 ++ ordF k1 ks1 r1 = ordI n ∧ J pre1 w4 ∧ W.heap.size < w4.heap.size :=
            ⟨k, r / (k + 1), ks.take p ++ ks.drop (p + 1), pre ++ [x], rfl, by simp, rfl, by rw [cut_length ks p (by omega), hlk]; rfl, Nat.le_trans (Nat.div_le_self _ _) hr9, hH4, by rw [← hpre, ordF, hpe, hx]; simp, hJ _ W3 w4 hJ3 hg4, Nat.lt_of_lt_of_le hs3 hg4.size⟩
          gi_wp2
          refine ⟨?_, ?_⟩
          · first
              | exact hfin
              | exact ⟨_, _, _, _, _, _, _, _, _, _, _, _, _, _, _, _, _, _, _, _, _, _, _, _, _, _, hfin, rfl⟩
          · simp [intOf]
end Go.Proofs.Ytllcpchojjlnhaa
