/- How many nodes of a group there are: the program's own functions. -/
import Derived.Test.YtcdjklpnjdladaaGa
import Derived.Test.YtcdjklpnjdladaaBk
import Derived.Test.YtcdjklpnjdladaaKeep
namespace Go.Proofs.Ytcdjklpnjdladaa
open Go.RowKit

/-- How many of the nodes name the group g. -/
def cntN (g : Int) (l : List Nd) : Nat := l.countP fun n => decide (n.group = g)
theorem cntN_le (g : Int) (l : List Nd) : cntN g l ≤ l.length := List.countP_le_length
theorem cntN_step (g : Int) (l : List Nd) (i : Nat) (h : i < l.length) : cntN g (l.take (i + 1)) = cntN g (l.take i) + if l[i].group = g then 1 else 0 := by
  unfold cntN
  rw [List.take_succ_eq_append_getElem h, List.countP_append]
  simp
/-- Asked of a place, nought where there is none. -/
def askedAt (s : St) (g : Int) : Int := if 0 ≤ g ∧ g < (s.groups.length : Int) then (s.groups[g.toNat]?.map Gs.asked).getD 0 else 0

theorem askedAt_at (s : St) (g : Int) (h : 0 ≤ g ∧ g < (s.groups.length : Int)) : ∃ n : Nat, ∃ hn : n < s.groups.length, g = n ∧ askedAt s g = s.groups[n].asked := by
  refine ⟨g.toNat, by omega, by omega, ?_⟩
  unfold askedAt
  rw [if_pos h, List.getElem?_eq_getElem (by omega)]
  rfl

set_option maxRecDepth 100000 in
set_option maxHeartbeats 400000 in
theorem cloGroup_any (n : Nd) (A : Nat) (g : Int) (w : World) (hA : A < w.heap.size) (c0 : w.cell? ⟨A, 0, none⟩ = some (.int .i64 g)) :
    Calls Try.prog 77 #[n.v, .pointer (some ⟨A, 0, none⟩)] w fun e w' => e = .returned (.bool (decide (n.group = g))) ∧ Below w.heap.size w w' := by
  go_enter Try.func77, Try.ntmps77
  go_wp2
  all_goals go_ret
  all_goals exact ⟨rfl, by go_grown⟩

set_option maxRecDepth 100000 in
set_option maxHeartbeats 400000 in
theorem cloCount_any (n : Nd) (A B : Nat) (g k : Int) (w : World) (hk : 0 ≤ k ∧ k ≤ 2000000) (hA : A < w.heap.size) (hB : B < w.heap.size) (c0 : w.cell? ⟨A, 0, none⟩ = some (.int .i64 g))
    (c1 : w.cell? ⟨B, 0, none⟩ = some (.func (.func 77) #[] #[.pointer (some ⟨A, 0, none⟩)])) :
    Calls Try.prog 90 #[.int .i64 k, n.v, .pointer (some ⟨B, 0, none⟩)] w fun e w' => e = .returned (.int .i64 (k + if n.group = g then 1 else 0)) ∧ Below w.heap.size w w' := by
  have hrun : ∀ args w, (callFunc 77 args).run Try.prog w = .ok (.enter 77 args) w := run_into Try.func77 (by kernel_rfl) rfl
  cases hg : decide (n.group = g)
  · go_enter Try.func90, Try.ntmps90
    go_wp2_with fail
    refine (cloGroup_any n A g _ ?_ ?_).mono ?_
    · simp; omega
    · simp [*, go_sem]
    rintro e w1 ⟨rfl, hb⟩
    go_wp2
    all_goals go_ret
    all_goals exact ⟨ret_int (by simp_all), bel_trans (by go_grown) hb⟩
  · go_enter Try.func90, Try.ntmps90
    go_wp2_with fail
    refine (cloGroup_any n A g _ ?_ ?_).mono ?_
    · simp; omega
    · simp [*, go_sem]
    rintro e w1 ⟨rfl, hb⟩
    go_wp2
    all_goals go_ret
    all_goals exact ⟨ret_int (by simp_all), bel_trans (by go_grown) hb⟩

set_option maxRecDepth 100000 in
set_option maxHeartbeats 400000 in
theorem foldNodes_any (a : Option Addr) (len cap : Nat) (l : List Nd) (v0 F : Value) (R : Nat → Value → Prop) (w : World) (hlen : l.length = len) (hn : len ≤ 2000000) (hl : NodesAt w a l)
    (hF : StepAt w F Nd.v l R) (h0 : R 0 v0) :
    Calls Try.prog 89 #[.slice a len cap, v0, F] w fun e w' => ∃ v', e = .returned v' ∧ R len v' ∧ Below w.heap.size w w' := by
  obtain ⟨kf, caps, hrun, rfl, hstep⟩ := hF
  have HL := hide hl
  have HS := hide hstep
  have HN := hide hlen
  clear hl hstep hlen
  go_enter Try.func89, Try.ntmps89
  go_wp2
  go_loopw [1, 11] (fun s i w' => ∃ k : Nat, k ≤ len ∧ i = .int .i64 k ∧ Hid (R k s) ∧ Below w.heap.size w w') (fun _ i _ => len - (intOf i).toNat)
  case atStart => exact ⟨0, Nat.zero_le _, rfl, h0, Below.refl _ _⟩
  case round =>
    obtain ⟨k, hk, rfl, hR, hbel⟩ := hrel
    by_cases hlt : k < len
    · obtain ⟨b, o, ha, hbl, c0, c1, c2, c3⟩ := (HL.out.keep hbel).at k (by rw [HN.out]; exact hlt)
      subst ha
      have hk0 : (0 : Int) ≤ (k : Int) := by omega
      have hkn : (k : Int) < (len : Int) := by omega
      go_wp2_with fail
      refine (HS.out k (by rw [HN.out]; exact hlt) _ _ hR.out (hbel.alloc hbel.size _)).mono ?_
      rintro e w2 ⟨v', rfl, hR2, hb2⟩
      have HR2 := hide hR2
      clear hR2
      go_wp2
      go_roundw
      case rel => exact ⟨k + 1, by omega, by go_num, HR2, bel_trans (hbel.alloc hbel.size _) hb2⟩
      case measure => simp [intOf]; omega
    · have : k = len := by omega
      subst this
      go_wp2
      go_ret
      exact ⟨_, rfl, hR, hbel⟩

set_option maxRecDepth 100000 in
set_option maxHeartbeats 400000 in
theorem countNodes_any (a : Option Addr) (len cap : Nat) (l : List Nd) (A : Nat) (g : Int) (w : World) (hlen : l.length = len) (hn : len ≤ 2000000) (hl : NodesAt w a l) (hA : A < w.heap.size) (c0 : w.cell? ⟨A, 0, none⟩ = some (.int .i64 g)) :
    Calls Try.prog 76 #[.slice a len cap, .func (.func 77) #[] #[.pointer (some ⟨A, 0, none⟩)]] w fun e w' => e = .returned (.int .i64 (cntN g l)) ∧ Below w.heap.size w w' := by
  have HL := hide hl
  have HN := hide hlen
  clear hl hlen
  have a0 : Below w.heap.size w (w.alloc (.cells #[.func (.func 77) #[] #[.pointer (some ⟨A, 0, none⟩)]] 122)) := (Below.refl w.heap.size w).alloc (Nat.le_refl _) _
  have b0 : Blk (w.alloc (.cells #[.func (.func 77) #[] #[.pointer (some ⟨A, 0, none⟩)]] 122)) w.heap.size #[.func (.func 77) #[] #[.pointer (some ⟨A, 0, none⟩)]] 122 := Blk.new w _ _
  have HA0 := hide a0
  have HB0 := hide b0
  have HC0 := hide c0
  clear a0 b0 c0
  go_enter Try.func76, Try.ntmps76
  go_wp2_with fail
  refine (foldNodes_any a len cap l _ _ (fun i v => v = .int .i64 (cntN g (l.take i))) _ HN.out hn (HL.out.keep HA0.out) ⟨90, _, run_into Try.func90 (by kernel_rfl) rfl, rfl, ?_⟩ (by simp [cntN])).mono ?_
  · rintro i h v w' rfl hb
    have hs := hb.size
    simp only [World.size_alloc] at hs
    have h1 := cntN_le g (l.take i)
    have h2 : (l.take i).length ≤ l.length := by rw [List.length_take]; omega
    have h3 := HN.out
    refine (cloCount_any l[i] A w.heap.size g _ _ ⟨by omega, by omega⟩ (by omega) (by omega) ?_ ?_).mono ?_
    · rw [hb.cell (p := ⟨A, 0, none⟩) (by simp; omega), HA0.out.cell (p := ⟨A, 0, none⟩) hA]; exact HC0.out
    · rw [hb.cell (p := ⟨w.heap.size, 0, none⟩) (by simp), HB0.out.cell]; rfl
    rintro e w2 ⟨rfl, hb⟩
    refine ⟨_, rfl, ?_, hb⟩
    show Value.int .i64 _ = .int .i64 (cntN g (l.take (i + 1)))
    rw [cntN_step g l i h]
    split <;> simp
  · rintro e w' ⟨v, rfl, rfl, hb⟩
    go_wp2
    all_goals go_ret
    all_goals exact ⟨ret_int (by rw [List.take_of_length_le (by have := HN.out; omega)]), bel_trans HA0.out hb⟩

set_option maxRecDepth 100000 in
set_option maxHeartbeats 400000 in
theorem nodesOf_any (v : Value) (s : St) (g : Int) (w : World) (h : StateAt w v s) :
    Calls Try.prog 55 #[v, .int .i64 g] w fun e w' => e = .returned (.int .i64 (cntN g s.nodes)) ∧ Below w.heap.size w w' := by
  obtain ⟨a1, l1, c1, a2, l2, c2, a3, l3, c3, a4, l4, c4, rfl, _, ⟨e2, m2, h2⟩, _, _⟩ := h
  have H2 := hide h2
  have E2 := hide e2
  clear h2 e2
  go_enter Try.func55, Try.ntmps55
  go_wp2_with fail
  refine (countNodes_any a2 l2 c2 s.nodes (w.heap.size + 1) g _ E2.out m2 (H2.out.keep (by go_grown)) (by simp) (by simp [go_sem])).mono ?_
  rintro e w1 ⟨rfl, hb⟩
  go_wp2
  all_goals go_ret
  all_goals exact ⟨rfl, bel_trans (by go_grown) hb⟩

set_option maxRecDepth 100000 in
set_option maxHeartbeats 400000 in
theorem isPlaceG_any (a : Option Addr) (len cap : Nat) (g : Int) (w : World) :
    Calls Try.prog 78 #[.slice a len cap, .int .i64 g] w fun e w' => e = .returned (.bool (decide (0 ≤ g ∧ g < (len : Int)))) ∧ w' = w := by
  by_cases h0 : 0 ≤ g
  · go_enter Try.func78, Try.ntmps78
    go_wp2
    all_goals go_ret
    all_goals exact ⟨ret_bool (by simp [h0]), rfl⟩
  · go_enter Try.func78, Try.ntmps78
    go_wp2
    all_goals go_ret
    all_goals exact ⟨ret_bool (by simp; omega), rfl⟩

set_option maxRecDepth 100000 in
set_option maxHeartbeats 400000 in
theorem askedOf_any (v : Value) (s : St) (g : Int) (w : World) (h : StateAt w v s) :
    Calls Try.prog 56 #[v, .int .i64 g] w fun e w' => e = .returned (.int .i64 (askedAt s g)) ∧ Below w.heap.size w w' := by
  obtain ⟨a1, l1, c1, a2, l2, c2, a3, l3, c3, a4, l4, c4, rfl, _, _, _, ⟨e4, m4, h4⟩⟩ := h
  have H4 := hide h4
  have E4 := hide e4
  clear h4 e4
  by_cases hp : 0 ≤ g ∧ g < (l4 : Int)
  · obtain ⟨n, hn, rfl, hq⟩ := askedAt_at s g (by rw [E4.out]; exact hp)
    obtain ⟨b, o, ha, hbl, d0, d1, d2⟩ := H4.out.at n hn
    subst ha
    rw [← hq] at d0
    have hn : (n : Int) < l4 := hp.2
    clear hp d1 d2 hq
    go_enter Try.func56, Try.ntmps56
    go_wp2_with fail
    refine (isPlaceG_any _ _ _ _ _).mono ?_
    rintro e w1 ⟨rfl, rfl⟩
    rw [decide_eq_true (show 0 ≤ (n : Int) ∧ (n : Int) < (l4 : Int) from ⟨by omega, hn⟩)]
    go_wp2
    all_goals go_ret
    all_goals exact ⟨rfl, by go_grown⟩
  · have hq : askedAt s g = 0 := by unfold askedAt; rw [E4.out, if_neg hp]
    have HQ := hide hq
    clear hq
    have hd := decide_eq_false hp
    go_enter Try.func56, Try.ntmps56
    go_wp2_with fail
    refine (isPlaceG_any _ _ _ _ _).mono ?_
    rintro e w1 ⟨rfl, rfl⟩
    rw [hd]
    clear hp hd
    go_wp2
    all_goals go_ret
    all_goals exact ⟨ret_int HQ.out.symm, by go_grown⟩

set_option maxRecDepth 100000 in
set_option maxHeartbeats 1000000 in
theorem stateNodes_any (v : Value) (s : St) (g : Int) (w : World) (h : StateAt w v s) :
    Calls Try.prog 20 #[v, .int .i64 g] w fun e w' => e = .returned (.int .i64 (IntKind.i64.wrap (cntN g s.nodes + askedAt s g))) ∧ Below w.heap.size w w' := by
  have H := hide h
  obtain ⟨a1, l1, c1, a2, l2, c2, a3, l3, c3, a4, l4, c4, rfl, _, _, _, _⟩ := h
  go_enter Try.func20, Try.ntmps20
  go_wp2
  refine wp_gen (fun W => Below w.heap.size w W ∧ Blk W w.heap.size #[.slice a1 l1 c1, .slice a2 l2 c2, .slice a3 l3 c3, .slice a4 l4 c4, .int .i64 s.nextPod, .int .i64 s.nextNode] 32) ⟨by go_grown, Blk.new w _ _⟩ ?_
  rintro W ⟨hW, hX⟩
  have X := hX.cell
  have z := hX.lt
  have hcs : W.cell? ⟨w.heap.size, 0, none⟩ = some (.slice a1 l1 c1) ∧ W.cell? ⟨w.heap.size, 1, none⟩ = some (.slice a2 l2 c2) ∧ W.cell? ⟨w.heap.size, 2, none⟩ = some (.slice a3 l3 c3) ∧ W.cell? ⟨w.heap.size, 3, none⟩ = some (.slice a4 l4 c4) ∧ W.cell? ⟨w.heap.size, 4, none⟩ = some (.int .i64 s.nextPod) ∧ W.cell? ⟨w.heap.size, 5, none⟩ = some (.int .i64 s.nextNode) := ⟨X 0, X 1, X 2, X 3, X 4, X 5⟩
  clear X hX
  have hS0 := start_6 hcs
  go_region_held3 (fun w' => Below W.heap.size W w' ∧ w'.cell? ⟨w.heap.size, 0, none⟩ = some (.slice a1 l1 c1) ∧ w'.cell? ⟨w.heap.size, 1, none⟩ = some (.slice a2 l2 c2) ∧ w'.cell? ⟨w.heap.size, 2, none⟩ = some (.slice a3 l3 c3) ∧ w'.cell? ⟨w.heap.size, 3, none⟩ = some (.slice a4 l4 c4) ∧ w'.cell? ⟨w.heap.size, 4, none⟩ = some (.int .i64 s.nextPod) ∧ w'.cell? ⟨w.heap.size, 5, none⟩ = some (.int .i64 s.nextNode))
    (assumption)
    (first | (go_at_call 55; refine (nodesOf_any _ s g _ (H.out.keep (bel_trans hW (by assumption : _ ∧ _).1))).mono ?_; rintro e w1 ⟨rfl, hb1⟩; have hS1 := keep_6 z z z z z z hb1 (by assumption)) | (go_at_call 56; refine (askedOf_any _ s g _ (H.out.keep (bel_trans hW (by assumption : _ ∧ _).1))).mono ?_; rintro e w2 ⟨rfl, hb2⟩; have hS2 := keep_6 z z z z z z hb2 (by assumption)))
  all_goals rename_i hh
  all_goals go_wp2
  all_goals go_ret
  all_goals exact ⟨rfl, bel_trans hW hh.1⟩

end Go.Proofs.Ytcdjklpnjdladaa
