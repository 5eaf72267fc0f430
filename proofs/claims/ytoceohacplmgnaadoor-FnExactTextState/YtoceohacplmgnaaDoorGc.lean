/- What there is, whole: the laws' own copy, size and comparison. -/
import Derived.Test.YtoceohacplmgnaaDoorGb
import Derived.Test.YtoceohacplmgnaaDoorGd
import Derived.Test.YtoceohacplmgnaaDoorBk
namespace Go.Proofs.YtoceohacplmgnaaDoor
open Go.RowKit

set_option maxRecDepth 100000 in
set_option maxHeartbeats 4000000 in
theorem toState_any (v : Value) (s : St) (w : World) (h : StateAt w v s) :
    Calls Tryd.prog 15 #[v] w fun e w' => ∃ v', e = .returned v' ∧ StateAt w' v' s ∧ Below w.heap.size w w' := by
  obtain ⟨a1, l1, c1, a2, l2, c2, a3, l3, c3, a4, l4, c4, rfl, ⟨e1, m1, h1⟩, ⟨e2, m2, h2⟩, ⟨e3, m3, h3⟩, ⟨e4, m4, h4⟩⟩ := h
  have H1 := hide h1
  have H2 := hide h2
  have H3 := hide h3
  have H4 := hide h4
  have E1 := hide e1
  have E2 := hide e2
  have E3 := hide e3
  have E4 := hide e4
  clear h1 h2 h3 h4 e1 e2 e3 e4
  go_enter Tryd.func15, Tryd.ntmps15
  go_wp2_with fail
  refine (toPods_any a1 l1 c1 s.pods _ E1.out m1 (H1.out.keep (by go_grown))).mono ?_
  rintro e W1 ⟨rfl, hn1, hl1, hb1⟩
  have hN0 : Blk W1 w.heap.size #[.slice a1 l1 c1, .slice a2 l2 c2, .slice a3 l3 c3, .slice a4 l4 c4, .int .i64 s.nextPod, .int .i64 s.nextNode] 40 := (((Blk.new w _ _).alloc _).alloc _).below hb1 (by simp; omega)
  have hN1 : Blk W1 (w.heap.size + 1) #[.slice none 0 0, .slice none 0 0, .slice none 0 0, .slice none 0 0, .int .i64 0, .int .i64 0] 48 := (by simpa using (Blk.new (w.alloc _) _ _).alloc _ : Blk _ (w.heap.size + 1) #[.slice none 0 0, .slice none 0 0, .slice none 0 0, .slice none 0 0, .int .i64 0, .int .i64 0] 48).below hb1 (by simp)
  have hN2 : Blk W1 (w.heap.size + 2) #[.slice none 0 0, .slice none 0 0, .slice none 0 0, .slice none 0 0, .int .i64 0, .int .i64 0] 48 := (by simpa using Blk.new ((w.alloc _).alloc _) _ _ : Blk _ (w.heap.size + 2) #[.slice none 0 0, .slice none 0 0, .slice none 0 0, .slice none 0 0, .int .i64 0, .int .i64 0] 48).below hb1 (by simp)
  have hB1 : Below w.heap.size w W1 := bel_trans (by go_grown) hb1
  obtain ⟨p1, hp1⟩ : ∃ p, p = w.heap.size + 3 := ⟨_, rfl⟩
  have hr1 : PodsAt W1 (some ⟨p1, 0, none⟩) s.pods := by subst hp1; simpa using hn1
  have hlt1 : p1 < W1.heap.size := by subst hp1; simpa using hl1
  have hpe1 : (((w.alloc (.cells #[.slice a1 l1 c1, .slice a2 l2 c2, .slice a3 l3 c3, .slice a4 l4 c4, .int .i64 s.nextPod, .int .i64 s.nextNode] 40)).alloc (.cells #[.slice none 0 0, .slice none 0 0, .slice none 0 0, .slice none 0 0, .int .i64 0, .int .i64 0] 48)).alloc (.cells #[.slice none 0 0, .slice none 0 0, .slice none 0 0, .slice none 0 0, .int .i64 0, .int .i64 0] 48)).heap.size = p1 := by subst hp1; simp
  rw [hpe1]
  clear hn1 hl1 hb1 hpe1
  have hpw : w.heap.size + 2 < p1 := by omega
  clear hp1
  have R1 := hide hr1
  clear hr1
  have A := hN0.cell
  have C := hN2.cell
  have Cf := hN2.frozen
  have zA := hN0.lt
  have zC := hN2.lt
  go_wp2_with fail
  have hBs : Below w.heap.size w (W1.setCell ⟨w.heap.size + 2, 0, none⟩ (.slice (some ⟨p1, 0, none⟩) l1 l1)) := hB1.setCell (by simp) _
  refine (toNodes_any a2 l2 c2 s.nodes _ E2.out m2 (H2.out.keep hBs)).mono ?_
  rintro e W2 ⟨rfl, hn2, hl2, hb2⟩
  have hb : Below W1.heap.size (W1.setCell ⟨w.heap.size + 2, 0, none⟩ (.slice (some ⟨p1, 0, none⟩) l1 l1)) W2 := by simpa using hb2
  have hN0' : Blk W2 w.heap.size #[.slice a1 l1 c1, .slice a2 l2 c2, .slice a3 l3 c3, .slice a4 l4 c4, .int .i64 s.nextPod, .int .i64 s.nextNode] 40 := (hN0.far (by simp) _).below hb hN0.lt
  have hN1' : Blk W2 (w.heap.size + 1) #[.slice none 0 0, .slice none 0 0, .slice none 0 0, .slice none 0 0, .int .i64 0, .int .i64 0] 48 := (hN1.far (by simp) _).below hb hN1.lt
  have hN2' : Blk W2 (w.heap.size + 2) #[.slice (some ⟨p1, 0, none⟩) l1 l1, .slice none 0 0, .slice none 0 0, .slice none 0 0, .int .i64 0, .int .i64 0] 48 := by simpa using (hN2.set 0 (.slice (some ⟨p1, 0, none⟩) l1 l1)).below hb hN2.lt
  have hB2 : Below w.heap.size w W2 := hBs.trans (hb.mono (by have := hB1.size; omega))
  obtain ⟨p2, hp2⟩ : ∃ p, p = W1.heap.size := ⟨_, rfl⟩
  have hr2 : NodesAt W2 (some ⟨p2, 0, none⟩) s.nodes := by subst hp2; simpa using hn2
  have hlt2 : p2 < W2.heap.size := by subst hp2; simpa using hl2
  have hr1 : PodsAt W2 (some ⟨p1, 0, none⟩) s.pods := (RowsAt.set R1.out (by simp; omega) _ : PodsAt _ _ _).keepB hb (by omega)
  simp only [World.size_setCell, ← hp2]
  have hsz2 := hb.size
  simp only [World.size_setCell] at hsz2
  have hpw2 : w.heap.size + 2 < p2 := by omega
  have hpa2 : W1.heap.size ≤ p2 := by omega
  have hpb2 : p2 ≤ W1.heap.size := by omega
  clear hp2
  clear hN0 hN1 hN2 hn2 hl2 hb2 hb hBs R1 A C Cf zA zC
  have R1 := hide hr1
  have R2 := hide hr2
  clear hr1 hr2
  have hN0 := hN0'
  have hN1 := hN1'
  have hN2 := hN2'
  clear hN0' hN1' hN2'
  have hlt1 : p1 < W2.heap.size := by omega
  clear hB1
  have A := hN0.cell
  have C := hN2.cell
  have Cf := hN2.frozen
  have zA := hN0.lt
  have zC := hN2.lt
  go_wp2_with fail
  have hBs : Below w.heap.size w (W2.setCell ⟨w.heap.size + 2, 1, none⟩ (.slice (some ⟨p2, 0, none⟩) l2 l2)) := hB2.setCell (by simp) _
  refine (toWss_any a3 l3 c3 s.works _ E3.out m3 (H3.out.keep hBs)).mono ?_
  rintro e W3 ⟨rfl, hn3, hl3, hb3⟩
  have hb : Below W2.heap.size (W2.setCell ⟨w.heap.size + 2, 1, none⟩ (.slice (some ⟨p2, 0, none⟩) l2 l2)) W3 := by simpa using hb3
  have hN0' : Blk W3 w.heap.size #[.slice a1 l1 c1, .slice a2 l2 c2, .slice a3 l3 c3, .slice a4 l4 c4, .int .i64 s.nextPod, .int .i64 s.nextNode] 40 := (hN0.far (by simp) _).below hb hN0.lt
  have hN1' : Blk W3 (w.heap.size + 1) #[.slice none 0 0, .slice none 0 0, .slice none 0 0, .slice none 0 0, .int .i64 0, .int .i64 0] 48 := (hN1.far (by simp) _).below hb hN1.lt
  have hN2' : Blk W3 (w.heap.size + 2) #[.slice (some ⟨p1, 0, none⟩) l1 l1, .slice (some ⟨p2, 0, none⟩) l2 l2, .slice none 0 0, .slice none 0 0, .int .i64 0, .int .i64 0] 48 := by simpa using (hN2.set 1 (.slice (some ⟨p2, 0, none⟩) l2 l2)).below hb hN2.lt
  have hB3 : Below w.heap.size w W3 := hBs.trans (hb.mono (by have := hB2.size; omega))
  obtain ⟨p3, hp3⟩ : ∃ p, p = W2.heap.size := ⟨_, rfl⟩
  have hr3 : WssAt W3 (some ⟨p3, 0, none⟩) s.works := by subst hp3; simpa using hn3
  have hlt3 : p3 < W3.heap.size := by subst hp3; simpa using hl3
  have hr1 : PodsAt W3 (some ⟨p1, 0, none⟩) s.pods := (RowsAt.set R1.out (by simp; omega) _ : PodsAt _ _ _).keepB hb (by omega)
  have hr2 : NodesAt W3 (some ⟨p2, 0, none⟩) s.nodes := (RowsAt.set R2.out (by simp; omega) _ : NodesAt _ _ _).keepB hb (by omega)
  simp only [World.size_setCell, ← hp3]
  have hsz3 := hb.size
  simp only [World.size_setCell] at hsz3
  have hpw3 : w.heap.size + 2 < p3 := by omega
  have hpa3 : W2.heap.size ≤ p3 := by omega
  have hpb3 : p3 ≤ W2.heap.size := by omega
  clear hp3
  clear hN0 hN1 hN2 hn3 hl3 hb3 hb hBs R1 R2 A C Cf zA zC
  have R1 := hide hr1
  have R2 := hide hr2
  have R3 := hide hr3
  clear hr1 hr2 hr3
  have hN0 := hN0'
  have hN1 := hN1'
  have hN2 := hN2'
  clear hN0' hN1' hN2'
  have hlt1 : p1 < W3.heap.size := by omega
  have hlt2 : p2 < W3.heap.size := by omega
  clear hB2
  have A := hN0.cell
  have C := hN2.cell
  have Cf := hN2.frozen
  have zA := hN0.lt
  have zC := hN2.lt
  go_wp2_with fail
  have hBs : Below w.heap.size w (W3.setCell ⟨w.heap.size + 2, 2, none⟩ (.slice (some ⟨p3, 0, none⟩) l3 l3)) := hB3.setCell (by simp) _
  refine (toGss_any a4 l4 c4 s.groups _ E4.out m4 (H4.out.keep hBs)).mono ?_
  rintro e W4 ⟨rfl, hn4, hl4, hb4⟩
  have hb : Below W3.heap.size (W3.setCell ⟨w.heap.size + 2, 2, none⟩ (.slice (some ⟨p3, 0, none⟩) l3 l3)) W4 := by simpa using hb4
  have hN0' : Blk W4 w.heap.size #[.slice a1 l1 c1, .slice a2 l2 c2, .slice a3 l3 c3, .slice a4 l4 c4, .int .i64 s.nextPod, .int .i64 s.nextNode] 40 := (hN0.far (by simp) _).below hb hN0.lt
  have hN1' : Blk W4 (w.heap.size + 1) #[.slice none 0 0, .slice none 0 0, .slice none 0 0, .slice none 0 0, .int .i64 0, .int .i64 0] 48 := (hN1.far (by simp) _).below hb hN1.lt
  have hN2' : Blk W4 (w.heap.size + 2) #[.slice (some ⟨p1, 0, none⟩) l1 l1, .slice (some ⟨p2, 0, none⟩) l2 l2, .slice (some ⟨p3, 0, none⟩) l3 l3, .slice none 0 0, .int .i64 0, .int .i64 0] 48 := by simpa using (hN2.set 2 (.slice (some ⟨p3, 0, none⟩) l3 l3)).below hb hN2.lt
  have hB4 : Below w.heap.size w W4 := hBs.trans (hb.mono (by have := hB3.size; omega))
  obtain ⟨p4, hp4⟩ : ∃ p, p = W3.heap.size := ⟨_, rfl⟩
  have hr4 : GssAt W4 (some ⟨p4, 0, none⟩) s.groups := by subst hp4; simpa using hn4
  have hlt4 : p4 < W4.heap.size := by subst hp4; simpa using hl4
  have hr1 : PodsAt W4 (some ⟨p1, 0, none⟩) s.pods := (RowsAt.set R1.out (by simp; omega) _ : PodsAt _ _ _).keepB hb (by omega)
  have hr2 : NodesAt W4 (some ⟨p2, 0, none⟩) s.nodes := (RowsAt.set R2.out (by simp; omega) _ : NodesAt _ _ _).keepB hb (by omega)
  have hr3 : WssAt W4 (some ⟨p3, 0, none⟩) s.works := (RowsAt.set R3.out (by simp; omega) _ : WssAt _ _ _).keepB hb (by omega)
  simp only [World.size_setCell, ← hp4]
  have hsz4 := hb.size
  simp only [World.size_setCell] at hsz4
  have hpw4 : w.heap.size + 2 < p4 := by omega
  have hpa4 : W3.heap.size ≤ p4 := by omega
  have hpb4 : p4 ≤ W3.heap.size := by omega
  clear hp4
  clear hN0 hN1 hN2 hn4 hl4 hb4 hb hBs R1 R2 R3 A C Cf zA zC
  have R1 := hide hr1
  have R2 := hide hr2
  have R3 := hide hr3
  have R4 := hide hr4
  clear hr1 hr2 hr3 hr4
  have hN0 := hN0'
  have hN1 := hN1'
  have hN2 := hN2'
  clear hN0' hN1' hN2'
  have hlt1 : p1 < W4.heap.size := by omega
  have hlt2 : p2 < W4.heap.size := by omega
  have hlt3 : p3 < W4.heap.size := by omega
  clear hB3
  have A := hN0.cell
  have C := hN2.cell
  have Cf := hN2.frozen
  have zA := hN0.lt
  have zC := hN2.lt
  have D := hN1.cell
  have Df := hN1.frozen
  have zD := hN1.lt
  have HN := hide (⟨hN0, hN1, hN2⟩ : _ ∧ _ ∧ _)
  clear hN0 hN1 hN2
  repeat (first | go_values | go_skip | go_guarded | go_step | go_upon)
  refine bodyPost_ret (v := .agg #[.slice (some ⟨p1, 0, none⟩) l1 l1, .slice (some ⟨p2, 0, none⟩) l2 l2, .slice (some ⟨p3, 0, none⟩) l3 l3, .slice (some ⟨p4, 0, none⟩) l4 l4, .int .i64 s.nextPod, .int .i64 s.nextNode]) (by simp [results, Tryd.results15, go_sem, *]) rfl ⟨_, rfl, ⟨_, _, _, _, _, _, _, _, _, _, _, _, rfl, ⟨E1.out, m1, ?_⟩, ⟨E2.out, m2, ?_⟩, ⟨E3.out, m3, ?_⟩, ⟨E4.out, m4, ?_⟩⟩, ?_⟩
  · repeat (refine RowsAt.set ?_ (by simp; omega) _)
    exact R1.out
  · repeat (refine RowsAt.set ?_ (by simp; omega) _)
    exact R2.out
  · repeat (refine RowsAt.set ?_ (by simp; omega) _)
    exact R3.out
  · repeat (refine RowsAt.set ?_ (by simp; omega) _)
    exact R4.out
  · repeat (refine Below.setCell ?_ (by go_size) _)
    exact hB4

set_option maxRecDepth 100000 in
set_option maxHeartbeats 2000000 in
theorem szState_any (a1 : Option Addr) (l1 c1 : Nat) (a2 : Option Addr) (l2 c2 : Nat) (a3 : Option Addr) (l3 c3 : Nat) (a4 : Option Addr) (l4 c4 : Nat) (p q n : Int) (w : World) (h1 : l1 ≤ 9223372036854775807) (h2 : l2 ≤ 9223372036854775807) (h3 : l3 ≤ 9223372036854775807) (h4 : l4 ≤ 9223372036854775807) (n0 : 0 ≤ n) (n1 : n ≤ 1048576) :
    Calls Tryd.prog 13 #[.agg #[.slice a1 l1 c1, .slice a2 l2 c2, .slice a3 l3 c3, .slice a4 l4 c4, .int .i64 p, .int .i64 q], .int .i64 n] w fun e w' => ∃ r : Int, e = .returned (.int .i64 r) ∧ (0 ≤ r → r ≤ 1048576 ∧ l1 ≤ 1048576 ∧ l2 ≤ 1048576 ∧ l3 ≤ 1048576 ∧ l4 ≤ 1048576) ∧ Below w.heap.size w w' := by
  by_cases d0 : n - l1 < 0
  · go_enter Tryd.func13, Tryd.ntmps13
    go_wp2_with (first | (go_at_call 37; refine (szPods_any _ _ _ _ _ (by omega) (by omega) h1).mono ?_; rintro e w' ⟨rfl, rfl⟩))
    all_goals go_ret
    all_goals exact ⟨_, rfl, by intro hh; simp at hh, by go_grown⟩
  · by_cases d1 : n - l1 - l2 < 0
    · go_enter Tryd.func13, Tryd.ntmps13
      go_wp2_with (first | (go_at_call 37; refine (szPods_any _ _ _ _ _ (by omega) (by omega) h1).mono ?_; rintro e w' ⟨rfl, rfl⟩) | (go_at_call 38; refine (szNodes_any _ _ _ _ _ (by omega) (by omega) h2).mono ?_; rintro e w' ⟨rfl, rfl⟩))
      all_goals go_ret
      all_goals exact ⟨_, rfl, by intro hh; simp at hh, by go_grown⟩
    · by_cases d2 : n - l1 - l2 - l3 < 0
      · go_enter Tryd.func13, Tryd.ntmps13
        go_wp2_with (first | (go_at_call 37; refine (szPods_any _ _ _ _ _ (by omega) (by omega) h1).mono ?_; rintro e w' ⟨rfl, rfl⟩) | (go_at_call 38; refine (szNodes_any _ _ _ _ _ (by omega) (by omega) h2).mono ?_; rintro e w' ⟨rfl, rfl⟩) | (go_at_call 39; refine (szWss_any _ _ _ _ _ (by omega) (by omega) h3).mono ?_; rintro e w' ⟨rfl, rfl⟩))
        all_goals go_ret
        all_goals exact ⟨_, rfl, by intro hh; simp at hh, by go_grown⟩
      · by_cases d3 : n - l1 - l2 - l3 - l4 < 0
        · go_enter Tryd.func13, Tryd.ntmps13
          go_wp2_with (first | (go_at_call 37; refine (szPods_any _ _ _ _ _ (by omega) (by omega) h1).mono ?_; rintro e w' ⟨rfl, rfl⟩) | (go_at_call 38; refine (szNodes_any _ _ _ _ _ (by omega) (by omega) h2).mono ?_; rintro e w' ⟨rfl, rfl⟩) | (go_at_call 39; refine (szWss_any _ _ _ _ _ (by omega) (by omega) h3).mono ?_; rintro e w' ⟨rfl, rfl⟩) | (go_at_call 40; refine (szGss_any _ _ _ _ _ (by omega) (by omega) h4).mono ?_; rintro e w' ⟨rfl, rfl⟩))
          all_goals go_ret
          all_goals exact ⟨_, rfl, by intro hh; simp at hh, by go_grown⟩
        · go_enter Tryd.func13, Tryd.ntmps13
          go_wp2_with (first | (go_at_call 37; refine (szPods_any _ _ _ _ _ (by omega) (by omega) h1).mono ?_; rintro e w' ⟨rfl, rfl⟩) | (go_at_call 38; refine (szNodes_any _ _ _ _ _ (by omega) (by omega) h2).mono ?_; rintro e w' ⟨rfl, rfl⟩) | (go_at_call 39; refine (szWss_any _ _ _ _ _ (by omega) (by omega) h3).mono ?_; rintro e w' ⟨rfl, rfl⟩) | (go_at_call 40; refine (szGss_any _ _ _ _ _ (by omega) (by omega) h4).mono ?_; rintro e w' ⟨rfl, rfl⟩))
          all_goals go_ret
          all_goals exact ⟨_, rfl, by intro hh; omega, by go_grown⟩

set_option maxRecDepth 100000 in
set_option maxHeartbeats 2000000 in
theorem eqState_same (v v' : Value) (s : St) (w : World) (h : StateAt w v s) (h' : StateAt w v' s) :
    Calls Tryd.prog 17 #[v, v'] w fun e w' => e = .returned (.bool true) ∧ Below w.heap.size w w' := by
  obtain ⟨a1, l1, c1, a2, l2, c2, a3, l3, c3, a4, l4, c4, rfl, ⟨e1, m1, h1⟩, ⟨e2, m2, h2⟩, ⟨e3, m3, h3⟩, ⟨e4, m4, h4⟩⟩ := h
  obtain ⟨a1', l1', c1', a2', l2', c2', a3', l3', c3', a4', l4', c4', rfl, ⟨e1', _, h1'⟩, ⟨e2', _, h2'⟩, ⟨e3', _, h3'⟩, ⟨e4', _, h4'⟩⟩ := h'
  obtain rfl : l1 = l1' := e1.symm.trans e1'
  obtain rfl : l2 = l2' := e2.symm.trans e2'
  obtain rfl : l3 = l3' := e3.symm.trans e3'
  obtain rfl : l4 = l4' := e4.symm.trans e4'
  have H1 := hide h1
  have K1 := hide h1'
  have E1 := hide e1
  have H2 := hide h2
  have K2 := hide h2'
  have E2 := hide e2
  have H3 := hide h3
  have K3 := hide h3'
  have E3 := hide e3
  have H4 := hide h4
  have K4 := hide h4'
  have E4 := hide e4
  clear h1 h2 h3 h4 h1' h2' h3' h4' e1 e2 e3 e4 e1' e2' e3' e4'
  go_enter Tryd.func17, Tryd.ntmps17
  go_wp2_with fail
  refine (eqPods_same _ _ _ _ _ s.pods _ E1.out m1 (H1.out.keep (by go_grown)) (K1.out.keep (by go_grown))).mono ?_
  rintro e w1 ⟨rfl, hb⟩
  have hX : Blk w1 w.heap.size #[.slice a1 l1 c1, .slice a2 l2 c2, .slice a3 l3 c3, .slice a4 l4 c4, .int .i64 s.nextPod, .int .i64 s.nextNode] 48 := ((Blk.new w _ _).alloc _).below hb (by simp; omega)
  have hY : Blk w1 (w.heap.size + 1) #[.slice a1' l1 c1', .slice a2' l2 c2', .slice a3' l3 c3', .slice a4' l4 c4', .int .i64 s.nextPod, .int .i64 s.nextNode] 48 := (by simpa using Blk.new (w.alloc _) _ _ : Blk _ (w.heap.size + 1) #[.slice a1' l1 c1', .slice a2' l2 c2', .slice a3' l3 c3', .slice a4' l4 c4', .int .i64 s.nextPod, .int .i64 s.nextNode] 48).below hb (by simp)
  have hB1 : Below w.heap.size w w1 := bel_trans (by go_grown) hb
  clear hb
  have A := hX.cell
  have B := hY.cell
  go_wp2_with fail
  refine (eqNodes_same _ _ _ _ _ s.nodes _ E2.out m2 (H2.out.keep hB1) (K2.out.keep hB1)).mono ?_
  rintro e w2 ⟨rfl, hb⟩
  have hB2 := bel_trans hB1 hb
  clear A B
  replace hX := hX.below hb hX.lt
  replace hY := hY.below hb hY.lt
  clear hb
  have A := hX.cell
  have B := hY.cell
  go_wp2_with fail
  refine (eqWss_same _ _ _ _ _ s.works _ E3.out m3 (H3.out.keep hB2) (K3.out.keep hB2)).mono ?_
  rintro e w3 ⟨rfl, hb⟩
  have hB3 := bel_trans hB2 hb
  clear A B
  replace hX := hX.below hb hX.lt
  replace hY := hY.below hb hY.lt
  clear hb
  have A := hX.cell
  have B := hY.cell
  go_wp2_with fail
  refine (eqGss_same _ _ _ _ _ s.groups _ E4.out m4 (H4.out.keep hB3) (K4.out.keep hB3)).mono ?_
  rintro e w4 ⟨rfl, hb⟩
  have hB4 := bel_trans hB3 hb
  clear A B
  replace hX := hX.below hb hX.lt
  replace hY := hY.below hb hY.lt
  clear hb
  have A := hX.cell
  have B := hY.cell
  go_wp2
  all_goals go_ret
  all_goals exact ⟨rfl, hB4⟩

end Go.Proofs.YtoceohacplmgnaaDoor
