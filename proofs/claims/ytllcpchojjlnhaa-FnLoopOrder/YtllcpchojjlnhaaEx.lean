/- The walk of the exact law of LoopOrder. -/
import Derived.Test.YtllcpchojjlnhaaEq
namespace Go.Proofs.Ytllcpchojjlnhaa
open Go.RowKit Go.Maps

theorem Nums.grown {W W' : World} {g : Nat} {row : Option Nat} {ks : List Int} (h : Nums W g ks) (hg : W.grownBy W' row) (hl : g < W.heap.size) (hne : some g ≠ row) : Nums W' g ks := fun i hi =>
  ⟨(World.cell?_of_block (hg.block g hl hne)).trans (h i hi).1, (World.frozen?_of_block (hg.block g hl hne)).trans (h i hi).2⟩
theorem R.six {W : World} {base : Nat} {v : Value} {n : Int} (h : R W base v (ordI n)) : ∃ g c, v = .slice (some ⟨g, 0, none⟩) 6 c := by
  have hl := ordI_length n
  rcases h.2 with ⟨_, h0⟩ | ⟨g, cap, cur, h1, _⟩
  · omega
  · exact ⟨g, cap, by rw [h1, hl]⟩

set_option maxRecDepth 100000 in
set_option maxHeartbeats 2000000 in
theorem exact_walk (n : Int) (w : World) (hn : -9223372036854775808 ≤ n ∧ n ≤ 9223372036854775807) :
    Calls Try.prog 4 #[.int .i64 n] w fun e w' => e = .returned (.bool true) ∧ Below w.heap.size w w' := by
  have hl := ordI_length n
  have c7 := sOrder_any n w hn
  have c6 : ∀ W, Calls Try.prog 6 #[.int .i64 n] W fun e w' => ∃ v, e = .returned v ∧ R w' W.heap.size v (ordI n) ∧ Below W.heap.size W w' := fun W => by
    have := order_any n W hn
    refine Calls.mono this ?_
    rintro e w' ⟨v, h1, h2, h3⟩
    exact ⟨v, h1, by unfold R; rw [hl]; exact h2, h3⟩
  have HL := hide hl
  clear hl
  go_enter Try.func4, Try.ntmps4
  go_wp2_with (go_at_call 7; refine Calls.mono c7 ?_; rintro e W1 ⟨v1, rfl, h1, b1⟩; obtain ⟨g1, k1, rfl⟩ := h1.six)
  clear c7
  refine Calls.mono (c6 W1) ?_
  rintro e W2 ⟨v2, rfl, h2, b2⟩
  obtain ⟨g2, k2, rfl⟩ := h2.six
  dsimp only
  have l1 := h1.lt
  have l2 := h2.lt
  have s12 := b2.size
  have N1 := hide (h1.nums.below b2 l1.2)
  have N2 := hide h2.nums
  have B2 := hide (b1.trans (b2.mono b1.size))
  clear h1 h2 b1 b2
  go_wp2_with fail
  refine Calls.mono (eq_any g2 k2 g1 k1 (ordI n) W2 N2.out N1.out l2.2 (by omega) HL.out) ?_
  rintro e W3 ⟨rfl, b3⟩
  dsimp only
  have s23 := b3.size
  have M1 := hide (N1.out.below b3 (by omega))
  have M2 := hide (N2.out.below b3 l2.2)
  have B3 := hide (B2.out.trans (b3.mono (by have := B2.out.size; omega)))
  clear b3 N1 N2 B2
  go_wp2_with fail
  refine Calls.mono (mark_any g2 k2 (ordI n) W3 M2.out HL.out) ?_
  rintro e W4 ⟨rfl, m4, gr4⟩
  dsimp only
  have s34 := gr4.size
  have P1 := hide (M1.out.grown gr4 (by omega) (fun e => by cases e; omega))
  have P2 := hide m4
  have B4 := hide (below_grown' B3.out gr4 B3.out.size (fun k e => by cases e; omega))
  clear m4 gr4 M1 M2 B3
  go_wp2_with fail
  refine Calls.mono (held_any g2 k2 W4 P2.out) ?_
  rintro e W5 ⟨rfl, rfl⟩
  dsimp only
  go_wp2_with fail
  refine Calls.mono (c6 W5) ?_
  rintro e W6 ⟨v3, rfl, h3, b6⟩
  obtain ⟨g3, k3, rfl⟩ := h3.six
  dsimp only
  have l3 := h3.lt
  have s56 := b6.size
  have Q1 := hide (P1.out.below b6 (by omega))
  have Q2 := hide (P2.out.below b6 (by omega))
  have Q3 := hide h3.nums
  have B6 := hide (B4.out.trans (b6.mono B4.out.size))
  clear b6 h3 P1 P2 B4 c6
  go_wp2_with fail
  refine Calls.mono (eq_any g3 k3 g1 k1 (ordI n) W6 Q3.out Q1.out l3.2 (by omega) HL.out) ?_
  rintro e W7 ⟨rfl, b7⟩
  dsimp only
  have S2 := hide (Q2.out.below b7 (by omega))
  have B7 := hide (B6.out.trans (b7.mono B6.out.size))
  clear b7 Q1 Q2 Q3 B6
  go_wp2_with fail
  refine Calls.mono (held_any g2 k2 W7 S2.out) ?_
  rintro e W8 ⟨rfl, rfl⟩
  dsimp only
  go_wp2
  go_ret
  exact ⟨rfl, B7.out⟩
end Go.Proofs.Ytllcpchojjlnhaa
