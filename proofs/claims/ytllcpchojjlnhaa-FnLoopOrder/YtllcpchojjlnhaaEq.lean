/- The law's comparison, marks and their reading. -/
import Derived.Test.YtllcpchojjlnhaaSp
namespace Go.Proofs.Ytllcpchojjlnhaa
open Go.RowKit Go.Maps

/-- Block g holds these numbers, none frozen. -/
def Nums (W : World) (g : Nat) (ks : List Int) : Prop := ∀ i, i < ks.length → W.cell? ⟨g, i, none⟩ = some (.int .i64 (ks.getD i 0)) ∧ W.frozen? ⟨g, i, none⟩ = false
theorem R.nums {W : World} {base g n c : Nat} {ks : List Int} (h : R W base (.slice (some ⟨g, 0, none⟩) n c) ks) : Nums W g ks := fun i hi => by
  refine ⟨h.cell i hi, ?_⟩
  rcases h.2 with ⟨h1, _⟩ | ⟨g', cap, cur, h1, _, hb, _⟩
  · cases h1
  · rw [Value.slice.injEq] at h1
    obtain rfl : g = g' := by simpa using h1.1
    simp [World.frozen?, hb]
theorem Nums.below {W W' : World} {g B : Nat} {ks : List Int} (h : Nums W g ks) (hb : Below B W W') (hg : g < B) : Nums W' g ks := fun i hi =>
  ⟨(World.cell?_of_block (hb.block g hg)).trans (h i hi).1, (World.frozen?_of_block (hb.block g hg)).trans (h i hi).2⟩

set_option maxRecDepth 100000 in
set_option maxHeartbeats 2000000 in
theorem eq_any (g1 c1 g2 c2 : Nat) (ks : List Int) (w : World) (h1 : Nums w g1 ks) (h2 : Nums w g2 ks) (hg1 : g1 < w.heap.size) (hg2 : g2 < w.heap.size) (hl : ks.length = 6) :
    Calls Try.prog 8 #[.slice (some ⟨g1, 0, none⟩) 6 c1, .slice (some ⟨g2, 0, none⟩) 6 c2] w fun e w' => e = .returned (.bool true) ∧ Below w.heap.size w w' := by
  have H1 := hide h1
  have H2 := hide h2
  have HL := hide hl
  clear h1 h2 hl
  go_enter Try.func8, Try.ntmps8
  go_wp2
  go_loopw [5] (fun e5 wr => ∃ k : Nat, k ≤ 6 ∧ e5 = .int .i64 (k : Int) ∧ Below w.heap.size w wr) (fun e5 _ => 6 - (intOf e5).toNat)
  case atStart => exact ⟨0, by omega, rfl, Below.refl _ _⟩
  case round =>
    obtain ⟨k, hk, rfl, hb⟩ := hrel
    by_cases hlt : k < 6
    · have hkl : k < ks.length := by rw [HL.out]; exact hlt
      obtain ⟨x, hx⟩ : ∃ x, ks.getD k 0 = x := ⟨_, rfl⟩
      have hc1 := ((H1.out.below hb hg1) k hkl).1
      have hc2 := ((H2.out.below hb hg2) k hkl).1
      rw [hx] at hc1 hc2
      have hk1 : (k : Int) < 6 := by omega
      have HX := hide hx
      have HB := hide hb
      clear hx hb
      go_wp2
      go_region
      go_wp2
      exact ⟨⟨k + 1, by omega, by simp, HB.out.drew⟩, by simp [intOf]; omega⟩
    · obtain rfl : k = 6 := by omega
      go_wp2
      go_ret
      exact ⟨rfl, hb⟩

theorem grown_cell (W : World) (b o : Nat) (v : Value) : W.grownBy (W.setCell ⟨b, o, none⟩ v) (some b) :=
  ⟨rfl, rfl, rfl, (KeepsWalks.setCell W _ v).size, fun k _ hk => Below.heap_setCell _ _ _ k (fun e => hk (by rw [e]))⟩
theorem Nums.set {W : World} {g : Nat} {ks : List Int} (h : Nums W g ks) (k : Nat) (x : Int) (hk : k < ks.length) : Nums (W.setCell ⟨g, k, none⟩ (.int .i64 x)) g (ks.set k x) := fun i hi => by
  have hi' : i < ks.length := by simpa using hi
  refine ⟨?_, by rw [World.frozen?_setCell]; exact (h i hi').2⟩
  by_cases hik : i = k
  · subst hik
    rw [World.cell?_setCell_same' _ _ _ (by rw [(h i hi').1]; rfl)]
    simp [List.getD, hi']
  · rw [World.cell?_setCell_other W (⟨g, k, none⟩ : Addr) ⟨g, i, none⟩ _ (fun e => hik (by cases e; rfl)), (h i hi').1]
    have : (ks.set k x).getD i 0 = ks.getD i 0 := by simp [List.getD, List.getElem?_set_ne (Ne.symm hik)]
    rw [this]

set_option maxRecDepth 100000 in
set_option maxHeartbeats 2000000 in
theorem mark_any (g c : Nat) (ks : List Int) (w : World) (h : Nums w g ks) (hl : ks.length = 6) :
    Calls Try.prog 9 #[.slice (some ⟨g, 0, none⟩) 6 c, .int .i64 1] w fun e w' => e = .returned (.int .i64 7) ∧ Nums w' g [1, 2, 3, 4, 5, 6] ∧ w.grownBy w' (some g) := by
  go_enter Try.func9, Try.ntmps9
  go_wp2
  go_loopw [1, 5] (fun e1 e5 wr => ∃ (k : Nat) (xs : List Int), k ≤ 6 ∧ e5 = .int .i64 (k : Int) ∧ e1 = .int .i64 (1 + (k : Int)) ∧ xs.length = 6 ∧ (∀ j, j < k → xs.getD j 0 = 1 + (j : Int)) ∧ Nums wr g xs ∧ w.grownBy wr (some g)) (fun _ e5 _ => 6 - (intOf e5).toNat)
  case atStart => exact ⟨0, ks, by omega, rfl, rfl, hl, fun j hj => by omega, h, ⟨rfl, rfl, rfl, Nat.le_refl _, fun _ _ _ => rfl⟩⟩
  case round =>
    obtain ⟨k, xs, hk, rfl, rfl, hxl, hx, hN, hg⟩ := hrel
    by_cases hlt : k < 6
    · obtain ⟨hc, hf⟩ := hN k (by omega)
      have hk1 : (k : Int) < 6 := by omega
      generalize xs.getD k 0 = z at hc
      have HN := hide hN
      have HG := hide hg
      have HX := hide hx
      clear hN hg hx
      go_wp2
      refine ⟨⟨k + 1, xs.set k (1 + (k : Int)), by omega, by simp, by simp; omega, by simpa using hxl, fun j hj => ?_, HN.out.set k _ (by omega), ?_⟩, by simp [intOf]; omega⟩
      · by_cases hjk : j = k
        · subst hjk
          simp [List.getD, hxl, hlt]
        · rw [← HX.out j (by omega)]
          simp [List.getD, List.getElem?_set_ne (Ne.symm hjk)]
      · exact ⟨HG.out.os, HG.out.tape, HG.out.output, by simpa using HG.out.size, fun q hq hne => ((grown_cell wr g k _).block q (by have := HG.out.size; omega) hne).trans (HG.out.block q hq hne)⟩
    · obtain rfl : k = 6 := by omega
      go_wp2
      go_ret
      refine ⟨by simp, fun i hi => ?_, hg⟩
      have hi' : i < 6 := hi
      obtain ⟨h1, h2⟩ := hN i (by omega)
      refine ⟨?_, h2⟩
      rw [h1, hx i hi']
      match i, hi' with
      | 0, _ => rfl
      | 1, _ => rfl
      | 2, _ => rfl
      | 3, _ => rfl
      | 4, _ => rfl
      | 5, _ => rfl

set_option maxRecDepth 100000 in
set_option maxHeartbeats 2000000 in
theorem held_any (g c : Nat) (w : World) (h : Nums w g [1, 2, 3, 4, 5, 6]) :
    Calls Try.prog 10 #[.slice (some ⟨g, 0, none⟩) 6 c, .int .i64 1] w fun e w' => e = .returned (.int .i64 7) ∧ w' = w := by
  go_enter Try.func10, Try.ntmps10
  go_wp2
  go_loopw [1, 5] (fun e1 e5 wr => ∃ (k : Nat), k ≤ 6 ∧ e5 = .int .i64 (k : Int) ∧ e1 = .int .i64 (1 + (k : Int)) ∧ wr = w) (fun _ e5 _ => 6 - (intOf e5).toNat)
  case atStart => exact ⟨0, by omega, rfl, rfl, rfl⟩
  case round =>
    obtain ⟨k, hk, rfl, rfl, rfl⟩ := hrel
    by_cases hlt : k < 6
    · have hc : wr.cell? ⟨g, k, none⟩ = some (.int .i64 (1 + (k : Int))) := by
        rw [(h k hlt).1]
        match k, hlt with
        | 0, _ => rfl
        | 1, _ => rfl
        | 2, _ => rfl
        | 3, _ => rfl
        | 4, _ => rfl
        | 5, _ => rfl
      have hk1 : (k : Int) < 6 := by omega
      clear h
      go_wp2
      exact ⟨⟨k + 1, by omega, by simp, by simp; omega, trivial⟩, by simp [intOf]; omega⟩
    · obtain rfl : k = 6 := by omega
      go_wp2
      go_ret
      exact ⟨by simp, rfl⟩
end Go.Proofs.Ytllcpchojjlnhaa
