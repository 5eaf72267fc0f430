/- The walk of the law of LoopOrder. -/
import Derived.Test.YtllcpchojjlnhaaDr
import Derived.Test.YtllcpchojjlnhaaTy
namespace Go.Proofs.Ytllcpchojjlnhaa
open Go.RowKit Go.Maps

/-- Which of the numbers have been met. -/
def Had (W : World) (H : Nat) (xs : List Int) : Prop := ∀ j : Nat, j < 8 → W.cell? ⟨H, j, none⟩ = some (.bool (decide ((j : Int) ∈ xs))) ∧ W.frozen? ⟨H, j, none⟩ = false
theorem Had.below {W W' : World} {H B : Nat} {xs : List Int} (h : Had W H xs) (hb : Below B W W') (hg : H < B) : Had W' H xs := fun i hi =>
  ⟨(World.cell?_of_block (hb.block H hg)).trans (h i hi).1, (World.frozen?_of_block (hb.block H hg)).trans (h i hi).2⟩
theorem Had.set {W : World} {H : Nat} {xs : List Int} (h : Had W H xs) (q : Nat) (hq : q < 8) : Had (W.setCell ⟨H, q, none⟩ (.bool true)) H (xs ++ [(q : Int)]) := fun i hi => by
  refine ⟨?_, by rw [World.frozen?_setCell]; exact (h i hi).2⟩
  by_cases hik : i = q
  · subst hik
    rw [World.cell?_setCell_same' _ _ _ (by rw [(h i hi).1]; rfl)]
    simp
  · rw [World.cell?_setCell_other W (⟨H, q, none⟩ : Addr) ⟨H, i, none⟩ _ (fun e => hik (by cases e; rfl)), (h i hi).1]
    have : ((i : Int) ∈ xs ++ [(q : Int)]) ↔ (i : Int) ∈ xs := by
      simp; omega
    simp only [this]

theorem Had.new (W : World) : Had (W.alloc (.cells #[.bool false, .bool false, .bool false, .bool false, .bool false, .bool false, .bool false, .bool false] 26)) W.heap.size [] := fun j hj => by
  have hb : (W.alloc (.cells #[.bool false, .bool false, .bool false, .bool false, .bool false, .bool false, .bool false, .bool false] 26)).heap[W.heap.size]? = some (.cells #[.bool false, .bool false, .bool false, .bool false, .bool false, .bool false, .bool false, .bool false] 26 (0, 0)) := World.alloc_heap_new W _
  refine ⟨?_, by unfold World.frozen?; rw [hb]; simp⟩
  simp only [World.cell?, hb]
  match j, hj with
  | 0, _ => rfl
  | 1, _ => rfl
  | 2, _ => rfl
  | 3, _ => rfl
  | 4, _ => rfl
  | 5, _ => rfl
  | 6, _ => rfl
  | 7, _ => rfl

theorem getD_mem {ks : List Int} {k : Nat} (h : k < ks.length) : ks.getD k 0 ∈ ks := by
  simp [List.getD, h]
theorem getD_new {ks : List Int} (hn : ks.Nodup) {k : Nat} (h : k < ks.length) : ks.getD k 0 ∉ ks.take k := by
  intro hm
  obtain ⟨i, hi, he⟩ := List.mem_iff_getElem.1 hm
  have hi' : i < k := by simp at hi; omega
  rw [List.getElem_take] at he
  have e2 : ks.getD k 0 = ks[k] := by simp [List.getD, h]
  rw [e2] at he
  exact List.pairwise_iff_getElem.1 hn i k (by omega) h hi' he
theorem take_getD {ks : List Int} {k : Nat} (h : k < ks.length) : ks.take (k + 1) = ks.take k ++ [ks.getD k 0] := by
  rw [List.take_add_one]
  simp [List.getD, h]

set_option maxRecDepth 100000 in
set_option maxHeartbeats 2000000 in
theorem law_walk (xa : Option Addr) (len cap : Nat) (f : Nat → Int) (w : World) (hb : Bytes w xa len cap f) :
    Calls Try.prog 3 #[.slice xa len cap] w fun e w' => e = .returned (.bool true) ∧ Below w.heap.size w w' := by
  have cD := draw_any xa len cap f w hb
  clear hb
  have c6 : ∀ (n : Int) (W : World), -9223372036854775808 ≤ n ∧ n ≤ 9223372036854775807 → Calls Try.prog 6 #[.int .i64 n] W fun e w' => ∃ v, e = .returned v ∧ R w' W.heap.size v (ordI n) ∧ Below W.heap.size W w' := fun n W hn => by
    refine Calls.mono (order_any n W hn) ?_
    rintro e w' ⟨v, h1, h2, h3⟩
    exact ⟨v, h1, by unfold R; rw [ordI_length]; exact h2, h3⟩
  by_cases hlen : 1048576 < len
  · go_enter Try.func3, Try.ntmps3
    clear cD c6
    go_wp2
    go_ret
    exact ⟨rfl, Below.refl _ _⟩
  · go_enter Try.func3, Try.ntmps3
    go_wp2_with (go_at_call 5; refine Calls.mono cD ?_; rintro e W1 ⟨n, rfl, hn, b1⟩)
    clear cD
    refine Calls.mono (c6 n W1 (by omega)) ?_
    rintro e W2 ⟨v2, rfl, h2, b2⟩
    obtain ⟨g1, k1, rfl⟩ := h2.six
    dsimp only
    have l2 := h2.lt
    have N1 := hide h2.nums
    have B2 := hide (b1.trans (b2.mono b1.size))
    have s1 := b1.size
    clear h2 b1 b2 c6
    go_wp2_with fail
    refine Calls.mono (sOrder_any n W2 (by omega)) ?_
    rintro e W3 ⟨v3, rfl, h3, b3⟩
    obtain ⟨g2, k2, rfl⟩ := h3.six
    dsimp only
    have l3 := h3.lt
    have s3 := b3.size
    have M1 := hide (N1.out.below b3 l2.2)
    have M2 := hide h3.nums
    have B3 := hide (B2.out.trans (b3.mono (by have := B2.out.size; omega)))
    clear h3 b3 N1 B2
    go_wp2_with fail
    rw [decide_eq_false (show ¬ (1048576 : Int) < (len : Int) by omega)]
    have hs3 : w.heap.size ≤ W3.heap.size := B3.out.size
    have HN := hide hn
    clear hn
    go_loopw [7] (fun e7 wr => ∃ k : Nat, k ≤ 6 ∧ e7 = .int .i64 (k : Int) ∧ Below w.heap.size w wr ∧ Nums wr g1 (ordI n) ∧ Nums wr g2 (ordI n) ∧ Had wr W3.heap.size ((ordI n).take k) ∧ W3.heap.size < wr.heap.size) (fun e7 _ => 6 - (intOf e7).toNat)
    case atStart =>
      exact ⟨0, by omega, rfl, B3.out.alloc hs3 _, M1.out.below ((Below.refl _ W3).alloc (Nat.le_refl _) _) (by omega), M2.out.below ((Below.refl _ W3).alloc (Nat.le_refl _) _) (by omega), Had.new W3, by simp⟩
    case round =>
      obtain ⟨k, hk, rfl, hB, hN1, hN2, hH, hsz⟩ := hrel
      by_cases hlt : k < 6
      · have hkl : k < (ordI n).length := by rw [ordI_length]; exact hlt
        have hc1 := (hN1 k hkl).1
        have hc2 := (hN2 k hkl).1
        have hx := ordI_in n _ (getD_mem hkl)
        have hnew := getD_new (ordI_nodup n) hkl
        have htk := take_getD hkl
        obtain ⟨q, hq⟩ : ∃ q : Nat, (ordI n).getD k 0 = (q : Int) := ⟨((ordI n).getD k 0).toNat, by omega⟩
        rw [hq] at hc1 hc2 hx hnew htk
        have hq8 : q < 8 := by omega
        have hq8i : (q : Int) < 8 := by omega
        obtain ⟨hhc, hhf⟩ := hH q hq8
        rw [decide_eq_false hnew] at hhc
        have hk1 : (k : Int) < 6 := by omega
        have hq1 : 1 ≤ (q : Int) := hx.1
        have hq2 : (q : Int) ≤ 6 := hx.2
        have HB := hide hB
        have HN1 := hide hN1
        have HN2 := hide hN2
        have HH := hide hH
        have HTK := hide htk
        clear hB hN1 hN2 hH htk hnew hq hx M1 M2 B3
        go_wp2
        refine wp_region_ty [[(7, none)], [(5, none)], [(25, some 1)], [(24, some 0), (26, some 2)], [(27, some 3)], [(4, none)], [(7, none)], [(29, some 5), (30, some 6)], [(31, some 7)], [(5, none)], [(7, none)], [(33, some 9), (34, some 10)], [(35, some 11)], [(32, some 8), (36, some 12)], [(28, some 4), (37, some 13)], [(38, some 14)], [(4, none)], [(7, none)], [(40, some 16), (41, some 17)], [(42, some 18)], [(43, some 19)], [(39, some 15), (44, some 20)], [(45, some 21)], [(4, none)], [(7, none)], [(47, some 23), (48, some 24)], [(49, some 25)], [(50, some 26)], [(46, some 22), (51, some 27)], [(52, some 28)], [(4, none)], [(7, none)], [(54, some 30), (55, some 31)], [(56, some 32)], [(6, none), (57, some 33)], [(58, some 34)], [(53, some 29), (59, some 35)]]
          (fun i v => match i with | 0 => v = .int .i64 (k : Int) | 1 => v = .slice (some ⟨g2, 0, none⟩) 6 k2 | 2 => v = .int .i64 6 | 3 => v = .bool false | 4 => v = .bool false | 5 => v = .slice (some ⟨g1, 0, none⟩) 6 k1 | 6 => v = .int .i64 (k : Int) | 7 => v = .pointer (some ⟨g1, k, none⟩) | 8 => v = .int .i64 (q : Int) | 9 => v = .slice (some ⟨g2, 0, none⟩) 6 k2 | 10 => v = .int .i64 (k : Int) | 11 => v = .pointer (some ⟨g2, k, none⟩) | 12 => v = .int .i64 (q : Int) | 13 => v = .bool false | 14 => v = .bool false | 15 => v = .bool false | 16 => v = .slice (some ⟨g1, 0, none⟩) 6 k1 | 17 => v = .int .i64 (k : Int) | 18 => v = .pointer (some ⟨g1, k, none⟩) | 19 => v = .int .i64 (q : Int) | 20 => v = .bool false | 21 => v = .bool false | 22 => v = .bool false | 23 => v = .slice (some ⟨g1, 0, none⟩) 6 k1 | 24 => v = .int .i64 (k : Int) | 25 => v = .pointer (some ⟨g1, k, none⟩) | 26 => v = .int .i64 (q : Int) | 27 => v = .bool false | 28 => v = .bool false | 29 => v = .bool false | 30 => v = .slice (some ⟨g1, 0, none⟩) 6 k1 | 31 => v = .int .i64 (k : Int) | 32 => v = .pointer (some ⟨g1, k, none⟩) | 33 => v = .int .i64 (q : Int) | 34 => v = .pointer (some ⟨W3.heap.size, q, none⟩) | 35 => v = .bool false | 36 => v = .bool false | _ => True) (fun w2 => w2 = wr.drew) 69 rfl (by kernel_rfl) rfl ⟨?_, ?_, ?_, ?_, ?_, ?_, ?_, ?_, ?_, ?_, ?_, ?_, ?_, ?_, ?_, ?_, ?_, ?_, ?_, ?_, ?_, ?_, ?_, ?_, ?_, ?_, ?_, ?_, ?_, ?_, ?_, ?_, ?_, ?_, ?_, ?_, ?_, trivial⟩ ?_
        · rintro A w' Q K rfl hK ⟨e7, -⟩
          replace e7 : A.tmps[7]?.getD undef = .int .i64 (k : Int) := e7
          simp only [under]
          simp [go_sem, e7]
          exact hK _ _ (by first | rfl | (simp; done) | (simp; omega)) rfl trivial
        · rintro A w' Q K rfl hK ⟨e5, -⟩
          replace e5 : A.tmps[5]?.getD undef = .slice (some ⟨g2, 0, none⟩) 6 k2 := e5
          simp only [under]
          simp [go_sem, e5]
          exact hK _ _ (by first | rfl | (simp; done) | (simp; omega)) rfl trivial
        · rintro A w' Q K rfl hK ⟨e25, -⟩
          replace e25 : A.tmps[25]?.getD undef = .slice (some ⟨g2, 0, none⟩) 6 k2 := e25
          simp only [under]
          simp [go_sem, e25]
          exact hK _ _ (by first | rfl | (simp; done) | (simp; omega)) rfl trivial
        · rintro A w' Q K rfl hK ⟨e24, e26, -⟩
          replace e24 : A.tmps[24]?.getD undef = .int .i64 (k : Int) := e24
          replace e26 : A.tmps[26]?.getD undef = .int .i64 6 := e26
          simp only [under]
          simp [go_sem, e24, e26]
          exact hK _ _ (by first | rfl | (simp; done) | (simp; omega)) rfl trivial
        · rintro A w' Q K rfl hK ⟨e27, -⟩
          replace e27 : A.tmps[27]?.getD undef = .bool false := e27
          simp only [under]
          simp [go_sem, e27]
          exact hK _ _ (by first | rfl | (simp; done) | (simp; omega)) rfl trivial
        · rintro A w' Q K rfl hK ⟨e4, -⟩
          replace e4 : A.tmps[4]?.getD undef = .slice (some ⟨g1, 0, none⟩) 6 k1 := e4
          simp only [under]
          intro hg
          replace hg : A.tmps[28]?.getD undef = .bool false := hg
          simp [go_sem, e4]
          exact hK _ _ (by first | rfl | (simp; done) | (simp; omega)) rfl trivial
        · rintro A w' Q K rfl hK ⟨e7, -⟩
          replace e7 : A.tmps[7]?.getD undef = .int .i64 (k : Int) := e7
          simp only [under]
          intro hg
          replace hg : A.tmps[28]?.getD undef = .bool false := hg
          simp [go_sem, e7]
          exact hK _ _ (by first | rfl | (simp; done) | (simp; omega)) rfl trivial
        · rintro A w' Q K rfl hK ⟨e29, e30, -⟩
          replace e29 : A.tmps[28]?.getD undef = .bool false → A.tmps[29]?.getD undef = .slice (some ⟨g1, 0, none⟩) 6 k1 := e29
          replace e30 : A.tmps[28]?.getD undef = .bool false → A.tmps[30]?.getD undef = .int .i64 (k : Int) := e30
          simp only [under]
          intro hg
          replace hg : A.tmps[28]?.getD undef = .bool false := hg
          replace e29 := e29 hg
          replace e30 := e30 hg
          simp [go_sem, e29, e30, hk1]
          exact hK _ _ (by first | rfl | (simp; done) | (simp; omega)) rfl trivial
        · rintro A w' Q K rfl hK ⟨e31, -⟩
          replace e31 : A.tmps[28]?.getD undef = .bool false → A.tmps[31]?.getD undef = .pointer (some ⟨g1, k, none⟩) := e31
          simp only [under]
          intro hg
          replace hg : A.tmps[28]?.getD undef = .bool false := hg
          replace e31 := e31 hg
          simp [go_sem, e31, hc1]
          exact hK _ _ (by first | rfl | (simp; done) | (simp; omega)) rfl trivial
        · rintro A w' Q K rfl hK ⟨e5, -⟩
          replace e5 : A.tmps[5]?.getD undef = .slice (some ⟨g2, 0, none⟩) 6 k2 := e5
          simp only [under]
          intro hg
          replace hg : A.tmps[28]?.getD undef = .bool false := hg
          simp [go_sem, e5]
          exact hK _ _ (by first | rfl | (simp; done) | (simp; omega)) rfl trivial
        · rintro A w' Q K rfl hK ⟨e7, -⟩
          replace e7 : A.tmps[7]?.getD undef = .int .i64 (k : Int) := e7
          simp only [under]
          intro hg
          replace hg : A.tmps[28]?.getD undef = .bool false := hg
          simp [go_sem, e7]
          exact hK _ _ (by first | rfl | (simp; done) | (simp; omega)) rfl trivial
        · rintro A w' Q K rfl hK ⟨e33, e34, -⟩
          replace e33 : A.tmps[28]?.getD undef = .bool false → A.tmps[33]?.getD undef = .slice (some ⟨g2, 0, none⟩) 6 k2 := e33
          replace e34 : A.tmps[28]?.getD undef = .bool false → A.tmps[34]?.getD undef = .int .i64 (k : Int) := e34
          simp only [under]
          intro hg
          replace hg : A.tmps[28]?.getD undef = .bool false := hg
          replace e33 := e33 hg
          replace e34 := e34 hg
          simp [go_sem, e33, e34, hk1]
          exact hK _ _ (by first | rfl | (simp; done) | (simp; omega)) rfl trivial
        · rintro A w' Q K rfl hK ⟨e35, -⟩
          replace e35 : A.tmps[28]?.getD undef = .bool false → A.tmps[35]?.getD undef = .pointer (some ⟨g2, k, none⟩) := e35
          simp only [under]
          intro hg
          replace hg : A.tmps[28]?.getD undef = .bool false := hg
          replace e35 := e35 hg
          simp [go_sem, e35, hc2]
          exact hK _ _ (by first | rfl | (simp; done) | (simp; omega)) rfl trivial
        · rintro A w' Q K rfl hK ⟨e32, e36, -⟩
          replace e32 : A.tmps[28]?.getD undef = .bool false → A.tmps[32]?.getD undef = .int .i64 (q : Int) := e32
          replace e36 : A.tmps[28]?.getD undef = .bool false → A.tmps[36]?.getD undef = .int .i64 (q : Int) := e36
          simp only [under]
          intro hg
          replace hg : A.tmps[28]?.getD undef = .bool false := hg
          replace e32 := e32 hg
          replace e36 := e36 hg
          simp [go_sem, e32, e36]
          exact hK _ _ (by first | rfl | (simp; done) | (simp; omega)) rfl trivial
        · rintro A w' Q K rfl hK ⟨e28, e37, -⟩
          replace e28 : A.tmps[28]?.getD undef = .bool false := e28
          replace e37 : A.tmps[28]?.getD undef = .bool false → A.tmps[37]?.getD undef = .bool false := e37
          simp only [under]
          replace e37 := e37 e28
          simp [go_sem, e28, e37]
          exact hK _ _ (by first | rfl | (simp; done) | (simp; omega)) rfl trivial
        · rintro A w' Q K rfl hK ⟨e38, -⟩
          replace e38 : A.tmps[38]?.getD undef = .bool false := e38
          simp only [under]
          simp [go_sem, e38]
          exact hK _ _ (by first | rfl | (simp; done) | (simp; omega)) rfl trivial
        · rintro A w' Q K rfl hK ⟨e4, -⟩
          replace e4 : A.tmps[4]?.getD undef = .slice (some ⟨g1, 0, none⟩) 6 k1 := e4
          simp only [under]
          intro hg
          replace hg : A.tmps[39]?.getD undef = .bool false := hg
          simp [go_sem, e4]
          exact hK _ _ (by first | rfl | (simp; done) | (simp; omega)) rfl trivial
        · rintro A w' Q K rfl hK ⟨e7, -⟩
          replace e7 : A.tmps[7]?.getD undef = .int .i64 (k : Int) := e7
          simp only [under]
          intro hg
          replace hg : A.tmps[39]?.getD undef = .bool false := hg
          simp [go_sem, e7]
          exact hK _ _ (by first | rfl | (simp; done) | (simp; omega)) rfl trivial
        · rintro A w' Q K rfl hK ⟨e40, e41, -⟩
          replace e40 : A.tmps[39]?.getD undef = .bool false → A.tmps[40]?.getD undef = .slice (some ⟨g1, 0, none⟩) 6 k1 := e40
          replace e41 : A.tmps[39]?.getD undef = .bool false → A.tmps[41]?.getD undef = .int .i64 (k : Int) := e41
          simp only [under]
          intro hg
          replace hg : A.tmps[39]?.getD undef = .bool false := hg
          replace e40 := e40 hg
          replace e41 := e41 hg
          simp [go_sem, e40, e41, hk1]
          exact hK _ _ (by first | rfl | (simp; done) | (simp; omega)) rfl trivial
        · rintro A w' Q K rfl hK ⟨e42, -⟩
          replace e42 : A.tmps[39]?.getD undef = .bool false → A.tmps[42]?.getD undef = .pointer (some ⟨g1, k, none⟩) := e42
          simp only [under]
          intro hg
          replace hg : A.tmps[39]?.getD undef = .bool false := hg
          replace e42 := e42 hg
          simp [go_sem, e42, hc1]
          exact hK _ _ (by first | rfl | (simp; done) | (simp; omega)) rfl trivial
        · rintro A w' Q K rfl hK ⟨e43, -⟩
          replace e43 : A.tmps[39]?.getD undef = .bool false → A.tmps[43]?.getD undef = .int .i64 (q : Int) := e43
          simp only [under]
          intro hg
          replace hg : A.tmps[39]?.getD undef = .bool false := hg
          replace e43 := e43 hg
          simp [go_sem, e43]
          exact hK _ _ (by first | rfl | (simp; done) | (simp; omega)) rfl trivial
        · rintro A w' Q K rfl hK ⟨e39, e44, -⟩
          replace e39 : A.tmps[39]?.getD undef = .bool false := e39
          replace e44 : A.tmps[39]?.getD undef = .bool false → A.tmps[44]?.getD undef = .bool false := e44
          simp only [under]
          replace e44 := e44 e39
          simp [go_sem, e39, e44]
          exact hK _ _ (by first | rfl | (simp; done) | (simp; omega)) rfl trivial
        · rintro A w' Q K rfl hK ⟨e45, -⟩
          replace e45 : A.tmps[45]?.getD undef = .bool false := e45
          simp only [under]
          simp [go_sem, e45]
          exact hK _ _ (by first | rfl | (simp; done) | (simp; omega)) rfl trivial
        · rintro A w' Q K rfl hK ⟨e4, -⟩
          replace e4 : A.tmps[4]?.getD undef = .slice (some ⟨g1, 0, none⟩) 6 k1 := e4
          simp only [under]
          intro hg
          replace hg : A.tmps[46]?.getD undef = .bool false := hg
          simp [go_sem, e4]
          exact hK _ _ (by first | rfl | (simp; done) | (simp; omega)) rfl trivial
        · rintro A w' Q K rfl hK ⟨e7, -⟩
          replace e7 : A.tmps[7]?.getD undef = .int .i64 (k : Int) := e7
          simp only [under]
          intro hg
          replace hg : A.tmps[46]?.getD undef = .bool false := hg
          simp [go_sem, e7]
          exact hK _ _ (by first | rfl | (simp; done) | (simp; omega)) rfl trivial
        · rintro A w' Q K rfl hK ⟨e47, e48, -⟩
          replace e47 : A.tmps[46]?.getD undef = .bool false → A.tmps[47]?.getD undef = .slice (some ⟨g1, 0, none⟩) 6 k1 := e47
          replace e48 : A.tmps[46]?.getD undef = .bool false → A.tmps[48]?.getD undef = .int .i64 (k : Int) := e48
          simp only [under]
          intro hg
          replace hg : A.tmps[46]?.getD undef = .bool false := hg
          replace e47 := e47 hg
          replace e48 := e48 hg
          simp [go_sem, e47, e48, hk1]
          exact hK _ _ (by first | rfl | (simp; done) | (simp; omega)) rfl trivial
        · rintro A w' Q K rfl hK ⟨e49, -⟩
          replace e49 : A.tmps[46]?.getD undef = .bool false → A.tmps[49]?.getD undef = .pointer (some ⟨g1, k, none⟩) := e49
          simp only [under]
          intro hg
          replace hg : A.tmps[46]?.getD undef = .bool false := hg
          replace e49 := e49 hg
          simp [go_sem, e49, hc1]
          exact hK _ _ (by first | rfl | (simp; done) | (simp; omega)) rfl trivial
        · rintro A w' Q K rfl hK ⟨e50, -⟩
          replace e50 : A.tmps[46]?.getD undef = .bool false → A.tmps[50]?.getD undef = .int .i64 (q : Int) := e50
          simp only [under]
          intro hg
          replace hg : A.tmps[46]?.getD undef = .bool false := hg
          replace e50 := e50 hg
          simp [go_sem, e50]
          exact hK _ _ (by first | rfl | (simp; done) | (simp; omega)) rfl trivial
        · rintro A w' Q K rfl hK ⟨e46, e51, -⟩
          replace e46 : A.tmps[46]?.getD undef = .bool false := e46
          replace e51 : A.tmps[46]?.getD undef = .bool false → A.tmps[51]?.getD undef = .bool false := e51
          simp only [under]
          replace e51 := e51 e46
          simp [go_sem, e46, e51]
          exact hK _ _ (by first | rfl | (simp; done) | (simp; omega)) rfl trivial
        · rintro A w' Q K rfl hK ⟨e52, -⟩
          replace e52 : A.tmps[52]?.getD undef = .bool false := e52
          simp only [under]
          simp [go_sem, e52]
          exact hK _ _ (by first | rfl | (simp; done) | (simp; omega)) rfl trivial
        · rintro A w' Q K rfl hK ⟨e4, -⟩
          replace e4 : A.tmps[4]?.getD undef = .slice (some ⟨g1, 0, none⟩) 6 k1 := e4
          simp only [under]
          intro hg
          replace hg : A.tmps[53]?.getD undef = .bool false := hg
          simp [go_sem, e4]
          exact hK _ _ (by first | rfl | (simp; done) | (simp; omega)) rfl trivial
        · rintro A w' Q K rfl hK ⟨e7, -⟩
          replace e7 : A.tmps[7]?.getD undef = .int .i64 (k : Int) := e7
          simp only [under]
          intro hg
          replace hg : A.tmps[53]?.getD undef = .bool false := hg
          simp [go_sem, e7]
          exact hK _ _ (by first | rfl | (simp; done) | (simp; omega)) rfl trivial
        · rintro A w' Q K rfl hK ⟨e54, e55, -⟩
          replace e54 : A.tmps[53]?.getD undef = .bool false → A.tmps[54]?.getD undef = .slice (some ⟨g1, 0, none⟩) 6 k1 := e54
          replace e55 : A.tmps[53]?.getD undef = .bool false → A.tmps[55]?.getD undef = .int .i64 (k : Int) := e55
          simp only [under]
          intro hg
          replace hg : A.tmps[53]?.getD undef = .bool false := hg
          replace e54 := e54 hg
          replace e55 := e55 hg
          simp [go_sem, e54, e55, hk1]
          exact hK _ _ (by first | rfl | (simp; done) | (simp; omega)) rfl trivial
        · rintro A w' Q K rfl hK ⟨e56, -⟩
          replace e56 : A.tmps[53]?.getD undef = .bool false → A.tmps[56]?.getD undef = .pointer (some ⟨g1, k, none⟩) := e56
          simp only [under]
          intro hg
          replace hg : A.tmps[53]?.getD undef = .bool false := hg
          replace e56 := e56 hg
          simp [go_sem, e56, hc1]
          exact hK _ _ (by first | rfl | (simp; done) | (simp; omega)) rfl trivial
        · rintro A w' Q K rfl hK ⟨e6, e57, -⟩
          replace e6 : A.tmps[6]?.getD undef = .pointer (some ⟨W3.heap.size, 0, none⟩) := e6
          replace e57 : A.tmps[53]?.getD undef = .bool false → A.tmps[57]?.getD undef = .int .i64 (q : Int) := e57
          simp only [under]
          intro hg
          replace hg : A.tmps[53]?.getD undef = .bool false := hg
          replace e57 := e57 hg
          simp [go_sem, e6, e57, hq8i]
          exact hK _ _ (by first | rfl | (simp; done) | (simp; omega)) rfl trivial
        · rintro A w' Q K rfl hK ⟨e58, -⟩
          replace e58 : A.tmps[53]?.getD undef = .bool false → A.tmps[58]?.getD undef = .pointer (some ⟨W3.heap.size, q, none⟩) := e58
          simp only [under]
          intro hg
          replace hg : A.tmps[53]?.getD undef = .bool false := hg
          replace e58 := e58 hg
          simp [go_sem, e58, hhc]
          exact hK _ _ (by first | rfl | (simp; done) | (simp; omega)) rfl trivial
        · rintro A w' Q K rfl hK ⟨e53, e59, -⟩
          replace e53 : A.tmps[53]?.getD undef = .bool false := e53
          replace e59 : A.tmps[53]?.getD undef = .bool false → A.tmps[59]?.getD undef = .bool false := e59
          simp only [under]
          replace e59 := e59 e53
          simp [go_sem, e53, e59]
          exact hK _ _ (by first | rfl | (simp; done) | (simp; omega)) rfl trivial
        · intro W4 hW4
          subst hW4
          refine fun v0 h0 v1 h1 v2 h2 v3 h3 v4 h4 v5 h5 v6 h6 v7 h7 v8 h8 v9 h9 v10 h10 v11 h11 v12 h12 v13 h13 v14 h14 v15 h15 v16 h16 v17 h17 v18 h18 v19 h19 v20 h20 v21 h21 v22 h22 v23 h23 v24 h24 v25 h25 v26 h26 v27 h27 v28 h28 v29 h29 v30 h30 v31 h31 v32 h32 v33 h33 v34 h34 v35 h35 v36 h36 => ?_
          obtain rfl := (h0 : v0 = .int .i64 (k : Int)).symm
          obtain rfl := (h1 : v1 = .slice (some ⟨g2, 0, none⟩) 6 k2).symm
          obtain rfl := (h2 : v2 = .int .i64 6).symm
          obtain rfl := (h3 : v3 = .bool false).symm
          obtain rfl := (h4 : v4 = .bool false).symm
          clear h5
          clear h6
          clear h7
          clear h8
          clear h9
          clear h10
          clear h11
          clear h12
          clear h13
          obtain rfl := (h14 : v14 = .bool false).symm
          obtain rfl := (h15 : v15 = .bool false).symm
          clear h16
          clear h17
          clear h18
          clear h19
          clear h20
          obtain rfl := (h21 : v21 = .bool false).symm
          obtain rfl := (h22 : v22 = .bool false).symm
          clear h23
          clear h24
          clear h25
          clear h26
          clear h27
          obtain rfl := (h28 : v28 = .bool false).symm
          obtain rfl := (h29 : v29 = .bool false).symm
          clear h30
          clear h31
          clear h32
          clear h33
          clear h34
          clear h35
          obtain rfl := (h36 : v36 = .bool false).symm
          simp only [upto, Act.put, List.setIfInBounds_toArray, List.set_cons_zero, List.set_cons_succ]
          dsimp only [Exit.then]
          go_wp2
          have hgc : wr.grownBy (wr.setCell ⟨W3.heap.size, q, none⟩ (.bool true)).drew (some W3.heap.size) := ⟨rfl, rfl, rfl, (grown_cell wr W3.heap.size q (.bool true)).size, (grown_cell wr W3.heap.size q (.bool true)).block⟩
          refine ⟨⟨k + 1, by omega, by simp, (HB.out.setCell (p := ⟨W3.heap.size, q, none⟩) hs3 _).drew, HN1.out.grown hgc (by omega) (fun e => by cases e; omega), HN2.out.grown hgc (by omega) (fun e => by cases e; omega), ?_, by simpa [World.drew] using hsz⟩, by simp [intOf]; omega⟩
          rw [HTK.out]
          exact HH.out.set q hq8
      · obtain rfl : k = 6 := by omega
        have HB := hide hB
        clear hN1 hN2 hH hB M1 M2 B3
        go_wp2
        go_ret
        exact ⟨rfl, HB.out⟩
end Go.Proofs.Ytllcpchojjlnhaa
