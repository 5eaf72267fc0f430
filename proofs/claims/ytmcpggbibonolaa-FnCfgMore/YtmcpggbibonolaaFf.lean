/- The walk of the law FnCfgMore. -/
import Derived.Test.YtmcpggbibonolaaDf
import Derived.Test.YtmcpggbibonolaaFe
import Derived.Test.YtmcpggbibonolaaSg
namespace Go.Proofs.Ytmcpggbibonolaa
open Go.RowKit

theorem grown_below {V w' : World} {o : Obj} (hg : (V.alloc o).grownBy w' (some V.heap.size)) : Below V.heap.size V w' :=
  ⟨hg.os, hg.tape, hg.output, by have := hg.size; simp at this; omega, fun k hk => by
    rw [hg.block k (by simp; omega) (by simp; omega)]
    exact Below.heap_alloc _ _ _ hk⟩
theorem cfg_of {W : World} {c : Cf} {aw : Option Addr} {lw cw : Nat} {ag : Option Addr} {lg cg : Nat} {s : Int} {lW : List Wk} {lG : List Gp} (h1 : lW.length = lw) (h2 : lw ≤ 2000000) (h3 : WorksAt W aw lW) (h4 : lG.length = lg) (h5 : lg ≤ 2000000) (h6 : GroupsAt W ag lG) :
    CfgAt W (.agg #[.slice aw lw cw, .slice ag lg cg, .int .i64 s, .int .i64 c.calm, .int .i64 c.idle, .int .i64 c.back]) ⟨lW, lG, s, c.calm, c.idle, c.back⟩ :=
  ⟨_, _, _, _, _, _, rfl, ⟨h1, h2, h3⟩, ⟨h4, h5, h6⟩⟩
theorem GroupsAt.keepB {w w' : World} {b o B : Nat} {l : List Gp} (h : GroupsAt w (some ⟨b, o, none⟩) l) (hb : Below B w w') (hB : b < B) : GroupsAt w' (some ⟨b, o, none⟩) l := by
  rcases h with h | ⟨b', o', ha, hl, hc⟩
  · exact .inl h
  · obtain ⟨rfl, rfl⟩ : b = b' ∧ o = o' := by simpa using ha
    exact .inr ⟨b, o, rfl, Nat.lt_of_lt_of_le hl hb.size, fun i h j hj => (World.cell?_of_block (w := w) (hb.block b hB)).trans (hc i h j hj)⟩

set_option maxRecDepth 100000 in
set_option maxHeartbeats 8000000 in
theorem cfgMore_walk (xa : Option Addr) (len cap : Nat) (f : Nat → Int) (w : World) (hby : Bytes w xa len cap f) :
    Calls Try.prog 5 #[.slice xa len cap] w fun e w' => e = .returned (.bool true) ∧ Below w.heap.size w w' := by
  have hcap := hby.2.1
  have hlc := hby.1
  unfold maxLen at hcap
  by_cases hlen : len ≤ 1048576
  · go_enter Try.func5, Try.ntmps5
    go_wp2_with fail
    refine (drawBound_any xa len cap f _ hby).mono ?_
    rintro e w1 ⟨v, c, n, rfl, hC, l1, l2, n0, n1, hB1⟩
    have HC1 := hide hC
    obtain ⟨aw, lw, cw, ag, lg, cg, rfl, ⟨e1, e2, hW⟩, ⟨e3, e4, hG⟩⟩ := hC
    have HW1 := hide hW
    have HG1 := hide hG
    clear hW hG hby hcap hlc hlen
    go_wp2_with fail
    refine (bound_any _ c _ _ (HC1.out.keep (by go_grown))).mono ?_
    rintro e w2 ⟨rfl, hb2⟩
    have hbel : Below w1.heap.size w1 w2 := Below.trans (by go_grown) (hb2.mono (by simp))
    have hbx : Blk w2 w1.heap.size #[.slice aw lw cw, .slice ag lg cg, .int .i64 c.start, .int .i64 c.calm, .int .i64 c.idle, .int .i64 c.back] 26 := (Blk.new w1 _ _).below hb2 (by simp)
    have HC2 := hide (HC1.out.keep hbel)
    have HW2 := hide (HW1.out.keep hbel)
    have HG2 := hide (HG1.out.keep hbel)
    have A2 := hbx.cell
    have z2 := hbx.lt
    have HX2 := hide hbx
    have hB2 := Below.trans hB1 (hbel.mono hB1.size)
    clear HC1 HW1 HG1 hb2 hbel hbx hB1
    go_wp2_with fail
    refine (sBound_any _ c _ _ HC2.out).mono ?_
    rintro e w3 ⟨rfl, hb3⟩
    have HC3 := hide (HC2.out.keep hb3)
    have HW3 := hide (HW2.out.keep hb3)
    have HG3 := hide (HG2.out.keep hb3)
    have HX3 := hide (HX2.out.below hb3 z2)
    have A3 := HX3.out.cell
    have z3 := HX3.out.lt
    have hB3 := Below.trans hB2 (hb3.mono hB2.size)
    clear HC2 HW2 HG2 HX2 hb3 A2 z2 hB2
    go_wp2_with fail
    refine (sCfgOk_any _ c _ HC3.out).mono ?_
    rintro e w4 ⟨rfl, hb4⟩
    have HC4 := hide (HC3.out.keep hb4)
    have HW4 := hide (HW3.out.keep hb4)
    have HG4 := hide (HG3.out.keep hb4)
    have HX4 := hide (HX3.out.below hb4 z3)
    have A4 := HX4.out.cell
    have z4 := HX4.out.lt
    have hB4 := Below.trans hB3 (hb4.mono hB3.size)
    clear HC3 HW3 HG3 HX3 hb4 A3 z3 hB3
    cases hok : cfgOk c
    · go_wp2_with fail
      refine (sBound_any _ c _ _ HC4.out).mono ?_
      rintro e w5 ⟨rfl, hb5⟩
      have hfin := Below.trans hB4 (hb5.mono hB4.size)
      go_wp2
      go_ret
      exact ⟨rfl, hfin⟩
    · by_cases hn0 : n < 0
      · go_wp2_with fail
        refine (sBound_any _ c _ _ HC4.out).mono ?_
        rintro e w5 ⟨rfl, hb5⟩
        have hfin := Below.trans hB4 (hb5.mono hB4.size)
        go_wp2
        go_ret
        exact ⟨rfl, hfin⟩
      · by_cases hn1 : 100 < n
        · go_wp2_with fail
          refine (sBound_any _ c _ _ HC4.out).mono ?_
          rintro e w5 ⟨rfl, hb5⟩
          have hfin := Below.trans hB4 (hb5.mono hB4.size)
          go_wp2
          go_ret
          exact ⟨rfl, hfin⟩
        · have hwt := ok_of_waits hok
          obtain ⟨⟨st0, st1⟩, _⟩ := hwt
          obtain ⟨gall, glen, glen3⟩ := ok_of_groups hok
          obtain ⟨wall, wlen, wlen3⟩ := ok_of_works hok
          obtain ⟨g0, gr, hgc⟩ : ∃ g r, c.groups = g :: r := List.exists_cons_of_length_pos (by omega)
          obtain ⟨k0, kr, hkc⟩ : ∃ g r, c.works = g :: r := List.exists_cons_of_length_pos (by omega)
          have hg0 : 0 ≤ g0.max ∧ g0.max ≤ 8 := by rw [hgc, List.all_cons, Bool.and_eq_true] at gall; have := gOk_bd gall.1; omega
          have hk0 : 0 ≤ k0.max ∧ k0.max ≤ 8 := by rw [hkc, List.all_cons, Bool.and_eq_true] at wall; have := wOk_bd wall.1; omega
          have hgw : IntKind.i64.wrap (g0.max + 1) = g0.max + 1 := by rw [IntKind.wrap_i64]; omega
          have hkw : IntKind.i64.wrap (k0.max + 1) = k0.max + 1 := by rw [IntKind.wrap_i64]; omega
          have hlg : 0 < lg := by omega
          have hlw : 0 < lw := by omega
          have HG := hide hgc
          have HK := hide hkc
          clear gall wall hgc hkc hg0 hk0
          obtain ⟨gb, go, rfl, hgb, _⟩ := HG4.out.flat (by omega)
          obtain ⟨kb, ko, rfl, hkb, _⟩ := HW4.out.flat (by omega)
          go_upto_region 10 with (fail)
          refine wp_gen (fun V => Below w.heap.size w V ∧ w4.heap.size + 2 = V.heap.size ∧ Blk V w1.heap.size #[.slice (some ⟨kb, ko, none⟩) lw cw, .slice (some ⟨gb, go, none⟩) lg cg, .int .i64 c.start, .int .i64 c.calm, .int .i64 c.idle, .int .i64 c.back] 26 ∧ Blk V w4.heap.size #[.slice (some ⟨kb, ko, none⟩) lw cw, .slice (some ⟨gb, go, none⟩) lg cg, .int .i64 (c.start + 1), .int .i64 c.calm, .int .i64 c.idle, .int .i64 c.back] 26 ∧ Blk V (w4.heap.size + 1) #[.slice (some ⟨kb, ko, none⟩) lw cw, .slice (some ⟨gb, go, none⟩) lg cg, .int .i64 c.start, .int .i64 c.calm, .int .i64 c.idle, .int .i64 c.back] 26 ∧ Hid (WorksAt V (some ⟨kb, ko, none⟩) c.works) ∧ Hid (GroupsAt V (some ⟨gb, go, none⟩) c.groups)) ⟨?_, ?_, ?_, ?_, ?_, ?_, ?_⟩ ?_
          · exact (hB4.alloc hB4.size _).alloc (by simpa using Nat.le_succ_of_le hB4.size) _
          · simp
          · exact (HX4.out.alloc _).alloc _
          · exact (Blk.new w4 _ 26).alloc _
          · exact (by simpa using Blk.new (w4.alloc (.cells #[.slice (some ⟨kb, ko, none⟩) lw cw, .slice (some ⟨gb, go, none⟩) lg cg, .int .i64 (c.start + 1), .int .i64 c.calm, .int .i64 c.idle, .int .i64 c.back] 26)) #[.slice (some ⟨kb, ko, none⟩) lw cw, .slice (some ⟨gb, go, none⟩) lg cg, .int .i64 c.start, .int .i64 c.calm, .int .i64 c.idle, .int .i64 c.back] 26)
          · exact HW4.out.keep (by go_grown)
          · exact HG4.out.keep (by go_grown)
          have hgb4 := hgb
          have hkb4 := hkb
          clear HC4 HW4 HG4 HX4 A4 hgb hkb
          rintro V ⟨hBV, hVs, hX, hA, hB, HW, HGr⟩
          have X := hX.cell
          have Bc := hB.cell
          have Bf := hB.frozen
          have zX := hX.lt
          have zA := hA.lt
          have zB := hB.lt
          obtain ⟨gb', go', he', hgb, hnews⟩ := HGr.out.flat (by omega)
          obtain ⟨rfl, rfl⟩ : gb = gb' ∧ go = go' := by simpa using he'
          have hlen1 := flatG_len c.groups
          have hnw := hide (show ∀ j u, (flatG c.groups)[j]? = some u → (V.alloc (.cells #[] 37)).cell? ((⟨gb, go, none⟩ : Addr).add j) = some u from fun j u hj => by
            rw [World.cell?_alloc_old _ _ _ (by unfold Addr.add; split <;> exact Nat.ne_of_lt hgb)]; exact hnews j u hj)
          have hemp := hide (show (V.alloc (.cells #[] 37)).ownsRow V.heap.size 37 5 (.slice (some ⟨V.heap.size, 0, none⟩) 0 0) 0 [] from World.ownsRow_lit V #[] 0 (Nat.le_refl _) (Nat.zero_le _) rfl)
          have hone := hide (flatG_ints c.groups)
          obtain ⟨inf, i1, i2, i3, i4⟩ := info37
          have I1 := hide i1
          have I2 := hide i2
          have I3 := hide i3
          have I4 := hide i4
          clear i1 i2 i3 i4 hnews he'
          go_wp2_with (refine wpList_append_own _ (by rfl) _ _ _ (by rfl) V.heap.size 37 inf _ 5 40 Try.underlying24 I1.out I2.out I3.out I4.out (by rfl) (by omega) _ 0 [] (by rfl) hemp.out _ lg cg (flatG c.groups) (by rfl) (by omega) hnw.out hone.out (by unfold maxLen; omega) (by omega) (by simp) ?_; intro v' w5 hown' hgrow hnil; rw [Nat.zero_add, List.nil_append] at hown'; obtain ⟨gg, gc, rfl⟩ := own_form hown' hlg; have hb5 := grown_below hgrow; have B5 := (hB.below hb5 zB).cell; have B5f := (hB.below hb5 zB).frozen; clear X Bc Bf hnil hgrow hnw hemp hone)
          have hgg := (hown'.lt gg rfl).1
          refine wp_gen (fun U => Below w.heap.size w U ∧ Blk U w1.heap.size #[.slice (some ⟨kb, ko, none⟩) lw cw, .slice (some ⟨gb, go, none⟩) lg cg, .int .i64 c.start, .int .i64 c.calm, .int .i64 c.idle, .int .i64 c.back] 26 ∧ Blk U w4.heap.size #[.slice (some ⟨kb, ko, none⟩) lw cw, .slice (some ⟨gb, go, none⟩) lg cg, .int .i64 (c.start + 1), .int .i64 c.calm, .int .i64 c.idle, .int .i64 c.back] 26 ∧ Blk U (w4.heap.size + 1) #[.slice (some ⟨kb, ko, none⟩) lw cw, .slice (some ⟨gg, 0, none⟩) lg gc, .int .i64 c.start, .int .i64 c.calm, .int .i64 c.idle, .int .i64 c.back] 26 ∧ Hid (U.ownsRow V.heap.size 37 5 (.slice (some ⟨gg, 0, none⟩) lg gc) lg (flatG c.groups)) ∧ Hid (WorksAt U (some ⟨kb, ko, none⟩) c.works) ∧ Hid (GroupsAt U (some ⟨gb, go, none⟩) c.groups)) ⟨?_, ?_, ?_, ?_, ?_, ?_, ?_⟩ ?_
          · exact (hBV.trans (hb5.mono hBV.size)).setCell (by have := hB4.size; simp; omega) _
          · exact (hX.below hb5 zX).far (by simp; omega) _
          · exact (hA.below hb5 zA).far (by simp) _
          · exact (by simpa using (hB.below hb5 zB).set 1 (.slice (some ⟨gg, 0, none⟩) lg gc))
          · exact owns_far hown' _ (fun k hk => by simp [Value.ownBlock] at hk; simp; omega)
          · exact HW.out.keepB ((hb5.mono (by omega)).setCell (by simp) _) hkb4
          · exact HGr.out.keepB ((hb5.mono (by omega)).setCell (by simp) _) hgb4
          clear hX hA hB HW HGr B5 B5f hown' hb5
          rintro U ⟨hBU, hX, hA, hB, HO, HW, HGr⟩
          have X := hX.cell
          have Bc := hB.cell
          have zX := hX.lt
          have zB := hB.lt
          have hgU := (HO.out.lt gg rfl).2
          have hcg : U.cell? ⟨gb, go + 3, none⟩ = some (.int .i64 g0.max) := by
            obtain ⟨b', o', he, _, _, _, _, h3, _⟩ := HGr.out.at 0 (by omega)
            obtain ⟨rfl, rfl⟩ : gb = b' ∧ go = o' := by simpa using he
            simpa [HG.out] using h3
          have hco : U.cell? ⟨gg, 3, none⟩ = some (.int .i64 g0.max) := by
            rw [HO.out.cellAt 3 (by omega), HG.out]; rfl
          have hfo := HO.out.frozenAt 3
          have hgU' : gb < U.heap.size := World.block_lt_of_cell? U _ hcg
          go_wp2
          refine wp_region_below_lastT (by kernel_rfl) (by simp) (by kernel_rfl) (by kernel_rfl) ?_
          simp only [frontOf, lastOf]
          repeat (first
            | (apply quiet_at (hg := rfl); (· (intro w' hw'; obtain ⟨hc, hf⟩ := bcell hw'; go_simp; first | rfl)); simp only [Act.put, List.setIfInBounds_toArray, List.set_cons_zero, List.set_cons_succ]))
          refine wpQuiet_nil ?_
          intro w6 hw6
          have c6 := ((bcell hw6).1 _ _ hgU).trans hco
          have f6 := ((bcell hw6).2 _ _ hgU).trans hfo
          clear X Bc hcg hco hfo
          have X6 := (hX.below hw6 zX).cell
          have hne1 : ¬ w1.heap.size = gg := by omega
          have hne2 : ¬ gg = w1.heap.size := by omega
          have hgg6 : gg < w6.heap.size := Nat.lt_of_lt_of_le hgU hw6.size
          go_upto_region 13 with (fail)
          refine wp_gen (fun V => Below w.heap.size w V ∧ w6.heap.size + 1 = V.heap.size ∧ Blk V w1.heap.size #[.slice (some ⟨kb, ko, none⟩) lw cw, .slice (some ⟨gb, go, none⟩) lg cg, .int .i64 c.start, .int .i64 c.calm, .int .i64 c.idle, .int .i64 c.back] 26 ∧ Blk V w4.heap.size #[.slice (some ⟨kb, ko, none⟩) lw cw, .slice (some ⟨gb, go, none⟩) lg cg, .int .i64 (c.start + 1), .int .i64 c.calm, .int .i64 c.idle, .int .i64 c.back] 26 ∧ Blk V (w4.heap.size + 1) #[.slice (some ⟨kb, ko, none⟩) lw cw, .slice (some ⟨gg, 0, none⟩) lg gc, .int .i64 c.start, .int .i64 c.calm, .int .i64 c.idle, .int .i64 c.back] 26 ∧ Blk V w6.heap.size #[.slice (some ⟨kb, ko, none⟩) lw cw, .slice (some ⟨gb, go, none⟩) lg cg, .int .i64 c.start, .int .i64 c.calm, .int .i64 c.idle, .int .i64 c.back] 26 ∧ Hid (GroupsAt V (some ⟨gg, 0, none⟩) (moreG g0 :: gr)) ∧ Hid (WorksAt V (some ⟨kb, ko, none⟩) c.works) ∧ Hid (GroupsAt V (some ⟨gb, go, none⟩) c.groups)) ⟨?_, ?_, ?_, ?_, ?_, ?_, ?_, ?_, ?_⟩ ?_
          · exact ((hBU.trans (hw6.mono hBU.size)).setCell (by have := hB4.size; simp; omega) _).alloc (by have := hB4.size; simp; omega) _
          · simp
          · exact ((hX.below hw6 zX).far (by simp; omega) _).alloc _
          · exact ((hA.below hw6 hA.lt).far (by simp; omega) _).alloc _
          · exact ((hB.below hw6 zB).far (by simp; omega) _).alloc _
          · exact (by simpa using Blk.new (w6.setCell ⟨gg, 3, none⟩ (.int .i64 (g0.max + 1))) #[.slice (some ⟨kb, ko, none⟩) lw cw, .slice (some ⟨gb, go, none⟩) lg cg, .int .i64 c.start, .int .i64 c.calm, .int .i64 c.idle, .int .i64 c.back] 26)
          · have h1 := ((HO.out.kept (bel_grown hw6) (.inr (by simp [Value.ownBlock]))).stored 3 (.int .i64 (g0.max + 1))).1
            rw [HG.out, flatG_more] at h1
            exact (groups_flat (h1.alloc _)).1
          · exact HW.out.keepB (((hw6.mono (by have := hA.lt; omega)).setCell (by simp; omega) _).alloc (by have := hA.lt; have := hw6.size; simp; omega) _) hkb4
          · exact HGr.out.keepB (((hw6.mono (by have := hA.lt; omega)).setCell (by simp; omega) _).alloc (by have := hA.lt; have := hw6.size; simp; omega) _) hgb4
          have hs6 := hw6.size
          have hsU := hA.lt
          clear hX hA hB HW HGr HO c6 f6 X6 zX zB hgb hVs hBV zA hBU hw6 hgU hgU' I1 I2 I3 I4
          rintro V2 ⟨hBV, hVs, hX, hA, hB, hD, HGm, HW, HGr⟩
          have X := hX.cell
          have Dc := hD.cell
          have Df := hD.frozen
          have zX := hX.lt
          have zA := hA.lt
          have zB := hB.lt
          have zD := hD.lt
          obtain ⟨kb', ko', he', hkb, hnews⟩ := HW.out.flat (by omega)
          obtain ⟨rfl, rfl⟩ : kb = kb' ∧ ko = ko' := by simpa using he'
          have hlen2 := flatW_len c.works
          have hnw := hide (show ∀ j u, (flatW c.works)[j]? = some u → (V2.alloc (.cells #[] 40)).cell? ((⟨kb, ko, none⟩ : Addr).add j) = some u from fun j u hj => by
            rw [World.cell?_alloc_old _ _ _ (by unfold Addr.add; split <;> exact Nat.ne_of_lt hkb)]; exact hnews j u hj)
          have hemp := hide (show (V2.alloc (.cells #[] 40)).ownsRow V2.heap.size 40 8 (.slice (some ⟨V2.heap.size, 0, none⟩) 0 0) 0 [] from World.ownsRow_lit V2 #[] 0 (Nat.le_refl _) (Nat.zero_le _) rfl)
          have hone := hide (flatW_ints c.works)
          obtain ⟨inf2, i1, i2, i3, i4⟩ := info40
          have I1 := hide i1
          have I2 := hide i2
          have I3 := hide i3
          have I4 := hide i4
          clear i1 i2 i3 i4 hnews he'
          go_wp2_with (refine wpList_append_own _ (by rfl) _ _ _ (by rfl) V2.heap.size 40 inf2 _ 8 64 Try.underlying23 I1.out I2.out I3.out I4.out (by rfl) (by omega) _ 0 [] (by rfl) hemp.out _ lw cw (flatW c.works) (by rfl) (by omega) hnw.out hone.out (by unfold maxLen; omega) (by omega) (by simp) ?_; intro v' w7 hown' hgrow hnil; rw [Nat.zero_add, List.nil_append] at hown'; obtain ⟨kg, kc, rfl⟩ := own_form hown' hlw; have hb7 := grown_below hgrow; have D7 := (hD.below hb7 zD).cell; have D7f := (hD.below hb7 zD).frozen; clear X Dc Df hnil hgrow hnw hemp hone)
          have hkg := (hown'.lt kg rfl).1
          refine wp_gen (fun U => Below w.heap.size w U ∧ Blk U w1.heap.size #[.slice (some ⟨kb, ko, none⟩) lw cw, .slice (some ⟨gb, go, none⟩) lg cg, .int .i64 c.start, .int .i64 c.calm, .int .i64 c.idle, .int .i64 c.back] 26 ∧ Blk U w4.heap.size #[.slice (some ⟨kb, ko, none⟩) lw cw, .slice (some ⟨gb, go, none⟩) lg cg, .int .i64 (c.start + 1), .int .i64 c.calm, .int .i64 c.idle, .int .i64 c.back] 26 ∧ Blk U (w4.heap.size + 1) #[.slice (some ⟨kb, ko, none⟩) lw cw, .slice (some ⟨gg, 0, none⟩) lg gc, .int .i64 c.start, .int .i64 c.calm, .int .i64 c.idle, .int .i64 c.back] 26 ∧ Blk U w6.heap.size #[.slice (some ⟨kg, 0, none⟩) lw kc, .slice (some ⟨gb, go, none⟩) lg cg, .int .i64 c.start, .int .i64 c.calm, .int .i64 c.idle, .int .i64 c.back] 26 ∧ Hid (U.ownsRow V2.heap.size 40 8 (.slice (some ⟨kg, 0, none⟩) lw kc) lw (flatW c.works)) ∧ Hid (GroupsAt U (some ⟨gg, 0, none⟩) (moreG g0 :: gr)) ∧ Hid (WorksAt U (some ⟨kb, ko, none⟩) c.works) ∧ Hid (GroupsAt U (some ⟨gb, go, none⟩) c.groups)) ⟨?_, ?_, ?_, ?_, ?_, ?_, ?_, ?_, ?_⟩ ?_
          · exact (hBV.trans (hb7.mono hBV.size)).setCell (by have := hB4.size; simp; omega) _
          · exact (hX.below hb7 zX).far (by simp; omega) _
          · exact (hA.below hb7 zA).far (by simp; omega) _
          · exact (hB.below hb7 zB).far (by simp; omega) _
          · exact (by simpa using (hD.below hb7 zD).set 0 (.slice (some ⟨kg, 0, none⟩) lw kc))
          · exact owns_far hown' _ (fun k hk => by simp [Value.ownBlock] at hk; simp; omega)
          · exact HGm.out.keepB (B := w6.heap.size) ((hb7.mono (by omega)).setCell (by simp) _) hgg6
          · exact HW.out.keepB (B := w6.heap.size) ((hb7.mono (by omega)).setCell (by simp) _) (by omega)
          · exact HGr.out.keepB (B := w6.heap.size) ((hb7.mono (by omega)).setCell (by simp) _) (by omega)
          clear hX hA hB hD HW HGr HGm D7 D7f hown' hb7
          rintro U2 ⟨hBU, hX, hA, hB, hD, HO, HGm, HW, HGr⟩
          have X := hX.cell
          have Dc := hD.cell
          have zX := hX.lt
          have zB := hB.lt
          have zD := hD.lt
          have hkU := (HO.out.lt kg rfl).2
          have hcg : U2.cell? ⟨kb, ko + 3, none⟩ = some (.int .i64 k0.max) := by
            obtain ⟨b', o', he, _, _, _, _, h3, _⟩ := HW.out.at 0 (by omega)
            obtain ⟨rfl, rfl⟩ : kb = b' ∧ ko = o' := by simpa using he
            simpa [HK.out] using h3
          have hco : U2.cell? ⟨kg, 3, none⟩ = some (.int .i64 k0.max) := by
            rw [HO.out.cellAt 3 (by omega), HK.out]; rfl
          have hfo := HO.out.frozenAt 3
          have hkU' : kb < U2.heap.size := World.block_lt_of_cell? U2 _ hcg
          go_wp2
          refine wp_region_below_lastT (by kernel_rfl) (by simp) (by kernel_rfl) (by kernel_rfl) ?_
          simp only [frontOf, lastOf]
          repeat (first
            | (apply quiet_at (hg := rfl); (· (intro w' hw'; obtain ⟨hc, hf⟩ := bcell hw'; go_simp; first | rfl)); simp only [Act.put, List.setIfInBounds_toArray, List.set_cons_zero, List.set_cons_succ]))
          refine wpQuiet_nil ?_
          intro w8 hw8
          have c8 := ((bcell hw8).1 _ _ hkU).trans hco
          have f8 := ((bcell hw8).2 _ _ hkU).trans hfo
          clear X Dc hcg hco hfo
          go_upto_region 15 with (fail)
          refine wp_gen (fun Z => Below w.heap.size w Z ∧ Blk Z w1.heap.size #[.slice (some ⟨kb, ko, none⟩) lw cw, .slice (some ⟨gb, go, none⟩) lg cg, .int .i64 c.start, .int .i64 c.calm, .int .i64 c.idle, .int .i64 c.back] 26 ∧ Blk Z w4.heap.size #[.slice (some ⟨kb, ko, none⟩) lw cw, .slice (some ⟨gb, go, none⟩) lg cg, .int .i64 (c.start + 1), .int .i64 c.calm, .int .i64 c.idle, .int .i64 c.back] 26 ∧ Blk Z (w4.heap.size + 1) #[.slice (some ⟨kb, ko, none⟩) lw cw, .slice (some ⟨gg, 0, none⟩) lg gc, .int .i64 c.start, .int .i64 c.calm, .int .i64 c.idle, .int .i64 c.back] 26 ∧ Blk Z w6.heap.size #[.slice (some ⟨kg, 0, none⟩) lw kc, .slice (some ⟨gb, go, none⟩) lg cg, .int .i64 c.start, .int .i64 c.calm, .int .i64 c.idle, .int .i64 c.back] 26 ∧ Hid (CfgAt Z (.agg #[.slice (some ⟨kb, ko, none⟩) lw cw, .slice (some ⟨gb, go, none⟩) lg cg, .int .i64 c.start, .int .i64 c.calm, .int .i64 c.idle, .int .i64 c.back]) ⟨c.works, c.groups, c.start, c.calm, c.idle, c.back⟩) ∧ Hid (CfgAt Z (.agg #[.slice (some ⟨kb, ko, none⟩) lw cw, .slice (some ⟨gb, go, none⟩) lg cg, .int .i64 (c.start + 1), .int .i64 c.calm, .int .i64 c.idle, .int .i64 c.back]) ⟨c.works, c.groups, c.start + 1, c.calm, c.idle, c.back⟩) ∧ Hid (CfgAt Z (.agg #[.slice (some ⟨kb, ko, none⟩) lw cw, .slice (some ⟨gg, 0, none⟩) lg gc, .int .i64 c.start, .int .i64 c.calm, .int .i64 c.idle, .int .i64 c.back]) ⟨c.works, moreG g0 :: gr, c.start, c.calm, c.idle, c.back⟩) ∧ Hid (CfgAt Z (.agg #[.slice (some ⟨kg, 0, none⟩) lw kc, .slice (some ⟨gb, go, none⟩) lg cg, .int .i64 c.start, .int .i64 c.calm, .int .i64 c.idle, .int .i64 c.back]) ⟨moreW k0 :: kr, c.groups, c.start, c.calm, c.idle, c.back⟩)) ?_ ?_
          · have HBz : Below (w6.heap.size + 1) U2 (w8.setCell ⟨kg, 3, none⟩ (.int .i64 (k0.max + 1))) := (hw8.mono (by omega)).setCell (by simp; omega) _
            have gW := HW.out.keepB HBz (by omega)
            have gG := HGr.out.keepB HBz (by omega)
            have gM := HGm.out.keepB HBz (by omega)
            have gN : WorksAt (w8.setCell ⟨kg, 3, none⟩ (.int .i64 (k0.max + 1))) (some ⟨kg, 0, none⟩) (moreW k0 :: kr) := by
              have h1 := ((HO.out.kept (bel_grown hw8) (.inr (by simp [Value.ownBlock]))).stored 3 (.int .i64 (k0.max + 1))).1
              rw [HK.out, flatW_more] at h1
              exact (works_flat h1).1
            have lG : (moreG g0 :: gr).length = lg := by rw [← e3, HG.out]; rfl
            have lW : (moreW k0 :: kr).length = lw := by rw [← e1, HK.out]; rfl
            exact ⟨(hBU.trans (hw8.mono hBU.size)).setCell (by have := hB4.size; simp; omega) _, (hX.below hw8 zX).far (by simp; omega) _, (hA.below hw8 hA.lt).far (by simp; omega) _, (hB.below hw8 zB).far (by simp; omega) _, (hD.below hw8 zD).far (by simp; omega) _, cfg_of e1 e2 gW e3 e4 gG, cfg_of e1 e2 gW e3 e4 gG, cfg_of e1 e2 gW lG e4 gM, cfg_of lW e2 gN e3 e4 gG⟩
          clear hX hA hB hD HO HW HGr HGm c8 f8 hw8 hBU zX zB zD hkU hkU' zA I1 I2 I3 I4 hlen1 hlen2 hgw hkw hkb
          rintro Z ⟨hBZ, hX, hA, hB, hD, HCc, HCa, HCb, HCd⟩
          have X := hX.cell
          have Ac := hA.cell
          have Bc := hB.cell
          have Dc := hD.cell
          have zX := hX.lt
          have zA := hA.lt
          have zB := hB.lt
          have zD := hD.lt
          clear hX hA hB hD
          have bN := nodesOf_bd c hok
          have bP := podsOf_bd c hok
          have hwN : IntKind.i64.wrap (nodesOf c + 1) = nodesOf c + 1 := by rw [IntKind.wrap_i64]; omega
          have hwP : IntKind.i64.wrap (podsOf c + 1) = podsOf c + 1 := by rw [IntKind.wrap_i64]; omega
          have HS := hide (fun h2 => more_start c hok h2 n (by omega) (by omega))
          have HN := hide (fun h2 => more_nodes c g0 gr HG.out hok h2 n (by omega) (by omega))
          have HP := hide (fun h2 => more_pods c k0 kr HK.out hok h2 n (by omega) (by omega))
          clear bN bP
          obtain ⟨ca, hca⟩ : ∃ x : Cf, x = ⟨c.works, c.groups, c.start + 1, c.calm, c.idle, c.back⟩ := ⟨_, rfl⟩
          obtain ⟨cb, hcb⟩ : ∃ x : Cf, x = ⟨c.works, moreG g0 :: gr, c.start, c.calm, c.idle, c.back⟩ := ⟨_, rfl⟩
          obtain ⟨cd, hcd⟩ : ∃ x : Cf, x = ⟨moreW k0 :: kr, c.groups, c.start, c.calm, c.idle, c.back⟩ := ⟨_, rfl⟩
          rw [← hca] at HCa HS
          rw [← hcb] at HCb HN
          rw [← hcd] at HCd HP
          clear hca hcb hcd
          have Nc := hide (show ∀ W, Below Z.heap.size Z W → Calls Try.prog 20 #[.agg #[.slice (some ⟨kb, ko, none⟩) lw cw, .slice (some ⟨gb, go, none⟩) lg cg, .int .i64 c.start, .int .i64 c.calm, .int .i64 c.idle, .int .i64 c.back]] W fun e w'' => e = .returned (.int .i64 (nodesOf c)) ∧ Below W.heap.size W w'' from fun W hW => by have := nodes_any _ c W (HCc.out.keep hW); exact this)
          have Pc := hide (show ∀ W, Below Z.heap.size Z W → Calls Try.prog 19 #[.agg #[.slice (some ⟨kb, ko, none⟩) lw cw, .slice (some ⟨gb, go, none⟩) lg cg, .int .i64 c.start, .int .i64 c.calm, .int .i64 c.idle, .int .i64 c.back]] W fun e w'' => e = .returned (.int .i64 (podsOf c)) ∧ Below W.heap.size W w'' from fun W hW => by have := pods_any _ c W (HCc.out.keep hW); exact this)
          have Ba := hide (show ∀ W, Below Z.heap.size Z W → Calls Try.prog 13 #[.agg #[.slice (some ⟨kb, ko, none⟩) lw cw, .slice (some ⟨gb, go, none⟩) lg cg, .int .i64 (c.start + 1), .int .i64 c.calm, .int .i64 c.idle, .int .i64 c.back], .int .i64 n] W fun e w'' => e = .returned (.int .i64 (boundOf ca n)) ∧ Below W.heap.size W w'' from fun W hW => by have := bound_any _ ca n W (HCa.out.keep hW); exact this)
          have Bb := hide (show ∀ W, Below Z.heap.size Z W → Calls Try.prog 13 #[.agg #[.slice (some ⟨kb, ko, none⟩) lw cw, .slice (some ⟨gg, 0, none⟩) lg gc, .int .i64 c.start, .int .i64 c.calm, .int .i64 c.idle, .int .i64 c.back], .int .i64 n] W fun e w'' => e = .returned (.int .i64 (boundOf cb n)) ∧ Below W.heap.size W w'' from fun W hW => by have := bound_any _ cb n W (HCb.out.keep hW); exact this)
          have Bd := hide (show ∀ W, Below Z.heap.size Z W → Calls Try.prog 13 #[.agg #[.slice (some ⟨kg, 0, none⟩) lw kc, .slice (some ⟨gb, go, none⟩) lg cg, .int .i64 c.start, .int .i64 c.calm, .int .i64 c.idle, .int .i64 c.back], .int .i64 n] W fun e w'' => e = .returned (.int .i64 (boundOf cd n)) ∧ Below W.heap.size W w'' from fun W hW => by have := bound_any _ cd n W (HCd.out.keep hW); exact this)
          cases ka : cfgOk ca
          · have Ka := hide (show ∀ W, Below Z.heap.size Z W → Calls Try.prog 15 #[.agg #[.slice (some ⟨kb, ko, none⟩) lw cw, .slice (some ⟨gb, go, none⟩) lg cg, .int .i64 (c.start + 1), .int .i64 c.calm, .int .i64 c.idle, .int .i64 c.back]] W fun e w'' => e = .returned (.bool false) ∧ Below W.heap.size W w'' from fun W hW => by have := cfgOk_any _ ca W (HCa.out.keep hW); rwa [ka] at this)
            cases kb2 : cfgOk cb
            · have Kb := hide (show ∀ W, Below Z.heap.size Z W → Calls Try.prog 15 #[.agg #[.slice (some ⟨kb, ko, none⟩) lw cw, .slice (some ⟨gg, 0, none⟩) lg gc, .int .i64 c.start, .int .i64 c.calm, .int .i64 c.idle, .int .i64 c.back]] W fun e w'' => e = .returned (.bool false) ∧ Below W.heap.size W w'' from fun W hW => by have := cfgOk_any _ cb W (HCb.out.keep hW); rwa [kb2] at this)
              cases kd : cfgOk cd
              · have Kd := hide (show ∀ W, Below Z.heap.size Z W → Calls Try.prog 15 #[.agg #[.slice (some ⟨kg, 0, none⟩) lw kc, .slice (some ⟨gb, go, none⟩) lg cg, .int .i64 c.start, .int .i64 c.calm, .int .i64 c.idle, .int .i64 c.back]] W fun e w'' => e = .returned (.bool false) ∧ Below W.heap.size W w'' from fun W hW => by have := cfgOk_any _ cd W (HCd.out.keep hW); rwa [kd] at this)
                refine wp_region_below (by kernel_rfl) (by kernel_rfl) ?_
                (apply quiet_at (hg := rfl); (· (intro w' hw'; obtain ⟨hc, hf⟩ := bcell hw'; go_simp; first | rfl)); simp only [Act.put, List.setIfInBounds_toArray, List.set_cons_zero, List.set_cons_succ])
                (apply quiet_at (hg := rfl); (· (intro w' hw'; obtain ⟨hc, hf⟩ := bcell hw'; go_simp; first | (go_at_call 15; refine (Ka.out _ hw').mono ?_; rintro e w9 ⟨rfl, hb9⟩; exact ⟨rfl, bel_trans hw' hb9⟩) | rfl)); simp only [Act.put, List.setIfInBounds_toArray, List.set_cons_zero, List.set_cons_succ])
                (apply quiet_at (hg := rfl); (· (intro w' hw'; obtain ⟨hc, hf⟩ := bcell hw'; go_simp; first | rfl)); simp only [Act.put, List.setIfInBounds_toArray, List.set_cons_zero, List.set_cons_succ])
                (apply quiet_at (hg := rfl); (· (intro w' hw'; obtain ⟨hc, hf⟩ := bcell hw'; go_simp; first | rfl)); simp only [Act.put, List.setIfInBounds_toArray, List.set_cons_zero, List.set_cons_succ])
                go_big_quiet_skip
                go_big_quiet_skip
                go_big_quiet_skip
                go_big_quiet_skip
                go_big_quiet_skip
                (apply quiet_at (hg := rfl); (· (intro w' hw'; obtain ⟨hc, hf⟩ := bcell hw'; go_simp; first | rfl)); simp only [Act.put, List.setIfInBounds_toArray, List.set_cons_zero, List.set_cons_succ])
                (apply quiet_at (hg := rfl); (· (intro w' hw'; obtain ⟨hc, hf⟩ := bcell hw'; go_simp; first | rfl)); simp only [Act.put, List.setIfInBounds_toArray, List.set_cons_zero, List.set_cons_succ])
                (apply quiet_at (hg := rfl); (· (intro w' hw'; obtain ⟨hc, hf⟩ := bcell hw'; go_simp; first | rfl)); simp only [Act.put, List.setIfInBounds_toArray, List.set_cons_zero, List.set_cons_succ])
                (apply quiet_at (hg := rfl); (· (intro w' hw'; obtain ⟨hc, hf⟩ := bcell hw'; go_simp; first | (go_at_call 15; refine (Kb.out _ hw').mono ?_; rintro e w9 ⟨rfl, hb9⟩; exact ⟨rfl, bel_trans hw' hb9⟩) | rfl)); simp only [Act.put, List.setIfInBounds_toArray, List.set_cons_zero, List.set_cons_succ])
                (apply quiet_at (hg := rfl); (· (intro w' hw'; obtain ⟨hc, hf⟩ := bcell hw'; go_simp; first | rfl)); simp only [Act.put, List.setIfInBounds_toArray, List.set_cons_zero, List.set_cons_succ])
                (apply quiet_at (hg := rfl); (· (intro w' hw'; obtain ⟨hc, hf⟩ := bcell hw'; go_simp; first | rfl)); simp only [Act.put, List.setIfInBounds_toArray, List.set_cons_zero, List.set_cons_succ])
                go_big_quiet_skip
                go_big_quiet_skip
                go_big_quiet_skip
                go_big_quiet_skip
                go_big_quiet_skip
                go_big_quiet_skip
                go_big_quiet_skip
                go_big_quiet_skip
                go_big_quiet_skip
                go_big_quiet_skip
                go_big_quiet_skip
                go_big_quiet_skip
                go_big_quiet_skip
                (apply quiet_at (hg := rfl); (· (intro w' hw'; obtain ⟨hc, hf⟩ := bcell hw'; go_simp; first | rfl)); simp only [Act.put, List.setIfInBounds_toArray, List.set_cons_zero, List.set_cons_succ])
                (apply quiet_at (hg := rfl); (· (intro w' hw'; obtain ⟨hc, hf⟩ := bcell hw'; go_simp; first | rfl)); simp only [Act.put, List.setIfInBounds_toArray, List.set_cons_zero, List.set_cons_succ])
                (apply quiet_at (hg := rfl); (· (intro w' hw'; obtain ⟨hc, hf⟩ := bcell hw'; go_simp; first | rfl)); simp only [Act.put, List.setIfInBounds_toArray, List.set_cons_zero, List.set_cons_succ])
                (apply quiet_at (hg := rfl); (· (intro w' hw'; obtain ⟨hc, hf⟩ := bcell hw'; go_simp; first | rfl)); simp only [Act.put, List.setIfInBounds_toArray, List.set_cons_zero, List.set_cons_succ])
                (apply quiet_at (hg := rfl); (· (intro w' hw'; obtain ⟨hc, hf⟩ := bcell hw'; go_simp; first | (go_at_call 15; refine (Kd.out _ hw').mono ?_; rintro e w9 ⟨rfl, hb9⟩; exact ⟨rfl, bel_trans hw' hb9⟩) | rfl)); simp only [Act.put, List.setIfInBounds_toArray, List.set_cons_zero, List.set_cons_succ])
                (apply quiet_at (hg := rfl); (· (intro w' hw'; obtain ⟨hc, hf⟩ := bcell hw'; go_simp; first | rfl)); simp only [Act.put, List.setIfInBounds_toArray, List.set_cons_zero, List.set_cons_succ])
                (apply quiet_at (hg := rfl); (· (intro w' hw'; obtain ⟨hc, hf⟩ := bcell hw'; go_simp; first | rfl)); simp only [Act.put, List.setIfInBounds_toArray, List.set_cons_zero, List.set_cons_succ])
                go_big_quiet_skip
                go_big_quiet_skip
                go_big_quiet_skip
                go_big_quiet_skip
                go_big_quiet_skip
                go_big_quiet_skip
                go_big_quiet_skip
                go_big_quiet_skip
                go_big_quiet_skip
                go_big_quiet_skip
                go_big_quiet_skip
                go_big_quiet_skip
                go_big_quiet_skip
                (apply quiet_at (hg := rfl); (· (intro w' hw'; obtain ⟨hc, hf⟩ := bcell hw'; go_simp; first | rfl)); simp only [Act.put, List.setIfInBounds_toArray, List.set_cons_zero, List.set_cons_succ])
                (apply quiet_at (hg := rfl); (· (intro w' hw'; obtain ⟨hc, hf⟩ := bcell hw'; go_simp; first | rfl)); simp only [Act.put, List.setIfInBounds_toArray, List.set_cons_zero, List.set_cons_succ])
                (apply quiet_at (hg := rfl); (· (intro w' hw'; obtain ⟨hc, hf⟩ := bcell hw'; go_simp; first | rfl)); simp only [Act.put, List.setIfInBounds_toArray, List.set_cons_zero, List.set_cons_succ])
                refine wpQuiet_nil ?_
                intro w9 hw9
                have hfin := Below.trans hBZ (hw9.mono hBZ.size)
                clear X Ac Bc Dc
                go_wp2
                go_ret
                exact ⟨rfl, hfin⟩
              · have Kd := hide (show ∀ W, Below Z.heap.size Z W → Calls Try.prog 15 #[.agg #[.slice (some ⟨kg, 0, none⟩) lw kc, .slice (some ⟨gb, go, none⟩) lg cg, .int .i64 c.start, .int .i64 c.calm, .int .i64 c.idle, .int .i64 c.back]] W fun e w'' => e = .returned (.bool true) ∧ Below W.heap.size W w'' from fun W hW => by have := cfgOk_any _ cd W (HCd.out.keep hW); rwa [kd] at this)
                have sd := (HP.out kd).2
                have Pd := hide (show ∀ W, Below Z.heap.size Z W → Calls Try.prog 19 #[.agg #[.slice (some ⟨kg, 0, none⟩) lw kc, .slice (some ⟨gb, go, none⟩) lg cg, .int .i64 c.start, .int .i64 c.calm, .int .i64 c.idle, .int .i64 c.back]] W fun e w'' => e = .returned (.int .i64 (podsOf c + 1)) ∧ Below W.heap.size W w'' from fun W hW => by have := pods_any _ cd W (HCd.out.keep hW); rwa [(HP.out kd).1] at this)
                refine wp_region_below (by kernel_rfl) (by kernel_rfl) ?_
                (apply quiet_at (hg := rfl); (· (intro w' hw'; obtain ⟨hc, hf⟩ := bcell hw'; go_simp; first | rfl)); simp only [Act.put, List.setIfInBounds_toArray, List.set_cons_zero, List.set_cons_succ])
                (apply quiet_at (hg := rfl); (· (intro w' hw'; obtain ⟨hc, hf⟩ := bcell hw'; go_simp; first | (go_at_call 15; refine (Ka.out _ hw').mono ?_; rintro e w9 ⟨rfl, hb9⟩; exact ⟨rfl, bel_trans hw' hb9⟩) | rfl)); simp only [Act.put, List.setIfInBounds_toArray, List.set_cons_zero, List.set_cons_succ])
                (apply quiet_at (hg := rfl); (· (intro w' hw'; obtain ⟨hc, hf⟩ := bcell hw'; go_simp; first | rfl)); simp only [Act.put, List.setIfInBounds_toArray, List.set_cons_zero, List.set_cons_succ])
                (apply quiet_at (hg := rfl); (· (intro w' hw'; obtain ⟨hc, hf⟩ := bcell hw'; go_simp; first | rfl)); simp only [Act.put, List.setIfInBounds_toArray, List.set_cons_zero, List.set_cons_succ])
                go_big_quiet_skip
                go_big_quiet_skip
                go_big_quiet_skip
                go_big_quiet_skip
                go_big_quiet_skip
                (apply quiet_at (hg := rfl); (· (intro w' hw'; obtain ⟨hc, hf⟩ := bcell hw'; go_simp; first | rfl)); simp only [Act.put, List.setIfInBounds_toArray, List.set_cons_zero, List.set_cons_succ])
                (apply quiet_at (hg := rfl); (· (intro w' hw'; obtain ⟨hc, hf⟩ := bcell hw'; go_simp; first | rfl)); simp only [Act.put, List.setIfInBounds_toArray, List.set_cons_zero, List.set_cons_succ])
                (apply quiet_at (hg := rfl); (· (intro w' hw'; obtain ⟨hc, hf⟩ := bcell hw'; go_simp; first | rfl)); simp only [Act.put, List.setIfInBounds_toArray, List.set_cons_zero, List.set_cons_succ])
                (apply quiet_at (hg := rfl); (· (intro w' hw'; obtain ⟨hc, hf⟩ := bcell hw'; go_simp; first | (go_at_call 15; refine (Kb.out _ hw').mono ?_; rintro e w9 ⟨rfl, hb9⟩; exact ⟨rfl, bel_trans hw' hb9⟩) | rfl)); simp only [Act.put, List.setIfInBounds_toArray, List.set_cons_zero, List.set_cons_succ])
                (apply quiet_at (hg := rfl); (· (intro w' hw'; obtain ⟨hc, hf⟩ := bcell hw'; go_simp; first | rfl)); simp only [Act.put, List.setIfInBounds_toArray, List.set_cons_zero, List.set_cons_succ])
                (apply quiet_at (hg := rfl); (· (intro w' hw'; obtain ⟨hc, hf⟩ := bcell hw'; go_simp; first | rfl)); simp only [Act.put, List.setIfInBounds_toArray, List.set_cons_zero, List.set_cons_succ])
                go_big_quiet_skip
                go_big_quiet_skip
                go_big_quiet_skip
                go_big_quiet_skip
                go_big_quiet_skip
                go_big_quiet_skip
                go_big_quiet_skip
                go_big_quiet_skip
                go_big_quiet_skip
                go_big_quiet_skip
                go_big_quiet_skip
                go_big_quiet_skip
                go_big_quiet_skip
                (apply quiet_at (hg := rfl); (· (intro w' hw'; obtain ⟨hc, hf⟩ := bcell hw'; go_simp; first | rfl)); simp only [Act.put, List.setIfInBounds_toArray, List.set_cons_zero, List.set_cons_succ])
                (apply quiet_at (hg := rfl); (· (intro w' hw'; obtain ⟨hc, hf⟩ := bcell hw'; go_simp; first | rfl)); simp only [Act.put, List.setIfInBounds_toArray, List.set_cons_zero, List.set_cons_succ])
                (apply quiet_at (hg := rfl); (· (intro w' hw'; obtain ⟨hc, hf⟩ := bcell hw'; go_simp; first | rfl)); simp only [Act.put, List.setIfInBounds_toArray, List.set_cons_zero, List.set_cons_succ])
                (apply quiet_at (hg := rfl); (· (intro w' hw'; obtain ⟨hc, hf⟩ := bcell hw'; go_simp; first | rfl)); simp only [Act.put, List.setIfInBounds_toArray, List.set_cons_zero, List.set_cons_succ])
                (apply quiet_at (hg := rfl); (· (intro w' hw'; obtain ⟨hc, hf⟩ := bcell hw'; go_simp; first | (go_at_call 15; refine (Kd.out _ hw').mono ?_; rintro e w9 ⟨rfl, hb9⟩; exact ⟨rfl, bel_trans hw' hb9⟩) | rfl)); simp only [Act.put, List.setIfInBounds_toArray, List.set_cons_zero, List.set_cons_succ])
                (apply quiet_at (hg := rfl); (· (intro w' hw'; obtain ⟨hc, hf⟩ := bcell hw'; go_simp; first | rfl)); simp only [Act.put, List.setIfInBounds_toArray, List.set_cons_zero, List.set_cons_succ])
                (apply quiet_at (hg := rfl); (· (intro w' hw'; obtain ⟨hc, hf⟩ := bcell hw'; go_simp; first | rfl)); simp only [Act.put, List.setIfInBounds_toArray, List.set_cons_zero, List.set_cons_succ])
                (apply quiet_at (hg := rfl); (· (intro w' hw'; obtain ⟨hc, hf⟩ := bcell hw'; go_simp; first | rfl)); simp only [Act.put, List.setIfInBounds_toArray, List.set_cons_zero, List.set_cons_succ])
                (apply quiet_at (hg := rfl); (· (intro w' hw'; obtain ⟨hc, hf⟩ := bcell hw'; go_simp; first | rfl)); simp only [Act.put, List.setIfInBounds_toArray, List.set_cons_zero, List.set_cons_succ])
                (apply quiet_at (hg := rfl); (· (intro w' hw'; obtain ⟨hc, hf⟩ := bcell hw'; go_simp; first | (go_at_call 13; refine (Bd.out _ hw').mono ?_; rintro e w9 ⟨rfl, hb9⟩; exact ⟨rfl, bel_trans hw' hb9⟩) | rfl)); simp only [Act.put, List.setIfInBounds_toArray, List.set_cons_zero, List.set_cons_succ])
                (apply quiet_at (hg := rfl); (· (intro w' hw'; obtain ⟨hc, hf⟩ := bcell hw'; go_simp; first | rfl)); simp only [Act.put, List.setIfInBounds_toArray, List.set_cons_zero, List.set_cons_succ])
                (apply quiet_at (hg := rfl); (· (intro w' hw'; obtain ⟨hc, hf⟩ := bcell hw'; go_simp; first | rfl)); simp only [Act.put, List.setIfInBounds_toArray, List.set_cons_zero, List.set_cons_succ])
                (apply quiet_at (hg := rfl); (· (intro w' hw'; obtain ⟨hc, hf⟩ := bcell hw'; go_simp; first | rfl)); simp only [Act.put, List.setIfInBounds_toArray, List.set_cons_zero, List.set_cons_succ])
                (apply quiet_at (hg := rfl); (· (intro w' hw'; obtain ⟨hc, hf⟩ := bcell hw'; go_simp; first | rfl)); simp only [Act.put, List.setIfInBounds_toArray, List.set_cons_zero, List.set_cons_succ])
                (apply quiet_at (hg := rfl); (· (intro w' hw'; obtain ⟨hc, hf⟩ := bcell hw'; go_simp; first | (go_at_call 19; refine (Pd.out _ hw').mono ?_; rintro e w9 ⟨rfl, hb9⟩; exact ⟨rfl, bel_trans hw' hb9⟩) | rfl)); simp only [Act.put, List.setIfInBounds_toArray, List.set_cons_zero, List.set_cons_succ])
                (apply quiet_at (hg := rfl); (· (intro w' hw'; obtain ⟨hc, hf⟩ := bcell hw'; go_simp; first | rfl)); simp only [Act.put, List.setIfInBounds_toArray, List.set_cons_zero, List.set_cons_succ])
                (apply quiet_at (hg := rfl); (· (intro w' hw'; obtain ⟨hc, hf⟩ := bcell hw'; go_simp; first | (go_at_call 19; refine (Pc.out _ hw').mono ?_; rintro e w9 ⟨rfl, hb9⟩; exact ⟨rfl, bel_trans hw' hb9⟩) | rfl)); simp only [Act.put, List.setIfInBounds_toArray, List.set_cons_zero, List.set_cons_succ])
                (apply quiet_at (hg := rfl); (· (intro w' hw'; obtain ⟨hc, hf⟩ := bcell hw'; go_simp; first | rfl)); simp only [Act.put, List.setIfInBounds_toArray, List.set_cons_zero, List.set_cons_succ])
                (apply quiet_at (hg := rfl); (· (intro w' hw'; obtain ⟨hc, hf⟩ := bcell hw'; go_simp; first | rfl)); simp only [Act.put, List.setIfInBounds_toArray, List.set_cons_zero, List.set_cons_succ])
                (apply quiet_at (hg := rfl); (· (intro w' hw'; obtain ⟨hc, hf⟩ := bcell hw'; go_simp; first | rfl)); simp only [Act.put, List.setIfInBounds_toArray, List.set_cons_zero, List.set_cons_succ])
                (apply quiet_at (hg := rfl); (· (intro w' hw'; obtain ⟨hc, hf⟩ := bcell hw'; go_simp; first | rfl)); simp only [Act.put, List.setIfInBounds_toArray, List.set_cons_zero, List.set_cons_succ])
                (apply quiet_at (hg := rfl); (· (intro w' hw'; obtain ⟨hc, hf⟩ := bcell hw'; go_simp; first | rfl)); simp only [Act.put, List.setIfInBounds_toArray, List.set_cons_zero, List.set_cons_succ])
                (apply quiet_at (hg := rfl); (· (intro w' hw'; obtain ⟨hc, hf⟩ := bcell hw'; go_simp; first | rfl)); simp only [Act.put, List.setIfInBounds_toArray, List.set_cons_zero, List.set_cons_succ])
                refine wpQuiet_nil ?_
                intro w9 hw9
                have hfin := Below.trans hBZ (hw9.mono hBZ.size)
                clear X Ac Bc Dc
                go_wp2
                go_ret
                exact ⟨rfl, hfin⟩
            · have Kb := hide (show ∀ W, Below Z.heap.size Z W → Calls Try.prog 15 #[.agg #[.slice (some ⟨kb, ko, none⟩) lw cw, .slice (some ⟨gg, 0, none⟩) lg gc, .int .i64 c.start, .int .i64 c.calm, .int .i64 c.idle, .int .i64 c.back]] W fun e w'' => e = .returned (.bool true) ∧ Below W.heap.size W w'' from fun W hW => by have := cfgOk_any _ cb W (HCb.out.keep hW); rwa [kb2] at this)
              have sb := (HN.out kb2).2
              have Nb := hide (show ∀ W, Below Z.heap.size Z W → Calls Try.prog 20 #[.agg #[.slice (some ⟨kb, ko, none⟩) lw cw, .slice (some ⟨gg, 0, none⟩) lg gc, .int .i64 c.start, .int .i64 c.calm, .int .i64 c.idle, .int .i64 c.back]] W fun e w'' => e = .returned (.int .i64 (nodesOf c + 1)) ∧ Below W.heap.size W w'' from fun W hW => by have := nodes_any _ cb W (HCb.out.keep hW); rwa [(HN.out kb2).1] at this)
              cases kd : cfgOk cd
              · have Kd := hide (show ∀ W, Below Z.heap.size Z W → Calls Try.prog 15 #[.agg #[.slice (some ⟨kg, 0, none⟩) lw kc, .slice (some ⟨gb, go, none⟩) lg cg, .int .i64 c.start, .int .i64 c.calm, .int .i64 c.idle, .int .i64 c.back]] W fun e w'' => e = .returned (.bool false) ∧ Below W.heap.size W w'' from fun W hW => by have := cfgOk_any _ cd W (HCd.out.keep hW); rwa [kd] at this)
                refine wp_region_below (by kernel_rfl) (by kernel_rfl) ?_
                (apply quiet_at (hg := rfl); (· (intro w' hw'; obtain ⟨hc, hf⟩ := bcell hw'; go_simp; first | rfl)); simp only [Act.put, List.setIfInBounds_toArray, List.set_cons_zero, List.set_cons_succ])
                (apply quiet_at (hg := rfl); (· (intro w' hw'; obtain ⟨hc, hf⟩ := bcell hw'; go_simp; first | (go_at_call 15; refine (Ka.out _ hw').mono ?_; rintro e w9 ⟨rfl, hb9⟩; exact ⟨rfl, bel_trans hw' hb9⟩) | rfl)); simp only [Act.put, List.setIfInBounds_toArray, List.set_cons_zero, List.set_cons_succ])
                (apply quiet_at (hg := rfl); (· (intro w' hw'; obtain ⟨hc, hf⟩ := bcell hw'; go_simp; first | rfl)); simp only [Act.put, List.setIfInBounds_toArray, List.set_cons_zero, List.set_cons_succ])
                (apply quiet_at (hg := rfl); (· (intro w' hw'; obtain ⟨hc, hf⟩ := bcell hw'; go_simp; first | rfl)); simp only [Act.put, List.setIfInBounds_toArray, List.set_cons_zero, List.set_cons_succ])
                go_big_quiet_skip
                go_big_quiet_skip
                go_big_quiet_skip
                go_big_quiet_skip
                go_big_quiet_skip
                (apply quiet_at (hg := rfl); (· (intro w' hw'; obtain ⟨hc, hf⟩ := bcell hw'; go_simp; first | rfl)); simp only [Act.put, List.setIfInBounds_toArray, List.set_cons_zero, List.set_cons_succ])
                (apply quiet_at (hg := rfl); (· (intro w' hw'; obtain ⟨hc, hf⟩ := bcell hw'; go_simp; first | rfl)); simp only [Act.put, List.setIfInBounds_toArray, List.set_cons_zero, List.set_cons_succ])
                (apply quiet_at (hg := rfl); (· (intro w' hw'; obtain ⟨hc, hf⟩ := bcell hw'; go_simp; first | rfl)); simp only [Act.put, List.setIfInBounds_toArray, List.set_cons_zero, List.set_cons_succ])
                (apply quiet_at (hg := rfl); (· (intro w' hw'; obtain ⟨hc, hf⟩ := bcell hw'; go_simp; first | (go_at_call 15; refine (Kb.out _ hw').mono ?_; rintro e w9 ⟨rfl, hb9⟩; exact ⟨rfl, bel_trans hw' hb9⟩) | rfl)); simp only [Act.put, List.setIfInBounds_toArray, List.set_cons_zero, List.set_cons_succ])
                (apply quiet_at (hg := rfl); (· (intro w' hw'; obtain ⟨hc, hf⟩ := bcell hw'; go_simp; first | rfl)); simp only [Act.put, List.setIfInBounds_toArray, List.set_cons_zero, List.set_cons_succ])
                (apply quiet_at (hg := rfl); (· (intro w' hw'; obtain ⟨hc, hf⟩ := bcell hw'; go_simp; first | rfl)); simp only [Act.put, List.setIfInBounds_toArray, List.set_cons_zero, List.set_cons_succ])
                (apply quiet_at (hg := rfl); (· (intro w' hw'; obtain ⟨hc, hf⟩ := bcell hw'; go_simp; first | rfl)); simp only [Act.put, List.setIfInBounds_toArray, List.set_cons_zero, List.set_cons_succ])
                (apply quiet_at (hg := rfl); (· (intro w' hw'; obtain ⟨hc, hf⟩ := bcell hw'; go_simp; first | rfl)); simp only [Act.put, List.setIfInBounds_toArray, List.set_cons_zero, List.set_cons_succ])
                (apply quiet_at (hg := rfl); (· (intro w' hw'; obtain ⟨hc, hf⟩ := bcell hw'; go_simp; first | (go_at_call 13; refine (Bb.out _ hw').mono ?_; rintro e w9 ⟨rfl, hb9⟩; exact ⟨rfl, bel_trans hw' hb9⟩) | rfl)); simp only [Act.put, List.setIfInBounds_toArray, List.set_cons_zero, List.set_cons_succ])
                (apply quiet_at (hg := rfl); (· (intro w' hw'; obtain ⟨hc, hf⟩ := bcell hw'; go_simp; first | rfl)); simp only [Act.put, List.setIfInBounds_toArray, List.set_cons_zero, List.set_cons_succ])
                (apply quiet_at (hg := rfl); (· (intro w' hw'; obtain ⟨hc, hf⟩ := bcell hw'; go_simp; first | rfl)); simp only [Act.put, List.setIfInBounds_toArray, List.set_cons_zero, List.set_cons_succ])
                (apply quiet_at (hg := rfl); (· (intro w' hw'; obtain ⟨hc, hf⟩ := bcell hw'; go_simp; first | rfl)); simp only [Act.put, List.setIfInBounds_toArray, List.set_cons_zero, List.set_cons_succ])
                (apply quiet_at (hg := rfl); (· (intro w' hw'; obtain ⟨hc, hf⟩ := bcell hw'; go_simp; first | rfl)); simp only [Act.put, List.setIfInBounds_toArray, List.set_cons_zero, List.set_cons_succ])
                (apply quiet_at (hg := rfl); (· (intro w' hw'; obtain ⟨hc, hf⟩ := bcell hw'; go_simp; first | (go_at_call 20; refine (Nb.out _ hw').mono ?_; rintro e w9 ⟨rfl, hb9⟩; exact ⟨rfl, bel_trans hw' hb9⟩) | rfl)); simp only [Act.put, List.setIfInBounds_toArray, List.set_cons_zero, List.set_cons_succ])
                (apply quiet_at (hg := rfl); (· (intro w' hw'; obtain ⟨hc, hf⟩ := bcell hw'; go_simp; first | rfl)); simp only [Act.put, List.setIfInBounds_toArray, List.set_cons_zero, List.set_cons_succ])
                (apply quiet_at (hg := rfl); (· (intro w' hw'; obtain ⟨hc, hf⟩ := bcell hw'; go_simp; first | (go_at_call 20; refine (Nc.out _ hw').mono ?_; rintro e w9 ⟨rfl, hb9⟩; exact ⟨rfl, bel_trans hw' hb9⟩) | rfl)); simp only [Act.put, List.setIfInBounds_toArray, List.set_cons_zero, List.set_cons_succ])
                (apply quiet_at (hg := rfl); (· (intro w' hw'; obtain ⟨hc, hf⟩ := bcell hw'; go_simp; first | rfl)); simp only [Act.put, List.setIfInBounds_toArray, List.set_cons_zero, List.set_cons_succ])
                (apply quiet_at (hg := rfl); (· (intro w' hw'; obtain ⟨hc, hf⟩ := bcell hw'; go_simp; first | rfl)); simp only [Act.put, List.setIfInBounds_toArray, List.set_cons_zero, List.set_cons_succ])
                (apply quiet_at (hg := rfl); (· (intro w' hw'; obtain ⟨hc, hf⟩ := bcell hw'; go_simp; first | rfl)); simp only [Act.put, List.setIfInBounds_toArray, List.set_cons_zero, List.set_cons_succ])
                (apply quiet_at (hg := rfl); (· (intro w' hw'; obtain ⟨hc, hf⟩ := bcell hw'; go_simp; first | rfl)); simp only [Act.put, List.setIfInBounds_toArray, List.set_cons_zero, List.set_cons_succ])
                (apply quiet_at (hg := rfl); (· (intro w' hw'; obtain ⟨hc, hf⟩ := bcell hw'; go_simp; first | rfl)); simp only [Act.put, List.setIfInBounds_toArray, List.set_cons_zero, List.set_cons_succ])
                (apply quiet_at (hg := rfl); (· (intro w' hw'; obtain ⟨hc, hf⟩ := bcell hw'; go_simp; first | rfl)); simp only [Act.put, List.setIfInBounds_toArray, List.set_cons_zero, List.set_cons_succ])
                (apply quiet_at (hg := rfl); (· (intro w' hw'; obtain ⟨hc, hf⟩ := bcell hw'; go_simp; first | rfl)); simp only [Act.put, List.setIfInBounds_toArray, List.set_cons_zero, List.set_cons_succ])
                (apply quiet_at (hg := rfl); (· (intro w' hw'; obtain ⟨hc, hf⟩ := bcell hw'; go_simp; first | (go_at_call 15; refine (Kd.out _ hw').mono ?_; rintro e w9 ⟨rfl, hb9⟩; exact ⟨rfl, bel_trans hw' hb9⟩) | rfl)); simp only [Act.put, List.setIfInBounds_toArray, List.set_cons_zero, List.set_cons_succ])
                (apply quiet_at (hg := rfl); (· (intro w' hw'; obtain ⟨hc, hf⟩ := bcell hw'; go_simp; first | rfl)); simp only [Act.put, List.setIfInBounds_toArray, List.set_cons_zero, List.set_cons_succ])
                (apply quiet_at (hg := rfl); (· (intro w' hw'; obtain ⟨hc, hf⟩ := bcell hw'; go_simp; first | rfl)); simp only [Act.put, List.setIfInBounds_toArray, List.set_cons_zero, List.set_cons_succ])
                go_big_quiet_skip
                go_big_quiet_skip
                go_big_quiet_skip
                go_big_quiet_skip
                go_big_quiet_skip
                go_big_quiet_skip
                go_big_quiet_skip
                go_big_quiet_skip
                go_big_quiet_skip
                go_big_quiet_skip
                go_big_quiet_skip
                go_big_quiet_skip
                go_big_quiet_skip
                (apply quiet_at (hg := rfl); (· (intro w' hw'; obtain ⟨hc, hf⟩ := bcell hw'; go_simp; first | rfl)); simp only [Act.put, List.setIfInBounds_toArray, List.set_cons_zero, List.set_cons_succ])
                (apply quiet_at (hg := rfl); (· (intro w' hw'; obtain ⟨hc, hf⟩ := bcell hw'; go_simp; first | rfl)); simp only [Act.put, List.setIfInBounds_toArray, List.set_cons_zero, List.set_cons_succ])
                (apply quiet_at (hg := rfl); (· (intro w' hw'; obtain ⟨hc, hf⟩ := bcell hw'; go_simp; first | rfl)); simp only [Act.put, List.setIfInBounds_toArray, List.set_cons_zero, List.set_cons_succ])
                refine wpQuiet_nil ?_
                intro w9 hw9
                have hfin := Below.trans hBZ (hw9.mono hBZ.size)
                clear X Ac Bc Dc
                go_wp2
                go_ret
                exact ⟨rfl, hfin⟩
              · have Kd := hide (show ∀ W, Below Z.heap.size Z W → Calls Try.prog 15 #[.agg #[.slice (some ⟨kg, 0, none⟩) lw kc, .slice (some ⟨gb, go, none⟩) lg cg, .int .i64 c.start, .int .i64 c.calm, .int .i64 c.idle, .int .i64 c.back]] W fun e w'' => e = .returned (.bool true) ∧ Below W.heap.size W w'' from fun W hW => by have := cfgOk_any _ cd W (HCd.out.keep hW); rwa [kd] at this)
                have sd := (HP.out kd).2
                have Pd := hide (show ∀ W, Below Z.heap.size Z W → Calls Try.prog 19 #[.agg #[.slice (some ⟨kg, 0, none⟩) lw kc, .slice (some ⟨gb, go, none⟩) lg cg, .int .i64 c.start, .int .i64 c.calm, .int .i64 c.idle, .int .i64 c.back]] W fun e w'' => e = .returned (.int .i64 (podsOf c + 1)) ∧ Below W.heap.size W w'' from fun W hW => by have := pods_any _ cd W (HCd.out.keep hW); rwa [(HP.out kd).1] at this)
                refine wp_region_below (by kernel_rfl) (by kernel_rfl) ?_
                (apply quiet_at (hg := rfl); (· (intro w' hw'; obtain ⟨hc, hf⟩ := bcell hw'; go_simp; first | rfl)); simp only [Act.put, List.setIfInBounds_toArray, List.set_cons_zero, List.set_cons_succ])
                (apply quiet_at (hg := rfl); (· (intro w' hw'; obtain ⟨hc, hf⟩ := bcell hw'; go_simp; first | (go_at_call 15; refine (Ka.out _ hw').mono ?_; rintro e w9 ⟨rfl, hb9⟩; exact ⟨rfl, bel_trans hw' hb9⟩) | rfl)); simp only [Act.put, List.setIfInBounds_toArray, List.set_cons_zero, List.set_cons_succ])
                (apply quiet_at (hg := rfl); (· (intro w' hw'; obtain ⟨hc, hf⟩ := bcell hw'; go_simp; first | rfl)); simp only [Act.put, List.setIfInBounds_toArray, List.set_cons_zero, List.set_cons_succ])
                (apply quiet_at (hg := rfl); (· (intro w' hw'; obtain ⟨hc, hf⟩ := bcell hw'; go_simp; first | rfl)); simp only [Act.put, List.setIfInBounds_toArray, List.set_cons_zero, List.set_cons_succ])
                go_big_quiet_skip
                go_big_quiet_skip
                go_big_quiet_skip
                go_big_quiet_skip
                go_big_quiet_skip
                (apply quiet_at (hg := rfl); (· (intro w' hw'; obtain ⟨hc, hf⟩ := bcell hw'; go_simp; first | rfl)); simp only [Act.put, List.setIfInBounds_toArray, List.set_cons_zero, List.set_cons_succ])
                (apply quiet_at (hg := rfl); (· (intro w' hw'; obtain ⟨hc, hf⟩ := bcell hw'; go_simp; first | rfl)); simp only [Act.put, List.setIfInBounds_toArray, List.set_cons_zero, List.set_cons_succ])
                (apply quiet_at (hg := rfl); (· (intro w' hw'; obtain ⟨hc, hf⟩ := bcell hw'; go_simp; first | rfl)); simp only [Act.put, List.setIfInBounds_toArray, List.set_cons_zero, List.set_cons_succ])
                (apply quiet_at (hg := rfl); (· (intro w' hw'; obtain ⟨hc, hf⟩ := bcell hw'; go_simp; first | (go_at_call 15; refine (Kb.out _ hw').mono ?_; rintro e w9 ⟨rfl, hb9⟩; exact ⟨rfl, bel_trans hw' hb9⟩) | rfl)); simp only [Act.put, List.setIfInBounds_toArray, List.set_cons_zero, List.set_cons_succ])
                (apply quiet_at (hg := rfl); (· (intro w' hw'; obtain ⟨hc, hf⟩ := bcell hw'; go_simp; first | rfl)); simp only [Act.put, List.setIfInBounds_toArray, List.set_cons_zero, List.set_cons_succ])
                (apply quiet_at (hg := rfl); (· (intro w' hw'; obtain ⟨hc, hf⟩ := bcell hw'; go_simp; first | rfl)); simp only [Act.put, List.setIfInBounds_toArray, List.set_cons_zero, List.set_cons_succ])
                (apply quiet_at (hg := rfl); (· (intro w' hw'; obtain ⟨hc, hf⟩ := bcell hw'; go_simp; first | rfl)); simp only [Act.put, List.setIfInBounds_toArray, List.set_cons_zero, List.set_cons_succ])
                (apply quiet_at (hg := rfl); (· (intro w' hw'; obtain ⟨hc, hf⟩ := bcell hw'; go_simp; first | rfl)); simp only [Act.put, List.setIfInBounds_toArray, List.set_cons_zero, List.set_cons_succ])
                (apply quiet_at (hg := rfl); (· (intro w' hw'; obtain ⟨hc, hf⟩ := bcell hw'; go_simp; first | (go_at_call 13; refine (Bb.out _ hw').mono ?_; rintro e w9 ⟨rfl, hb9⟩; exact ⟨rfl, bel_trans hw' hb9⟩) | rfl)); simp only [Act.put, List.setIfInBounds_toArray, List.set_cons_zero, List.set_cons_succ])
                (apply quiet_at (hg := rfl); (· (intro w' hw'; obtain ⟨hc, hf⟩ := bcell hw'; go_simp; first | rfl)); simp only [Act.put, List.setIfInBounds_toArray, List.set_cons_zero, List.set_cons_succ])
                (apply quiet_at (hg := rfl); (· (intro w' hw'; obtain ⟨hc, hf⟩ := bcell hw'; go_simp; first | rfl)); simp only [Act.put, List.setIfInBounds_toArray, List.set_cons_zero, List.set_cons_succ])
                (apply quiet_at (hg := rfl); (· (intro w' hw'; obtain ⟨hc, hf⟩ := bcell hw'; go_simp; first | rfl)); simp only [Act.put, List.setIfInBounds_toArray, List.set_cons_zero, List.set_cons_succ])
                (apply quiet_at (hg := rfl); (· (intro w' hw'; obtain ⟨hc, hf⟩ := bcell hw'; go_simp; first | rfl)); simp only [Act.put, List.setIfInBounds_toArray, List.set_cons_zero, List.set_cons_succ])
                (apply quiet_at (hg := rfl); (· (intro w' hw'; obtain ⟨hc, hf⟩ := bcell hw'; go_simp; first | (go_at_call 20; refine (Nb.out _ hw').mono ?_; rintro e w9 ⟨rfl, hb9⟩; exact ⟨rfl, bel_trans hw' hb9⟩) | rfl)); simp only [Act.put, List.setIfInBounds_toArray, List.set_cons_zero, List.set_cons_succ])
                (apply quiet_at (hg := rfl); (· (intro w' hw'; obtain ⟨hc, hf⟩ := bcell hw'; go_simp; first | rfl)); simp only [Act.put, List.setIfInBounds_toArray, List.set_cons_zero, List.set_cons_succ])
                (apply quiet_at (hg := rfl); (· (intro w' hw'; obtain ⟨hc, hf⟩ := bcell hw'; go_simp; first | (go_at_call 20; refine (Nc.out _ hw').mono ?_; rintro e w9 ⟨rfl, hb9⟩; exact ⟨rfl, bel_trans hw' hb9⟩) | rfl)); simp only [Act.put, List.setIfInBounds_toArray, List.set_cons_zero, List.set_cons_succ])
                (apply quiet_at (hg := rfl); (· (intro w' hw'; obtain ⟨hc, hf⟩ := bcell hw'; go_simp; first | rfl)); simp only [Act.put, List.setIfInBounds_toArray, List.set_cons_zero, List.set_cons_succ])
                (apply quiet_at (hg := rfl); (· (intro w' hw'; obtain ⟨hc, hf⟩ := bcell hw'; go_simp; first | rfl)); simp only [Act.put, List.setIfInBounds_toArray, List.set_cons_zero, List.set_cons_succ])
                (apply quiet_at (hg := rfl); (· (intro w' hw'; obtain ⟨hc, hf⟩ := bcell hw'; go_simp; first | rfl)); simp only [Act.put, List.setIfInBounds_toArray, List.set_cons_zero, List.set_cons_succ])
                (apply quiet_at (hg := rfl); (· (intro w' hw'; obtain ⟨hc, hf⟩ := bcell hw'; go_simp; first | rfl)); simp only [Act.put, List.setIfInBounds_toArray, List.set_cons_zero, List.set_cons_succ])
                (apply quiet_at (hg := rfl); (· (intro w' hw'; obtain ⟨hc, hf⟩ := bcell hw'; go_simp; first | rfl)); simp only [Act.put, List.setIfInBounds_toArray, List.set_cons_zero, List.set_cons_succ])
                (apply quiet_at (hg := rfl); (· (intro w' hw'; obtain ⟨hc, hf⟩ := bcell hw'; go_simp; first | rfl)); simp only [Act.put, List.setIfInBounds_toArray, List.set_cons_zero, List.set_cons_succ])
                (apply quiet_at (hg := rfl); (· (intro w' hw'; obtain ⟨hc, hf⟩ := bcell hw'; go_simp; first | rfl)); simp only [Act.put, List.setIfInBounds_toArray, List.set_cons_zero, List.set_cons_succ])
                (apply quiet_at (hg := rfl); (· (intro w' hw'; obtain ⟨hc, hf⟩ := bcell hw'; go_simp; first | (go_at_call 15; refine (Kd.out _ hw').mono ?_; rintro e w9 ⟨rfl, hb9⟩; exact ⟨rfl, bel_trans hw' hb9⟩) | rfl)); simp only [Act.put, List.setIfInBounds_toArray, List.set_cons_zero, List.set_cons_succ])
                (apply quiet_at (hg := rfl); (· (intro w' hw'; obtain ⟨hc, hf⟩ := bcell hw'; go_simp; first | rfl)); simp only [Act.put, List.setIfInBounds_toArray, List.set_cons_zero, List.set_cons_succ])
                (apply quiet_at (hg := rfl); (· (intro w' hw'; obtain ⟨hc, hf⟩ := bcell hw'; go_simp; first | rfl)); simp only [Act.put, List.setIfInBounds_toArray, List.set_cons_zero, List.set_cons_succ])
                (apply quiet_at (hg := rfl); (· (intro w' hw'; obtain ⟨hc, hf⟩ := bcell hw'; go_simp; first | rfl)); simp only [Act.put, List.setIfInBounds_toArray, List.set_cons_zero, List.set_cons_succ])
                (apply quiet_at (hg := rfl); (· (intro w' hw'; obtain ⟨hc, hf⟩ := bcell hw'; go_simp; first | rfl)); simp only [Act.put, List.setIfInBounds_toArray, List.set_cons_zero, List.set_cons_succ])
                (apply quiet_at (hg := rfl); (· (intro w' hw'; obtain ⟨hc, hf⟩ := bcell hw'; go_simp; first | (go_at_call 13; refine (Bd.out _ hw').mono ?_; rintro e w9 ⟨rfl, hb9⟩; exact ⟨rfl, bel_trans hw' hb9⟩) | rfl)); simp only [Act.put, List.setIfInBounds_toArray, List.set_cons_zero, List.set_cons_succ])
                (apply quiet_at (hg := rfl); (· (intro w' hw'; obtain ⟨hc, hf⟩ := bcell hw'; go_simp; first | rfl)); simp only [Act.put, List.setIfInBounds_toArray, List.set_cons_zero, List.set_cons_succ])
                (apply quiet_at (hg := rfl); (· (intro w' hw'; obtain ⟨hc, hf⟩ := bcell hw'; go_simp; first | rfl)); simp only [Act.put, List.setIfInBounds_toArray, List.set_cons_zero, List.set_cons_succ])
                (apply quiet_at (hg := rfl); (· (intro w' hw'; obtain ⟨hc, hf⟩ := bcell hw'; go_simp; first | rfl)); simp only [Act.put, List.setIfInBounds_toArray, List.set_cons_zero, List.set_cons_succ])
                (apply quiet_at (hg := rfl); (· (intro w' hw'; obtain ⟨hc, hf⟩ := bcell hw'; go_simp; first | rfl)); simp only [Act.put, List.setIfInBounds_toArray, List.set_cons_zero, List.set_cons_succ])
                (apply quiet_at (hg := rfl); (· (intro w' hw'; obtain ⟨hc, hf⟩ := bcell hw'; go_simp; first | (go_at_call 19; refine (Pd.out _ hw').mono ?_; rintro e w9 ⟨rfl, hb9⟩; exact ⟨rfl, bel_trans hw' hb9⟩) | rfl)); simp only [Act.put, List.setIfInBounds_toArray, List.set_cons_zero, List.set_cons_succ])
                (apply quiet_at (hg := rfl); (· (intro w' hw'; obtain ⟨hc, hf⟩ := bcell hw'; go_simp; first | rfl)); simp only [Act.put, List.setIfInBounds_toArray, List.set_cons_zero, List.set_cons_succ])
                (apply quiet_at (hg := rfl); (· (intro w' hw'; obtain ⟨hc, hf⟩ := bcell hw'; go_simp; first | (go_at_call 19; refine (Pc.out _ hw').mono ?_; rintro e w9 ⟨rfl, hb9⟩; exact ⟨rfl, bel_trans hw' hb9⟩) | rfl)); simp only [Act.put, List.setIfInBounds_toArray, List.set_cons_zero, List.set_cons_succ])
                (apply quiet_at (hg := rfl); (· (intro w' hw'; obtain ⟨hc, hf⟩ := bcell hw'; go_simp; first | rfl)); simp only [Act.put, List.setIfInBounds_toArray, List.set_cons_zero, List.set_cons_succ])
                (apply quiet_at (hg := rfl); (· (intro w' hw'; obtain ⟨hc, hf⟩ := bcell hw'; go_simp; first | rfl)); simp only [Act.put, List.setIfInBounds_toArray, List.set_cons_zero, List.set_cons_succ])
                (apply quiet_at (hg := rfl); (· (intro w' hw'; obtain ⟨hc, hf⟩ := bcell hw'; go_simp; first | rfl)); simp only [Act.put, List.setIfInBounds_toArray, List.set_cons_zero, List.set_cons_succ])
                (apply quiet_at (hg := rfl); (· (intro w' hw'; obtain ⟨hc, hf⟩ := bcell hw'; go_simp; first | rfl)); simp only [Act.put, List.setIfInBounds_toArray, List.set_cons_zero, List.set_cons_succ])
                (apply quiet_at (hg := rfl); (· (intro w' hw'; obtain ⟨hc, hf⟩ := bcell hw'; go_simp; first | rfl)); simp only [Act.put, List.setIfInBounds_toArray, List.set_cons_zero, List.set_cons_succ])
                (apply quiet_at (hg := rfl); (· (intro w' hw'; obtain ⟨hc, hf⟩ := bcell hw'; go_simp; first | rfl)); simp only [Act.put, List.setIfInBounds_toArray, List.set_cons_zero, List.set_cons_succ])
                refine wpQuiet_nil ?_
                intro w9 hw9
                have hfin := Below.trans hBZ (hw9.mono hBZ.size)
                clear X Ac Bc Dc
                go_wp2
                go_ret
                exact ⟨rfl, hfin⟩
          · have Ka := hide (show ∀ W, Below Z.heap.size Z W → Calls Try.prog 15 #[.agg #[.slice (some ⟨kb, ko, none⟩) lw cw, .slice (some ⟨gb, go, none⟩) lg cg, .int .i64 (c.start + 1), .int .i64 c.calm, .int .i64 c.idle, .int .i64 c.back]] W fun e w'' => e = .returned (.bool true) ∧ Below W.heap.size W w'' from fun W hW => by have := cfgOk_any _ ca W (HCa.out.keep hW); rwa [ka] at this)
            have sa := HS.out ka
            cases kb2 : cfgOk cb
            · have Kb := hide (show ∀ W, Below Z.heap.size Z W → Calls Try.prog 15 #[.agg #[.slice (some ⟨kb, ko, none⟩) lw cw, .slice (some ⟨gg, 0, none⟩) lg gc, .int .i64 c.start, .int .i64 c.calm, .int .i64 c.idle, .int .i64 c.back]] W fun e w'' => e = .returned (.bool false) ∧ Below W.heap.size W w'' from fun W hW => by have := cfgOk_any _ cb W (HCb.out.keep hW); rwa [kb2] at this)
              cases kd : cfgOk cd
              · have Kd := hide (show ∀ W, Below Z.heap.size Z W → Calls Try.prog 15 #[.agg #[.slice (some ⟨kg, 0, none⟩) lw kc, .slice (some ⟨gb, go, none⟩) lg cg, .int .i64 c.start, .int .i64 c.calm, .int .i64 c.idle, .int .i64 c.back]] W fun e w'' => e = .returned (.bool false) ∧ Below W.heap.size W w'' from fun W hW => by have := cfgOk_any _ cd W (HCd.out.keep hW); rwa [kd] at this)
                refine wp_region_below (by kernel_rfl) (by kernel_rfl) ?_
                (apply quiet_at (hg := rfl); (· (intro w' hw'; obtain ⟨hc, hf⟩ := bcell hw'; go_simp; first | rfl)); simp only [Act.put, List.setIfInBounds_toArray, List.set_cons_zero, List.set_cons_succ])
                (apply quiet_at (hg := rfl); (· (intro w' hw'; obtain ⟨hc, hf⟩ := bcell hw'; go_simp; first | (go_at_call 15; refine (Ka.out _ hw').mono ?_; rintro e w9 ⟨rfl, hb9⟩; exact ⟨rfl, bel_trans hw' hb9⟩) | rfl)); simp only [Act.put, List.setIfInBounds_toArray, List.set_cons_zero, List.set_cons_succ])
                (apply quiet_at (hg := rfl); (· (intro w' hw'; obtain ⟨hc, hf⟩ := bcell hw'; go_simp; first | rfl)); simp only [Act.put, List.setIfInBounds_toArray, List.set_cons_zero, List.set_cons_succ])
                (apply quiet_at (hg := rfl); (· (intro w' hw'; obtain ⟨hc, hf⟩ := bcell hw'; go_simp; first | rfl)); simp only [Act.put, List.setIfInBounds_toArray, List.set_cons_zero, List.set_cons_succ])
                (apply quiet_at (hg := rfl); (· (intro w' hw'; obtain ⟨hc, hf⟩ := bcell hw'; go_simp; first | rfl)); simp only [Act.put, List.setIfInBounds_toArray, List.set_cons_zero, List.set_cons_succ])
                (apply quiet_at (hg := rfl); (· (intro w' hw'; obtain ⟨hc, hf⟩ := bcell hw'; go_simp; first | rfl)); simp only [Act.put, List.setIfInBounds_toArray, List.set_cons_zero, List.set_cons_succ])
                (apply quiet_at (hg := rfl); (· (intro w' hw'; obtain ⟨hc, hf⟩ := bcell hw'; go_simp; first | (go_at_call 13; refine (Ba.out _ hw').mono ?_; rintro e w9 ⟨rfl, hb9⟩; exact ⟨rfl, bel_trans hw' hb9⟩) | rfl)); simp only [Act.put, List.setIfInBounds_toArray, List.set_cons_zero, List.set_cons_succ])
                (apply quiet_at (hg := rfl); (· (intro w' hw'; obtain ⟨hc, hf⟩ := bcell hw'; go_simp; first | rfl)); simp only [Act.put, List.setIfInBounds_toArray, List.set_cons_zero, List.set_cons_succ])
                (apply quiet_at (hg := rfl); (· (intro w' hw'; obtain ⟨hc, hf⟩ := bcell hw'; go_simp; first | rfl)); simp only [Act.put, List.setIfInBounds_toArray, List.set_cons_zero, List.set_cons_succ])
                (apply quiet_at (hg := rfl); (· (intro w' hw'; obtain ⟨hc, hf⟩ := bcell hw'; go_simp; first | rfl)); simp only [Act.put, List.setIfInBounds_toArray, List.set_cons_zero, List.set_cons_succ])
                (apply quiet_at (hg := rfl); (· (intro w' hw'; obtain ⟨hc, hf⟩ := bcell hw'; go_simp; first | rfl)); simp only [Act.put, List.setIfInBounds_toArray, List.set_cons_zero, List.set_cons_succ])
                (apply quiet_at (hg := rfl); (· (intro w' hw'; obtain ⟨hc, hf⟩ := bcell hw'; go_simp; first | rfl)); simp only [Act.put, List.setIfInBounds_toArray, List.set_cons_zero, List.set_cons_succ])
                (apply quiet_at (hg := rfl); (· (intro w' hw'; obtain ⟨hc, hf⟩ := bcell hw'; go_simp; first | (go_at_call 15; refine (Kb.out _ hw').mono ?_; rintro e w9 ⟨rfl, hb9⟩; exact ⟨rfl, bel_trans hw' hb9⟩) | rfl)); simp only [Act.put, List.setIfInBounds_toArray, List.set_cons_zero, List.set_cons_succ])
                (apply quiet_at (hg := rfl); (· (intro w' hw'; obtain ⟨hc, hf⟩ := bcell hw'; go_simp; first | rfl)); simp only [Act.put, List.setIfInBounds_toArray, List.set_cons_zero, List.set_cons_succ])
                (apply quiet_at (hg := rfl); (· (intro w' hw'; obtain ⟨hc, hf⟩ := bcell hw'; go_simp; first | rfl)); simp only [Act.put, List.setIfInBounds_toArray, List.set_cons_zero, List.set_cons_succ])
                go_big_quiet_skip
                go_big_quiet_skip
                go_big_quiet_skip
                go_big_quiet_skip
                go_big_quiet_skip
                go_big_quiet_skip
                go_big_quiet_skip
                go_big_quiet_skip
                go_big_quiet_skip
                go_big_quiet_skip
                go_big_quiet_skip
                go_big_quiet_skip
                go_big_quiet_skip
                (apply quiet_at (hg := rfl); (· (intro w' hw'; obtain ⟨hc, hf⟩ := bcell hw'; go_simp; first | rfl)); simp only [Act.put, List.setIfInBounds_toArray, List.set_cons_zero, List.set_cons_succ])
                (apply quiet_at (hg := rfl); (· (intro w' hw'; obtain ⟨hc, hf⟩ := bcell hw'; go_simp; first | rfl)); simp only [Act.put, List.setIfInBounds_toArray, List.set_cons_zero, List.set_cons_succ])
                (apply quiet_at (hg := rfl); (· (intro w' hw'; obtain ⟨hc, hf⟩ := bcell hw'; go_simp; first | rfl)); simp only [Act.put, List.setIfInBounds_toArray, List.set_cons_zero, List.set_cons_succ])
                (apply quiet_at (hg := rfl); (· (intro w' hw'; obtain ⟨hc, hf⟩ := bcell hw'; go_simp; first | rfl)); simp only [Act.put, List.setIfInBounds_toArray, List.set_cons_zero, List.set_cons_succ])
                (apply quiet_at (hg := rfl); (· (intro w' hw'; obtain ⟨hc, hf⟩ := bcell hw'; go_simp; first | (go_at_call 15; refine (Kd.out _ hw').mono ?_; rintro e w9 ⟨rfl, hb9⟩; exact ⟨rfl, bel_trans hw' hb9⟩) | rfl)); simp only [Act.put, List.setIfInBounds_toArray, List.set_cons_zero, List.set_cons_succ])
                (apply quiet_at (hg := rfl); (· (intro w' hw'; obtain ⟨hc, hf⟩ := bcell hw'; go_simp; first | rfl)); simp only [Act.put, List.setIfInBounds_toArray, List.set_cons_zero, List.set_cons_succ])
                (apply quiet_at (hg := rfl); (· (intro w' hw'; obtain ⟨hc, hf⟩ := bcell hw'; go_simp; first | rfl)); simp only [Act.put, List.setIfInBounds_toArray, List.set_cons_zero, List.set_cons_succ])
                go_big_quiet_skip
                go_big_quiet_skip
                go_big_quiet_skip
                go_big_quiet_skip
                go_big_quiet_skip
                go_big_quiet_skip
                go_big_quiet_skip
                go_big_quiet_skip
                go_big_quiet_skip
                go_big_quiet_skip
                go_big_quiet_skip
                go_big_quiet_skip
                go_big_quiet_skip
                (apply quiet_at (hg := rfl); (· (intro w' hw'; obtain ⟨hc, hf⟩ := bcell hw'; go_simp; first | rfl)); simp only [Act.put, List.setIfInBounds_toArray, List.set_cons_zero, List.set_cons_succ])
                (apply quiet_at (hg := rfl); (· (intro w' hw'; obtain ⟨hc, hf⟩ := bcell hw'; go_simp; first | rfl)); simp only [Act.put, List.setIfInBounds_toArray, List.set_cons_zero, List.set_cons_succ])
                (apply quiet_at (hg := rfl); (· (intro w' hw'; obtain ⟨hc, hf⟩ := bcell hw'; go_simp; first | rfl)); simp only [Act.put, List.setIfInBounds_toArray, List.set_cons_zero, List.set_cons_succ])
                refine wpQuiet_nil ?_
                intro w9 hw9
                have hfin := Below.trans hBZ (hw9.mono hBZ.size)
                clear X Ac Bc Dc
                go_wp2
                go_ret
                exact ⟨rfl, hfin⟩
              · have Kd := hide (show ∀ W, Below Z.heap.size Z W → Calls Try.prog 15 #[.agg #[.slice (some ⟨kg, 0, none⟩) lw kc, .slice (some ⟨gb, go, none⟩) lg cg, .int .i64 c.start, .int .i64 c.calm, .int .i64 c.idle, .int .i64 c.back]] W fun e w'' => e = .returned (.bool true) ∧ Below W.heap.size W w'' from fun W hW => by have := cfgOk_any _ cd W (HCd.out.keep hW); rwa [kd] at this)
                have sd := (HP.out kd).2
                have Pd := hide (show ∀ W, Below Z.heap.size Z W → Calls Try.prog 19 #[.agg #[.slice (some ⟨kg, 0, none⟩) lw kc, .slice (some ⟨gb, go, none⟩) lg cg, .int .i64 c.start, .int .i64 c.calm, .int .i64 c.idle, .int .i64 c.back]] W fun e w'' => e = .returned (.int .i64 (podsOf c + 1)) ∧ Below W.heap.size W w'' from fun W hW => by have := pods_any _ cd W (HCd.out.keep hW); rwa [(HP.out kd).1] at this)
                refine wp_region_below (by kernel_rfl) (by kernel_rfl) ?_
                (apply quiet_at (hg := rfl); (· (intro w' hw'; obtain ⟨hc, hf⟩ := bcell hw'; go_simp; first | rfl)); simp only [Act.put, List.setIfInBounds_toArray, List.set_cons_zero, List.set_cons_succ])
                (apply quiet_at (hg := rfl); (· (intro w' hw'; obtain ⟨hc, hf⟩ := bcell hw'; go_simp; first | (go_at_call 15; refine (Ka.out _ hw').mono ?_; rintro e w9 ⟨rfl, hb9⟩; exact ⟨rfl, bel_trans hw' hb9⟩) | rfl)); simp only [Act.put, List.setIfInBounds_toArray, List.set_cons_zero, List.set_cons_succ])
                (apply quiet_at (hg := rfl); (· (intro w' hw'; obtain ⟨hc, hf⟩ := bcell hw'; go_simp; first | rfl)); simp only [Act.put, List.setIfInBounds_toArray, List.set_cons_zero, List.set_cons_succ])
                (apply quiet_at (hg := rfl); (· (intro w' hw'; obtain ⟨hc, hf⟩ := bcell hw'; go_simp; first | rfl)); simp only [Act.put, List.setIfInBounds_toArray, List.set_cons_zero, List.set_cons_succ])
                (apply quiet_at (hg := rfl); (· (intro w' hw'; obtain ⟨hc, hf⟩ := bcell hw'; go_simp; first | rfl)); simp only [Act.put, List.setIfInBounds_toArray, List.set_cons_zero, List.set_cons_succ])
                (apply quiet_at (hg := rfl); (· (intro w' hw'; obtain ⟨hc, hf⟩ := bcell hw'; go_simp; first | rfl)); simp only [Act.put, List.setIfInBounds_toArray, List.set_cons_zero, List.set_cons_succ])
                (apply quiet_at (hg := rfl); (· (intro w' hw'; obtain ⟨hc, hf⟩ := bcell hw'; go_simp; first | (go_at_call 13; refine (Ba.out _ hw').mono ?_; rintro e w9 ⟨rfl, hb9⟩; exact ⟨rfl, bel_trans hw' hb9⟩) | rfl)); simp only [Act.put, List.setIfInBounds_toArray, List.set_cons_zero, List.set_cons_succ])
                (apply quiet_at (hg := rfl); (· (intro w' hw'; obtain ⟨hc, hf⟩ := bcell hw'; go_simp; first | rfl)); simp only [Act.put, List.setIfInBounds_toArray, List.set_cons_zero, List.set_cons_succ])
                (apply quiet_at (hg := rfl); (· (intro w' hw'; obtain ⟨hc, hf⟩ := bcell hw'; go_simp; first | rfl)); simp only [Act.put, List.setIfInBounds_toArray, List.set_cons_zero, List.set_cons_succ])
                (apply quiet_at (hg := rfl); (· (intro w' hw'; obtain ⟨hc, hf⟩ := bcell hw'; go_simp; first | rfl)); simp only [Act.put, List.setIfInBounds_toArray, List.set_cons_zero, List.set_cons_succ])
                (apply quiet_at (hg := rfl); (· (intro w' hw'; obtain ⟨hc, hf⟩ := bcell hw'; go_simp; first | rfl)); simp only [Act.put, List.setIfInBounds_toArray, List.set_cons_zero, List.set_cons_succ])
                (apply quiet_at (hg := rfl); (· (intro w' hw'; obtain ⟨hc, hf⟩ := bcell hw'; go_simp; first | rfl)); simp only [Act.put, List.setIfInBounds_toArray, List.set_cons_zero, List.set_cons_succ])
                (apply quiet_at (hg := rfl); (· (intro w' hw'; obtain ⟨hc, hf⟩ := bcell hw'; go_simp; first | (go_at_call 15; refine (Kb.out _ hw').mono ?_; rintro e w9 ⟨rfl, hb9⟩; exact ⟨rfl, bel_trans hw' hb9⟩) | rfl)); simp only [Act.put, List.setIfInBounds_toArray, List.set_cons_zero, List.set_cons_succ])
                (apply quiet_at (hg := rfl); (· (intro w' hw'; obtain ⟨hc, hf⟩ := bcell hw'; go_simp; first | rfl)); simp only [Act.put, List.setIfInBounds_toArray, List.set_cons_zero, List.set_cons_succ])
                (apply quiet_at (hg := rfl); (· (intro w' hw'; obtain ⟨hc, hf⟩ := bcell hw'; go_simp; first | rfl)); simp only [Act.put, List.setIfInBounds_toArray, List.set_cons_zero, List.set_cons_succ])
                go_big_quiet_skip
                go_big_quiet_skip
                go_big_quiet_skip
                go_big_quiet_skip
                go_big_quiet_skip
                go_big_quiet_skip
                go_big_quiet_skip
                go_big_quiet_skip
                go_big_quiet_skip
                go_big_quiet_skip
                go_big_quiet_skip
                go_big_quiet_skip
                go_big_quiet_skip
                (apply quiet_at (hg := rfl); (· (intro w' hw'; obtain ⟨hc, hf⟩ := bcell hw'; go_simp; first | rfl)); simp only [Act.put, List.setIfInBounds_toArray, List.set_cons_zero, List.set_cons_succ])
                (apply quiet_at (hg := rfl); (· (intro w' hw'; obtain ⟨hc, hf⟩ := bcell hw'; go_simp; first | rfl)); simp only [Act.put, List.setIfInBounds_toArray, List.set_cons_zero, List.set_cons_succ])
                (apply quiet_at (hg := rfl); (· (intro w' hw'; obtain ⟨hc, hf⟩ := bcell hw'; go_simp; first | rfl)); simp only [Act.put, List.setIfInBounds_toArray, List.set_cons_zero, List.set_cons_succ])
                (apply quiet_at (hg := rfl); (· (intro w' hw'; obtain ⟨hc, hf⟩ := bcell hw'; go_simp; first | rfl)); simp only [Act.put, List.setIfInBounds_toArray, List.set_cons_zero, List.set_cons_succ])
                (apply quiet_at (hg := rfl); (· (intro w' hw'; obtain ⟨hc, hf⟩ := bcell hw'; go_simp; first | (go_at_call 15; refine (Kd.out _ hw').mono ?_; rintro e w9 ⟨rfl, hb9⟩; exact ⟨rfl, bel_trans hw' hb9⟩) | rfl)); simp only [Act.put, List.setIfInBounds_toArray, List.set_cons_zero, List.set_cons_succ])
                (apply quiet_at (hg := rfl); (· (intro w' hw'; obtain ⟨hc, hf⟩ := bcell hw'; go_simp; first | rfl)); simp only [Act.put, List.setIfInBounds_toArray, List.set_cons_zero, List.set_cons_succ])
                (apply quiet_at (hg := rfl); (· (intro w' hw'; obtain ⟨hc, hf⟩ := bcell hw'; go_simp; first | rfl)); simp only [Act.put, List.setIfInBounds_toArray, List.set_cons_zero, List.set_cons_succ])
                (apply quiet_at (hg := rfl); (· (intro w' hw'; obtain ⟨hc, hf⟩ := bcell hw'; go_simp; first | rfl)); simp only [Act.put, List.setIfInBounds_toArray, List.set_cons_zero, List.set_cons_succ])
                (apply quiet_at (hg := rfl); (· (intro w' hw'; obtain ⟨hc, hf⟩ := bcell hw'; go_simp; first | rfl)); simp only [Act.put, List.setIfInBounds_toArray, List.set_cons_zero, List.set_cons_succ])
                (apply quiet_at (hg := rfl); (· (intro w' hw'; obtain ⟨hc, hf⟩ := bcell hw'; go_simp; first | (go_at_call 13; refine (Bd.out _ hw').mono ?_; rintro e w9 ⟨rfl, hb9⟩; exact ⟨rfl, bel_trans hw' hb9⟩) | rfl)); simp only [Act.put, List.setIfInBounds_toArray, List.set_cons_zero, List.set_cons_succ])
                (apply quiet_at (hg := rfl); (· (intro w' hw'; obtain ⟨hc, hf⟩ := bcell hw'; go_simp; first | rfl)); simp only [Act.put, List.setIfInBounds_toArray, List.set_cons_zero, List.set_cons_succ])
                (apply quiet_at (hg := rfl); (· (intro w' hw'; obtain ⟨hc, hf⟩ := bcell hw'; go_simp; first | rfl)); simp only [Act.put, List.setIfInBounds_toArray, List.set_cons_zero, List.set_cons_succ])
                (apply quiet_at (hg := rfl); (· (intro w' hw'; obtain ⟨hc, hf⟩ := bcell hw'; go_simp; first | rfl)); simp only [Act.put, List.setIfInBounds_toArray, List.set_cons_zero, List.set_cons_succ])
                (apply quiet_at (hg := rfl); (· (intro w' hw'; obtain ⟨hc, hf⟩ := bcell hw'; go_simp; first | rfl)); simp only [Act.put, List.setIfInBounds_toArray, List.set_cons_zero, List.set_cons_succ])
                (apply quiet_at (hg := rfl); (· (intro w' hw'; obtain ⟨hc, hf⟩ := bcell hw'; go_simp; first | (go_at_call 19; refine (Pd.out _ hw').mono ?_; rintro e w9 ⟨rfl, hb9⟩; exact ⟨rfl, bel_trans hw' hb9⟩) | rfl)); simp only [Act.put, List.setIfInBounds_toArray, List.set_cons_zero, List.set_cons_succ])
                (apply quiet_at (hg := rfl); (· (intro w' hw'; obtain ⟨hc, hf⟩ := bcell hw'; go_simp; first | rfl)); simp only [Act.put, List.setIfInBounds_toArray, List.set_cons_zero, List.set_cons_succ])
                (apply quiet_at (hg := rfl); (· (intro w' hw'; obtain ⟨hc, hf⟩ := bcell hw'; go_simp; first | (go_at_call 19; refine (Pc.out _ hw').mono ?_; rintro e w9 ⟨rfl, hb9⟩; exact ⟨rfl, bel_trans hw' hb9⟩) | rfl)); simp only [Act.put, List.setIfInBounds_toArray, List.set_cons_zero, List.set_cons_succ])
                (apply quiet_at (hg := rfl); (· (intro w' hw'; obtain ⟨hc, hf⟩ := bcell hw'; go_simp; first | rfl)); simp only [Act.put, List.setIfInBounds_toArray, List.set_cons_zero, List.set_cons_succ])
                (apply quiet_at (hg := rfl); (· (intro w' hw'; obtain ⟨hc, hf⟩ := bcell hw'; go_simp; first | rfl)); simp only [Act.put, List.setIfInBounds_toArray, List.set_cons_zero, List.set_cons_succ])
                (apply quiet_at (hg := rfl); (· (intro w' hw'; obtain ⟨hc, hf⟩ := bcell hw'; go_simp; first | rfl)); simp only [Act.put, List.setIfInBounds_toArray, List.set_cons_zero, List.set_cons_succ])
                (apply quiet_at (hg := rfl); (· (intro w' hw'; obtain ⟨hc, hf⟩ := bcell hw'; go_simp; first | rfl)); simp only [Act.put, List.setIfInBounds_toArray, List.set_cons_zero, List.set_cons_succ])
                (apply quiet_at (hg := rfl); (· (intro w' hw'; obtain ⟨hc, hf⟩ := bcell hw'; go_simp; first | rfl)); simp only [Act.put, List.setIfInBounds_toArray, List.set_cons_zero, List.set_cons_succ])
                (apply quiet_at (hg := rfl); (· (intro w' hw'; obtain ⟨hc, hf⟩ := bcell hw'; go_simp; first | rfl)); simp only [Act.put, List.setIfInBounds_toArray, List.set_cons_zero, List.set_cons_succ])
                refine wpQuiet_nil ?_
                intro w9 hw9
                have hfin := Below.trans hBZ (hw9.mono hBZ.size)
                clear X Ac Bc Dc
                go_wp2
                go_ret
                exact ⟨rfl, hfin⟩
            · have Kb := hide (show ∀ W, Below Z.heap.size Z W → Calls Try.prog 15 #[.agg #[.slice (some ⟨kb, ko, none⟩) lw cw, .slice (some ⟨gg, 0, none⟩) lg gc, .int .i64 c.start, .int .i64 c.calm, .int .i64 c.idle, .int .i64 c.back]] W fun e w'' => e = .returned (.bool true) ∧ Below W.heap.size W w'' from fun W hW => by have := cfgOk_any _ cb W (HCb.out.keep hW); rwa [kb2] at this)
              have sb := (HN.out kb2).2
              have Nb := hide (show ∀ W, Below Z.heap.size Z W → Calls Try.prog 20 #[.agg #[.slice (some ⟨kb, ko, none⟩) lw cw, .slice (some ⟨gg, 0, none⟩) lg gc, .int .i64 c.start, .int .i64 c.calm, .int .i64 c.idle, .int .i64 c.back]] W fun e w'' => e = .returned (.int .i64 (nodesOf c + 1)) ∧ Below W.heap.size W w'' from fun W hW => by have := nodes_any _ cb W (HCb.out.keep hW); rwa [(HN.out kb2).1] at this)
              cases kd : cfgOk cd
              · have Kd := hide (show ∀ W, Below Z.heap.size Z W → Calls Try.prog 15 #[.agg #[.slice (some ⟨kg, 0, none⟩) lw kc, .slice (some ⟨gb, go, none⟩) lg cg, .int .i64 c.start, .int .i64 c.calm, .int .i64 c.idle, .int .i64 c.back]] W fun e w'' => e = .returned (.bool false) ∧ Below W.heap.size W w'' from fun W hW => by have := cfgOk_any _ cd W (HCd.out.keep hW); rwa [kd] at this)
                refine wp_region_below (by kernel_rfl) (by kernel_rfl) ?_
                (apply quiet_at (hg := rfl); (· (intro w' hw'; obtain ⟨hc, hf⟩ := bcell hw'; go_simp; first | rfl)); simp only [Act.put, List.setIfInBounds_toArray, List.set_cons_zero, List.set_cons_succ])
                (apply quiet_at (hg := rfl); (· (intro w' hw'; obtain ⟨hc, hf⟩ := bcell hw'; go_simp; first | (go_at_call 15; refine (Ka.out _ hw').mono ?_; rintro e w9 ⟨rfl, hb9⟩; exact ⟨rfl, bel_trans hw' hb9⟩) | rfl)); simp only [Act.put, List.setIfInBounds_toArray, List.set_cons_zero, List.set_cons_succ])
                (apply quiet_at (hg := rfl); (· (intro w' hw'; obtain ⟨hc, hf⟩ := bcell hw'; go_simp; first | rfl)); simp only [Act.put, List.setIfInBounds_toArray, List.set_cons_zero, List.set_cons_succ])
                (apply quiet_at (hg := rfl); (· (intro w' hw'; obtain ⟨hc, hf⟩ := bcell hw'; go_simp; first | rfl)); simp only [Act.put, List.setIfInBounds_toArray, List.set_cons_zero, List.set_cons_succ])
                (apply quiet_at (hg := rfl); (· (intro w' hw'; obtain ⟨hc, hf⟩ := bcell hw'; go_simp; first | rfl)); simp only [Act.put, List.setIfInBounds_toArray, List.set_cons_zero, List.set_cons_succ])
                (apply quiet_at (hg := rfl); (· (intro w' hw'; obtain ⟨hc, hf⟩ := bcell hw'; go_simp; first | rfl)); simp only [Act.put, List.setIfInBounds_toArray, List.set_cons_zero, List.set_cons_succ])
                (apply quiet_at (hg := rfl); (· (intro w' hw'; obtain ⟨hc, hf⟩ := bcell hw'; go_simp; first | (go_at_call 13; refine (Ba.out _ hw').mono ?_; rintro e w9 ⟨rfl, hb9⟩; exact ⟨rfl, bel_trans hw' hb9⟩) | rfl)); simp only [Act.put, List.setIfInBounds_toArray, List.set_cons_zero, List.set_cons_succ])
                (apply quiet_at (hg := rfl); (· (intro w' hw'; obtain ⟨hc, hf⟩ := bcell hw'; go_simp; first | rfl)); simp only [Act.put, List.setIfInBounds_toArray, List.set_cons_zero, List.set_cons_succ])
                (apply quiet_at (hg := rfl); (· (intro w' hw'; obtain ⟨hc, hf⟩ := bcell hw'; go_simp; first | rfl)); simp only [Act.put, List.setIfInBounds_toArray, List.set_cons_zero, List.set_cons_succ])
                (apply quiet_at (hg := rfl); (· (intro w' hw'; obtain ⟨hc, hf⟩ := bcell hw'; go_simp; first | rfl)); simp only [Act.put, List.setIfInBounds_toArray, List.set_cons_zero, List.set_cons_succ])
                (apply quiet_at (hg := rfl); (· (intro w' hw'; obtain ⟨hc, hf⟩ := bcell hw'; go_simp; first | rfl)); simp only [Act.put, List.setIfInBounds_toArray, List.set_cons_zero, List.set_cons_succ])
                (apply quiet_at (hg := rfl); (· (intro w' hw'; obtain ⟨hc, hf⟩ := bcell hw'; go_simp; first | rfl)); simp only [Act.put, List.setIfInBounds_toArray, List.set_cons_zero, List.set_cons_succ])
                (apply quiet_at (hg := rfl); (· (intro w' hw'; obtain ⟨hc, hf⟩ := bcell hw'; go_simp; first | (go_at_call 15; refine (Kb.out _ hw').mono ?_; rintro e w9 ⟨rfl, hb9⟩; exact ⟨rfl, bel_trans hw' hb9⟩) | rfl)); simp only [Act.put, List.setIfInBounds_toArray, List.set_cons_zero, List.set_cons_succ])
                (apply quiet_at (hg := rfl); (· (intro w' hw'; obtain ⟨hc, hf⟩ := bcell hw'; go_simp; first | rfl)); simp only [Act.put, List.setIfInBounds_toArray, List.set_cons_zero, List.set_cons_succ])
                (apply quiet_at (hg := rfl); (· (intro w' hw'; obtain ⟨hc, hf⟩ := bcell hw'; go_simp; first | rfl)); simp only [Act.put, List.setIfInBounds_toArray, List.set_cons_zero, List.set_cons_succ])
                (apply quiet_at (hg := rfl); (· (intro w' hw'; obtain ⟨hc, hf⟩ := bcell hw'; go_simp; first | rfl)); simp only [Act.put, List.setIfInBounds_toArray, List.set_cons_zero, List.set_cons_succ])
                (apply quiet_at (hg := rfl); (· (intro w' hw'; obtain ⟨hc, hf⟩ := bcell hw'; go_simp; first | rfl)); simp only [Act.put, List.setIfInBounds_toArray, List.set_cons_zero, List.set_cons_succ])
                (apply quiet_at (hg := rfl); (· (intro w' hw'; obtain ⟨hc, hf⟩ := bcell hw'; go_simp; first | (go_at_call 13; refine (Bb.out _ hw').mono ?_; rintro e w9 ⟨rfl, hb9⟩; exact ⟨rfl, bel_trans hw' hb9⟩) | rfl)); simp only [Act.put, List.setIfInBounds_toArray, List.set_cons_zero, List.set_cons_succ])
                (apply quiet_at (hg := rfl); (· (intro w' hw'; obtain ⟨hc, hf⟩ := bcell hw'; go_simp; first | rfl)); simp only [Act.put, List.setIfInBounds_toArray, List.set_cons_zero, List.set_cons_succ])
                (apply quiet_at (hg := rfl); (· (intro w' hw'; obtain ⟨hc, hf⟩ := bcell hw'; go_simp; first | rfl)); simp only [Act.put, List.setIfInBounds_toArray, List.set_cons_zero, List.set_cons_succ])
                (apply quiet_at (hg := rfl); (· (intro w' hw'; obtain ⟨hc, hf⟩ := bcell hw'; go_simp; first | rfl)); simp only [Act.put, List.setIfInBounds_toArray, List.set_cons_zero, List.set_cons_succ])
                (apply quiet_at (hg := rfl); (· (intro w' hw'; obtain ⟨hc, hf⟩ := bcell hw'; go_simp; first | rfl)); simp only [Act.put, List.setIfInBounds_toArray, List.set_cons_zero, List.set_cons_succ])
                (apply quiet_at (hg := rfl); (· (intro w' hw'; obtain ⟨hc, hf⟩ := bcell hw'; go_simp; first | (go_at_call 20; refine (Nb.out _ hw').mono ?_; rintro e w9 ⟨rfl, hb9⟩; exact ⟨rfl, bel_trans hw' hb9⟩) | rfl)); simp only [Act.put, List.setIfInBounds_toArray, List.set_cons_zero, List.set_cons_succ])
                (apply quiet_at (hg := rfl); (· (intro w' hw'; obtain ⟨hc, hf⟩ := bcell hw'; go_simp; first | rfl)); simp only [Act.put, List.setIfInBounds_toArray, List.set_cons_zero, List.set_cons_succ])
                (apply quiet_at (hg := rfl); (· (intro w' hw'; obtain ⟨hc, hf⟩ := bcell hw'; go_simp; first | (go_at_call 20; refine (Nc.out _ hw').mono ?_; rintro e w9 ⟨rfl, hb9⟩; exact ⟨rfl, bel_trans hw' hb9⟩) | rfl)); simp only [Act.put, List.setIfInBounds_toArray, List.set_cons_zero, List.set_cons_succ])
                (apply quiet_at (hg := rfl); (· (intro w' hw'; obtain ⟨hc, hf⟩ := bcell hw'; go_simp; first | rfl)); simp only [Act.put, List.setIfInBounds_toArray, List.set_cons_zero, List.set_cons_succ])
                (apply quiet_at (hg := rfl); (· (intro w' hw'; obtain ⟨hc, hf⟩ := bcell hw'; go_simp; first | rfl)); simp only [Act.put, List.setIfInBounds_toArray, List.set_cons_zero, List.set_cons_succ])
                (apply quiet_at (hg := rfl); (· (intro w' hw'; obtain ⟨hc, hf⟩ := bcell hw'; go_simp; first | rfl)); simp only [Act.put, List.setIfInBounds_toArray, List.set_cons_zero, List.set_cons_succ])
                (apply quiet_at (hg := rfl); (· (intro w' hw'; obtain ⟨hc, hf⟩ := bcell hw'; go_simp; first | rfl)); simp only [Act.put, List.setIfInBounds_toArray, List.set_cons_zero, List.set_cons_succ])
                (apply quiet_at (hg := rfl); (· (intro w' hw'; obtain ⟨hc, hf⟩ := bcell hw'; go_simp; first | rfl)); simp only [Act.put, List.setIfInBounds_toArray, List.set_cons_zero, List.set_cons_succ])
                (apply quiet_at (hg := rfl); (· (intro w' hw'; obtain ⟨hc, hf⟩ := bcell hw'; go_simp; first | rfl)); simp only [Act.put, List.setIfInBounds_toArray, List.set_cons_zero, List.set_cons_succ])
                (apply quiet_at (hg := rfl); (· (intro w' hw'; obtain ⟨hc, hf⟩ := bcell hw'; go_simp; first | rfl)); simp only [Act.put, List.setIfInBounds_toArray, List.set_cons_zero, List.set_cons_succ])
                (apply quiet_at (hg := rfl); (· (intro w' hw'; obtain ⟨hc, hf⟩ := bcell hw'; go_simp; first | (go_at_call 15; refine (Kd.out _ hw').mono ?_; rintro e w9 ⟨rfl, hb9⟩; exact ⟨rfl, bel_trans hw' hb9⟩) | rfl)); simp only [Act.put, List.setIfInBounds_toArray, List.set_cons_zero, List.set_cons_succ])
                (apply quiet_at (hg := rfl); (· (intro w' hw'; obtain ⟨hc, hf⟩ := bcell hw'; go_simp; first | rfl)); simp only [Act.put, List.setIfInBounds_toArray, List.set_cons_zero, List.set_cons_succ])
                (apply quiet_at (hg := rfl); (· (intro w' hw'; obtain ⟨hc, hf⟩ := bcell hw'; go_simp; first | rfl)); simp only [Act.put, List.setIfInBounds_toArray, List.set_cons_zero, List.set_cons_succ])
                go_big_quiet_skip
                go_big_quiet_skip
                go_big_quiet_skip
                go_big_quiet_skip
                go_big_quiet_skip
                go_big_quiet_skip
                go_big_quiet_skip
                go_big_quiet_skip
                go_big_quiet_skip
                go_big_quiet_skip
                go_big_quiet_skip
                go_big_quiet_skip
                go_big_quiet_skip
                (apply quiet_at (hg := rfl); (· (intro w' hw'; obtain ⟨hc, hf⟩ := bcell hw'; go_simp; first | rfl)); simp only [Act.put, List.setIfInBounds_toArray, List.set_cons_zero, List.set_cons_succ])
                (apply quiet_at (hg := rfl); (· (intro w' hw'; obtain ⟨hc, hf⟩ := bcell hw'; go_simp; first | rfl)); simp only [Act.put, List.setIfInBounds_toArray, List.set_cons_zero, List.set_cons_succ])
                (apply quiet_at (hg := rfl); (· (intro w' hw'; obtain ⟨hc, hf⟩ := bcell hw'; go_simp; first | rfl)); simp only [Act.put, List.setIfInBounds_toArray, List.set_cons_zero, List.set_cons_succ])
                refine wpQuiet_nil ?_
                intro w9 hw9
                have hfin := Below.trans hBZ (hw9.mono hBZ.size)
                clear X Ac Bc Dc
                go_wp2
                go_ret
                exact ⟨rfl, hfin⟩
              · have Kd := hide (show ∀ W, Below Z.heap.size Z W → Calls Try.prog 15 #[.agg #[.slice (some ⟨kg, 0, none⟩) lw kc, .slice (some ⟨gb, go, none⟩) lg cg, .int .i64 c.start, .int .i64 c.calm, .int .i64 c.idle, .int .i64 c.back]] W fun e w'' => e = .returned (.bool true) ∧ Below W.heap.size W w'' from fun W hW => by have := cfgOk_any _ cd W (HCd.out.keep hW); rwa [kd] at this)
                have sd := (HP.out kd).2
                have Pd := hide (show ∀ W, Below Z.heap.size Z W → Calls Try.prog 19 #[.agg #[.slice (some ⟨kg, 0, none⟩) lw kc, .slice (some ⟨gb, go, none⟩) lg cg, .int .i64 c.start, .int .i64 c.calm, .int .i64 c.idle, .int .i64 c.back]] W fun e w'' => e = .returned (.int .i64 (podsOf c + 1)) ∧ Below W.heap.size W w'' from fun W hW => by have := pods_any _ cd W (HCd.out.keep hW); rwa [(HP.out kd).1] at this)
                refine wp_region_below (by kernel_rfl) (by kernel_rfl) ?_
                (apply quiet_at (hg := rfl); (· (intro w' hw'; obtain ⟨hc, hf⟩ := bcell hw'; go_simp; first | rfl)); simp only [Act.put, List.setIfInBounds_toArray, List.set_cons_zero, List.set_cons_succ])
                (apply quiet_at (hg := rfl); (· (intro w' hw'; obtain ⟨hc, hf⟩ := bcell hw'; go_simp; first | (go_at_call 15; refine (Ka.out _ hw').mono ?_; rintro e w9 ⟨rfl, hb9⟩; exact ⟨rfl, bel_trans hw' hb9⟩) | rfl)); simp only [Act.put, List.setIfInBounds_toArray, List.set_cons_zero, List.set_cons_succ])
                (apply quiet_at (hg := rfl); (· (intro w' hw'; obtain ⟨hc, hf⟩ := bcell hw'; go_simp; first | rfl)); simp only [Act.put, List.setIfInBounds_toArray, List.set_cons_zero, List.set_cons_succ])
                (apply quiet_at (hg := rfl); (· (intro w' hw'; obtain ⟨hc, hf⟩ := bcell hw'; go_simp; first | rfl)); simp only [Act.put, List.setIfInBounds_toArray, List.set_cons_zero, List.set_cons_succ])
                (apply quiet_at (hg := rfl); (· (intro w' hw'; obtain ⟨hc, hf⟩ := bcell hw'; go_simp; first | rfl)); simp only [Act.put, List.setIfInBounds_toArray, List.set_cons_zero, List.set_cons_succ])
                (apply quiet_at (hg := rfl); (· (intro w' hw'; obtain ⟨hc, hf⟩ := bcell hw'; go_simp; first | rfl)); simp only [Act.put, List.setIfInBounds_toArray, List.set_cons_zero, List.set_cons_succ])
                (apply quiet_at (hg := rfl); (· (intro w' hw'; obtain ⟨hc, hf⟩ := bcell hw'; go_simp; first | (go_at_call 13; refine (Ba.out _ hw').mono ?_; rintro e w9 ⟨rfl, hb9⟩; exact ⟨rfl, bel_trans hw' hb9⟩) | rfl)); simp only [Act.put, List.setIfInBounds_toArray, List.set_cons_zero, List.set_cons_succ])
                (apply quiet_at (hg := rfl); (· (intro w' hw'; obtain ⟨hc, hf⟩ := bcell hw'; go_simp; first | rfl)); simp only [Act.put, List.setIfInBounds_toArray, List.set_cons_zero, List.set_cons_succ])
                (apply quiet_at (hg := rfl); (· (intro w' hw'; obtain ⟨hc, hf⟩ := bcell hw'; go_simp; first | rfl)); simp only [Act.put, List.setIfInBounds_toArray, List.set_cons_zero, List.set_cons_succ])
                (apply quiet_at (hg := rfl); (· (intro w' hw'; obtain ⟨hc, hf⟩ := bcell hw'; go_simp; first | rfl)); simp only [Act.put, List.setIfInBounds_toArray, List.set_cons_zero, List.set_cons_succ])
                (apply quiet_at (hg := rfl); (· (intro w' hw'; obtain ⟨hc, hf⟩ := bcell hw'; go_simp; first | rfl)); simp only [Act.put, List.setIfInBounds_toArray, List.set_cons_zero, List.set_cons_succ])
                (apply quiet_at (hg := rfl); (· (intro w' hw'; obtain ⟨hc, hf⟩ := bcell hw'; go_simp; first | rfl)); simp only [Act.put, List.setIfInBounds_toArray, List.set_cons_zero, List.set_cons_succ])
                (apply quiet_at (hg := rfl); (· (intro w' hw'; obtain ⟨hc, hf⟩ := bcell hw'; go_simp; first | (go_at_call 15; refine (Kb.out _ hw').mono ?_; rintro e w9 ⟨rfl, hb9⟩; exact ⟨rfl, bel_trans hw' hb9⟩) | rfl)); simp only [Act.put, List.setIfInBounds_toArray, List.set_cons_zero, List.set_cons_succ])
                (apply quiet_at (hg := rfl); (· (intro w' hw'; obtain ⟨hc, hf⟩ := bcell hw'; go_simp; first | rfl)); simp only [Act.put, List.setIfInBounds_toArray, List.set_cons_zero, List.set_cons_succ])
                (apply quiet_at (hg := rfl); (· (intro w' hw'; obtain ⟨hc, hf⟩ := bcell hw'; go_simp; first | rfl)); simp only [Act.put, List.setIfInBounds_toArray, List.set_cons_zero, List.set_cons_succ])
                (apply quiet_at (hg := rfl); (· (intro w' hw'; obtain ⟨hc, hf⟩ := bcell hw'; go_simp; first | rfl)); simp only [Act.put, List.setIfInBounds_toArray, List.set_cons_zero, List.set_cons_succ])
                (apply quiet_at (hg := rfl); (· (intro w' hw'; obtain ⟨hc, hf⟩ := bcell hw'; go_simp; first | rfl)); simp only [Act.put, List.setIfInBounds_toArray, List.set_cons_zero, List.set_cons_succ])
                (apply quiet_at (hg := rfl); (· (intro w' hw'; obtain ⟨hc, hf⟩ := bcell hw'; go_simp; first | (go_at_call 13; refine (Bb.out _ hw').mono ?_; rintro e w9 ⟨rfl, hb9⟩; exact ⟨rfl, bel_trans hw' hb9⟩) | rfl)); simp only [Act.put, List.setIfInBounds_toArray, List.set_cons_zero, List.set_cons_succ])
                (apply quiet_at (hg := rfl); (· (intro w' hw'; obtain ⟨hc, hf⟩ := bcell hw'; go_simp; first | rfl)); simp only [Act.put, List.setIfInBounds_toArray, List.set_cons_zero, List.set_cons_succ])
                (apply quiet_at (hg := rfl); (· (intro w' hw'; obtain ⟨hc, hf⟩ := bcell hw'; go_simp; first | rfl)); simp only [Act.put, List.setIfInBounds_toArray, List.set_cons_zero, List.set_cons_succ])
                (apply quiet_at (hg := rfl); (· (intro w' hw'; obtain ⟨hc, hf⟩ := bcell hw'; go_simp; first | rfl)); simp only [Act.put, List.setIfInBounds_toArray, List.set_cons_zero, List.set_cons_succ])
                (apply quiet_at (hg := rfl); (· (intro w' hw'; obtain ⟨hc, hf⟩ := bcell hw'; go_simp; first | rfl)); simp only [Act.put, List.setIfInBounds_toArray, List.set_cons_zero, List.set_cons_succ])
                (apply quiet_at (hg := rfl); (· (intro w' hw'; obtain ⟨hc, hf⟩ := bcell hw'; go_simp; first | (go_at_call 20; refine (Nb.out _ hw').mono ?_; rintro e w9 ⟨rfl, hb9⟩; exact ⟨rfl, bel_trans hw' hb9⟩) | rfl)); simp only [Act.put, List.setIfInBounds_toArray, List.set_cons_zero, List.set_cons_succ])
                (apply quiet_at (hg := rfl); (· (intro w' hw'; obtain ⟨hc, hf⟩ := bcell hw'; go_simp; first | rfl)); simp only [Act.put, List.setIfInBounds_toArray, List.set_cons_zero, List.set_cons_succ])
                (apply quiet_at (hg := rfl); (· (intro w' hw'; obtain ⟨hc, hf⟩ := bcell hw'; go_simp; first | (go_at_call 20; refine (Nc.out _ hw').mono ?_; rintro e w9 ⟨rfl, hb9⟩; exact ⟨rfl, bel_trans hw' hb9⟩) | rfl)); simp only [Act.put, List.setIfInBounds_toArray, List.set_cons_zero, List.set_cons_succ])
                (apply quiet_at (hg := rfl); (· (intro w' hw'; obtain ⟨hc, hf⟩ := bcell hw'; go_simp; first | rfl)); simp only [Act.put, List.setIfInBounds_toArray, List.set_cons_zero, List.set_cons_succ])
                (apply quiet_at (hg := rfl); (· (intro w' hw'; obtain ⟨hc, hf⟩ := bcell hw'; go_simp; first | rfl)); simp only [Act.put, List.setIfInBounds_toArray, List.set_cons_zero, List.set_cons_succ])
                (apply quiet_at (hg := rfl); (· (intro w' hw'; obtain ⟨hc, hf⟩ := bcell hw'; go_simp; first | rfl)); simp only [Act.put, List.setIfInBounds_toArray, List.set_cons_zero, List.set_cons_succ])
                (apply quiet_at (hg := rfl); (· (intro w' hw'; obtain ⟨hc, hf⟩ := bcell hw'; go_simp; first | rfl)); simp only [Act.put, List.setIfInBounds_toArray, List.set_cons_zero, List.set_cons_succ])
                (apply quiet_at (hg := rfl); (· (intro w' hw'; obtain ⟨hc, hf⟩ := bcell hw'; go_simp; first | rfl)); simp only [Act.put, List.setIfInBounds_toArray, List.set_cons_zero, List.set_cons_succ])
                (apply quiet_at (hg := rfl); (· (intro w' hw'; obtain ⟨hc, hf⟩ := bcell hw'; go_simp; first | rfl)); simp only [Act.put, List.setIfInBounds_toArray, List.set_cons_zero, List.set_cons_succ])
                (apply quiet_at (hg := rfl); (· (intro w' hw'; obtain ⟨hc, hf⟩ := bcell hw'; go_simp; first | rfl)); simp only [Act.put, List.setIfInBounds_toArray, List.set_cons_zero, List.set_cons_succ])
                (apply quiet_at (hg := rfl); (· (intro w' hw'; obtain ⟨hc, hf⟩ := bcell hw'; go_simp; first | (go_at_call 15; refine (Kd.out _ hw').mono ?_; rintro e w9 ⟨rfl, hb9⟩; exact ⟨rfl, bel_trans hw' hb9⟩) | rfl)); simp only [Act.put, List.setIfInBounds_toArray, List.set_cons_zero, List.set_cons_succ])
                (apply quiet_at (hg := rfl); (· (intro w' hw'; obtain ⟨hc, hf⟩ := bcell hw'; go_simp; first | rfl)); simp only [Act.put, List.setIfInBounds_toArray, List.set_cons_zero, List.set_cons_succ])
                (apply quiet_at (hg := rfl); (· (intro w' hw'; obtain ⟨hc, hf⟩ := bcell hw'; go_simp; first | rfl)); simp only [Act.put, List.setIfInBounds_toArray, List.set_cons_zero, List.set_cons_succ])
                (apply quiet_at (hg := rfl); (· (intro w' hw'; obtain ⟨hc, hf⟩ := bcell hw'; go_simp; first | rfl)); simp only [Act.put, List.setIfInBounds_toArray, List.set_cons_zero, List.set_cons_succ])
                (apply quiet_at (hg := rfl); (· (intro w' hw'; obtain ⟨hc, hf⟩ := bcell hw'; go_simp; first | rfl)); simp only [Act.put, List.setIfInBounds_toArray, List.set_cons_zero, List.set_cons_succ])
                (apply quiet_at (hg := rfl); (· (intro w' hw'; obtain ⟨hc, hf⟩ := bcell hw'; go_simp; first | (go_at_call 13; refine (Bd.out _ hw').mono ?_; rintro e w9 ⟨rfl, hb9⟩; exact ⟨rfl, bel_trans hw' hb9⟩) | rfl)); simp only [Act.put, List.setIfInBounds_toArray, List.set_cons_zero, List.set_cons_succ])
                (apply quiet_at (hg := rfl); (· (intro w' hw'; obtain ⟨hc, hf⟩ := bcell hw'; go_simp; first | rfl)); simp only [Act.put, List.setIfInBounds_toArray, List.set_cons_zero, List.set_cons_succ])
                (apply quiet_at (hg := rfl); (· (intro w' hw'; obtain ⟨hc, hf⟩ := bcell hw'; go_simp; first | rfl)); simp only [Act.put, List.setIfInBounds_toArray, List.set_cons_zero, List.set_cons_succ])
                (apply quiet_at (hg := rfl); (· (intro w' hw'; obtain ⟨hc, hf⟩ := bcell hw'; go_simp; first | rfl)); simp only [Act.put, List.setIfInBounds_toArray, List.set_cons_zero, List.set_cons_succ])
                (apply quiet_at (hg := rfl); (· (intro w' hw'; obtain ⟨hc, hf⟩ := bcell hw'; go_simp; first | rfl)); simp only [Act.put, List.setIfInBounds_toArray, List.set_cons_zero, List.set_cons_succ])
                (apply quiet_at (hg := rfl); (· (intro w' hw'; obtain ⟨hc, hf⟩ := bcell hw'; go_simp; first | (go_at_call 19; refine (Pd.out _ hw').mono ?_; rintro e w9 ⟨rfl, hb9⟩; exact ⟨rfl, bel_trans hw' hb9⟩) | rfl)); simp only [Act.put, List.setIfInBounds_toArray, List.set_cons_zero, List.set_cons_succ])
                (apply quiet_at (hg := rfl); (· (intro w' hw'; obtain ⟨hc, hf⟩ := bcell hw'; go_simp; first | rfl)); simp only [Act.put, List.setIfInBounds_toArray, List.set_cons_zero, List.set_cons_succ])
                (apply quiet_at (hg := rfl); (· (intro w' hw'; obtain ⟨hc, hf⟩ := bcell hw'; go_simp; first | (go_at_call 19; refine (Pc.out _ hw').mono ?_; rintro e w9 ⟨rfl, hb9⟩; exact ⟨rfl, bel_trans hw' hb9⟩) | rfl)); simp only [Act.put, List.setIfInBounds_toArray, List.set_cons_zero, List.set_cons_succ])
                (apply quiet_at (hg := rfl); (· (intro w' hw'; obtain ⟨hc, hf⟩ := bcell hw'; go_simp; first | rfl)); simp only [Act.put, List.setIfInBounds_toArray, List.set_cons_zero, List.set_cons_succ])
                (apply quiet_at (hg := rfl); (· (intro w' hw'; obtain ⟨hc, hf⟩ := bcell hw'; go_simp; first | rfl)); simp only [Act.put, List.setIfInBounds_toArray, List.set_cons_zero, List.set_cons_succ])
                (apply quiet_at (hg := rfl); (· (intro w' hw'; obtain ⟨hc, hf⟩ := bcell hw'; go_simp; first | rfl)); simp only [Act.put, List.setIfInBounds_toArray, List.set_cons_zero, List.set_cons_succ])
                (apply quiet_at (hg := rfl); (· (intro w' hw'; obtain ⟨hc, hf⟩ := bcell hw'; go_simp; first | rfl)); simp only [Act.put, List.setIfInBounds_toArray, List.set_cons_zero, List.set_cons_succ])
                (apply quiet_at (hg := rfl); (· (intro w' hw'; obtain ⟨hc, hf⟩ := bcell hw'; go_simp; first | rfl)); simp only [Act.put, List.setIfInBounds_toArray, List.set_cons_zero, List.set_cons_succ])
                (apply quiet_at (hg := rfl); (· (intro w' hw'; obtain ⟨hc, hf⟩ := bcell hw'; go_simp; first | rfl)); simp only [Act.put, List.setIfInBounds_toArray, List.set_cons_zero, List.set_cons_succ])
                refine wpQuiet_nil ?_
                intro w9 hw9
                have hfin := Below.trans hBZ (hw9.mono hBZ.size)
                clear X Ac Bc Dc
                go_wp2
                go_ret
                exact ⟨rfl, hfin⟩
  · go_enter Try.func5, Try.ntmps5
    have hgt : (1048576 : Int) < (len : Int) := by omega
    go_wp2
    go_ret
    exact ⟨rfl, Below.refl _ _⟩
end Go.Proofs.Ytmcpggbibonolaa
