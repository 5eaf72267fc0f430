/- The beginning: the document's StateOpen. -/
import Derived.Test.YtcdjklpnjdladaaOa
import Derived.Test.YtcdjklpnjdladaaSc
import Derived.Deep.RegionLaw
namespace Go.Proofs.Ytcdjklpnjdladaa
open Go.RowKit

/-- append to a row of one's own, as one step of a region that draws. -/
theorem step_append_own {P : Program} {ops : Array Oper} {o : Oper} {a : Act} {w : World} {K : Act → World → Prop} {Q : Exit → Act → World → Prop} {E : Prop}
    (hg : o.guard = none) (s x : Operand) (t : TypeId) (hop : o.op = Op.call { callee := Callee.builtin Builtin.append, args := #[s, x], argTypes := #[t, t] })
    (base : Nat) (e : TypeId) (i : TypeInfo) (z : Value) (size bytes : Nat) (h1 : P.underlying t = some (.slice e)) (h2 : P.info? e = some i) (h3 : i.zero = some z) (h4 : i.size = size) (h5 : i.bytes = bytes) (h6 : z.cells.size = size) (h7 : 0 < size)
    (v : Value) (n : Nat) (xs : List Value) (hs : a.eval s = v) (hown : w.ownsRow base e size v n xs)
    (ad : Addr) (m c : Nat) (news : List Value) (hx : a.eval x = .slice (some ad) m c) (hn : news.length = m * size) (hc : ∀ j u, news[j]? = some u → w.cell? (ad.add j) = some u) (h1c : ∀ u ∈ news, u.oneCell' = true)
    (b1 : n + m ≤ maxLen) (b2 : (n + m) * bytes ≤ 140737488355328) (hb : base ≤ w.heap.size)
    (hK : ∀ v' w', w'.ownsRow base e size v' (n + m) (xs ++ news) → w.grownBy w' v.ownBlock → K (a.put o.dst v') w') :
    if Region.wanted o (yielded ops a.tmps) = true then Oper.wp P o a w K Q else E := by
  have hw : Region.wanted o (yielded ops a.tmps) = true := by simp [Region.wanted, hg]
  rw [if_pos hw]
  obtain ⟨v', w', hrun, r1, r2, _⟩ := run_append_own (P := P) w base t o.type e i z size bytes h1 h2 h3 h4 h5 h6 h7 v n xs hown ad m c news hn hc h1c b1 b2 hb
  unfold Oper.wp
  simp [execOp, hop, resolve, invoke, builtin, hs, hx, hrun, Result.andThen]
  exact hK v' w' r1 r2
theorem own_form {base size n : Nat} {e : TypeId} {v : Value} {xs : List Value} {w : World} (h : w.ownsRow base e size v n xs) (hn : 0 < n) : ∃ g cap, v = .slice (some ⟨g, 0, none⟩) n cap := by
  rcases h.2 with ⟨_, h0⟩ | ⟨g, cap, _, hv, _⟩
  · omega
  · exact ⟨g, cap, hv⟩
theorem own_ne {base size n k : Nat} {e : TypeId} {v : Value} {xs : List Value} {w : World} (h : w.ownsRow base e size v n xs) (hk : k < base) : some k ≠ v.ownBlock := fun e => by
  have := (h.lt k e.symm).1; omega

theorem ints3 (a b c : Int) : ∀ u ∈ [Value.int .i64 a, .int .i64 b, .int .i64 c], u.oneCell' = true := by
  intro u hu
  simp at hu
  rcases hu with rfl | rfl | rfl <;> rfl
theorem len_small (k : Nat) (h : k ≤ 3) : k + 1 ≤ maxLen := by unfold maxLen; omega
theorem owns_le {w : World} {b : Nat} (o : Obj) (h : b < w.heap.size) : b + 1 ≤ (w.alloc o).drew.heap.size := by
  have : (w.alloc o).drew.heap.size = w.heap.size + 1 := by simp [World.drew]
  omega
theorem below_grown {B : Nat} {w U w' : World} {row : Option Nat} (h : Below B w U) (hg : U.grownBy w' row) (hB : B ≤ U.heap.size) (hr : ∀ k, row = some k → B ≤ k) : Below B w w' := by
  refine h.trans ⟨hg.os, hg.tape, hg.output, hg.size, fun k hk => hg.block k (by omega) ?_⟩
  intro e
  have := hr k e.symm
  omega

/-- One work more is laid behind the others: what is known of the memory. -/
theorem open_step {w wr w' : World} {cA zA : Array Value} {u : Value} {c : Cf} {k lg g gc s1 s2 : Nat} {mn : Int} {o : Obj} (hkl : k < c.works.length) (hmn : c.works[k].min = mn)
    (hF : Below w.heap.size w wr ∧ Blk wr w.heap.size cA 37 ∧ Blk wr (w.heap.size + 1) zA 32 ∧ Blk wr s2 #[.slice none 0 0, .slice none 0 0, u, .slice (some ⟨s1, 0, none⟩) lg lg, .int .i64 1, .int .i64 1] 32 ∧ Owns 3 Gs.cell 86 s1 wr (.slice (some ⟨s1, 0, none⟩) lg lg) (openS c).groups ∧ Owns 3 Ws.cell 62 (s2 + 1) wr u ((c.works.take k).map ws0))
    (hg : (wr.alloc o).drew.grownBy w' u.ownBlock) (hown : w'.ownsRow (s2 + 1) 62 3 (.slice (some ⟨g, 0, none⟩) (k + 1) gc) (k + 1) (flat 3 Ws.cell ((c.works.take k).map ws0) ++ [.int .i64 mn, .int .i64 0, .int .i64 0]))
    (h0 : w.heap.size + 1 < s1) (h1 : s1 < s2) (h2 : w.heap.size < s2) :
    let W := w'.setCell ⟨s2, 2, none⟩ (.slice (some ⟨g, 0, none⟩) (k + 1) gc)
    Below w.heap.size w W ∧ Blk W w.heap.size cA 37 ∧ Blk W (w.heap.size + 1) zA 32 ∧ Blk W s2 #[.slice none 0 0, .slice none 0 0, .slice (some ⟨g, 0, none⟩) (k + 1) gc, .slice (some ⟨s1, 0, none⟩) lg lg, .int .i64 1, .int .i64 1] 32 ∧ Owns 3 Gs.cell 86 s1 W (.slice (some ⟨s1, 0, none⟩) lg lg) (openS c).groups ∧ Owns 3 Ws.cell 62 (s2 + 1) W (.slice (some ⟨g, 0, none⟩) (k + 1) gc) ((c.works.take (k + 1)).map ws0) := by
  obtain ⟨hB, hX, hY, hZ, hG, hO⟩ := hF
  have hlt := hZ.lt
  have hg1 := (hown.lt g rfl).1
  have ne : ∀ b, b < s2 + 1 → some b ≠ u.ownBlock := fun b hb e => by have := (hO.lt b e.symm).1; omega
  have hB1 : Below w.heap.size w (wr.alloc o).drew := (hB.alloc hB.size o).trans (by go_grown)
  have hsz : (wr.alloc o).drew.heap.size = wr.heap.size + 1 := by simp [World.drew]
  have hB2 : Below w.heap.size w w' := below_grown hB1 hg (by rw [hsz]; omega) (fun k hk => by have := (hO.lt k hk).1; omega)
  have hX2 := (Blk.drew (hX.alloc o)).grown hg (ne _ (by omega))
  have hY2 := (Blk.drew (hY.alloc o)).grown hg (ne _ (by omega))
  have hZ2 := (Blk.drew (hZ.alloc o)).grown hg (ne _ (by omega))
  have hG2 : Owns 3 Gs.cell 86 s1 w' (.slice (some ⟨s1, 0, none⟩) lg lg) (openS c).groups := World.ownsRow.kept (w := (wr.alloc o).drew) (World.ownsRow.alloc hG o) hg (.inr (ne s1 (by omega)))
  have hO2 : Owns 3 Ws.cell 62 (s2 + 1) w' (.slice (some ⟨g, 0, none⟩) (k + 1) gc) ((c.works.take (k + 1)).map ws0) := by
    unfold Owns
    rw [List.take_succ_eq_append_getElem hkl, List.map_append, flat_append, List.map_cons, List.map_nil, flat_one]
    have e1 : rowOf 3 Ws.cell (ws0 c.works[k]) = [.int .i64 mn, .int .i64 0, .int .i64 0] := by rw [← hmn]; rfl
    have e2 : (List.map ws0 (List.take k c.works) ++ [ws0 c.works[k]]).length = k + 1 := by simp; omega
    rw [e1, e2]
    exact hown
  refine ⟨hB2.setCell (p := ⟨s2, 2, none⟩) (show w.heap.size ≤ s2 by omega) _, hX2.far (p := ⟨s2, 2, none⟩) (show w.heap.size ≠ s2 by omega) _, hY2.far (p := ⟨s2, 2, none⟩) (show w.heap.size + 1 ≠ s2 by omega) _, hZ2.set 2 _, hG2.far (p := ⟨s2, 2, none⟩) _ (fun j hj => ?_), hO2.far (p := ⟨s2, 2, none⟩) _ (fun j hj => ?_)⟩
  · simp [Value.ownBlock] at hj; show j ≠ s2; omega
  · simp [Value.ownBlock] at hj; show j ≠ s2; omega

set_option maxRecDepth 100000 in
set_option maxHeartbeats 2000000 in
theorem sOpen_no (v : Value) (c : Cf) (w : World) (h : CfgAt w v c) (hok : cfgOk c = false) :
    Calls Try.prog 7 #[v] w fun e w' => ∃ v', e = .returned v' ∧ Opened w.heap.size w' v' c ∧ Below w.heap.size w w' := by
  have H := hide h
  obtain ⟨aw, lw, cw, ag, lg, cg, rfl, ⟨h1, h2, h3⟩, ⟨h4, h5, h6⟩⟩ := h
  clear h1 h2 h3 h4 h5 h6
  go_enter Try.func7, Try.ntmps7
  go_wp2_with fail
  refine (sCfgOk_any _ c _ (H.out.keep (by go_grown))).mono ?_
  rintro e w1 ⟨rfl, hb⟩
  rw [hok]
  have hX : Blk w1 w.heap.size #[.slice aw lw cw, .slice ag lg cg, .int .i64 c.start, .int .i64 c.calm, .int .i64 c.idle, .int .i64 c.back] 37 := ((Blk.new w _ _).alloc _).below hb (by simp; omega)
  have hY : Blk w1 (w.heap.size + 1) #[.slice none 0 0, .slice none 0 0, .slice none 0 0, .slice none 0 0, .int .i64 0, .int .i64 0] 32 := (by simpa using Blk.new (w.alloc _) _ _ : Blk _ (w.heap.size + 1) #[.slice none 0 0, .slice none 0 0, .slice none 0 0, .slice none 0 0, .int .i64 0, .int .i64 0] 32).below hb (by simp)
  have hB1 : Below w.heap.size w w1 := bel_trans (by go_grown) hb
  clear hb
  have X := hX.cell
  have Y := hY.cell
  have Yf := hY.frozen
  have zy := hY.lt
  dsimp only
  repeat (first | go_values | go_skip | go_guarded | go_step | go_upon)
  refine bodyPost_ret (v := .agg #[.slice none 0 0, .slice none 0 0, .slice none 0 0, .slice none 0 0, .int .i64 0, .int .i64 0]) (by simp [results, Try.results7, go_sem, *]) rfl ⟨_, rfl, by unfold Opened; rw [if_neg (by simp [hok])], ?_⟩
  exact bel_set6 (b := w.heap.size + 1) hB1 (by omega) _ _ _ _ _ _

set_option maxRecDepth 100000 in
set_option maxHeartbeats 4000000 in
theorem sOpen_yes (v : Value) (c : Cf) (w : World) (h : CfgAt w v c) (hok : cfgOk c = true) :
    Calls Try.prog 7 #[v] w fun e w' => ∃ v', e = .returned v' ∧ Opened w.heap.size w' v' c ∧ Below w.heap.size w w' := by
  have H := hide h
  have hw3 := (ok_of_works hok).2.2
  have hw1 := (ok_of_works hok).2.1
  have hg3 := (ok_of_groups hok).2.2
  obtain ⟨aw, lw, cw, ag, lg, cg, rfl, ⟨h1, h2, h3⟩, ⟨h4, h5, h6⟩⟩ := h
  have H1 := hide h1
  have H3 := hide h3
  have H4 := hide h4
  rw [h1] at hw3 hw1
  rw [h4] at hg3
  clear h1 h2 h3 h4 h5 h6
  go_enter Try.func7, Try.ntmps7
  go_wp2_with fail
  refine (sCfgOk_any _ c _ (H.out.keep (by go_grown))).mono ?_
  rintro e w1 ⟨rfl, hb⟩
  rw [hok]
  have HOK := hide hok
  clear hok
  have hX : Blk w1 w.heap.size #[.slice aw lw cw, .slice ag lg cg, .int .i64 c.start, .int .i64 c.calm, .int .i64 c.idle, .int .i64 c.back] 37 := ((Blk.new w _ _).alloc _).below hb (by simp; omega)
  have hY : Blk w1 (w.heap.size + 1) #[.slice none 0 0, .slice none 0 0, .slice none 0 0, .slice none 0 0, .int .i64 0, .int .i64 0] 32 := (by simpa using Blk.new (w.alloc _) _ _ : Blk _ (w.heap.size + 1) #[.slice none 0 0, .slice none 0 0, .slice none 0 0, .slice none 0 0, .int .i64 0, .int .i64 0] 32).below hb (by simp)
  have hB1 : Below w.heap.size w w1 := bel_trans (by go_grown) hb
  have hs1 : w.heap.size + 1 < w1.heap.size := hY.lt
  clear hb
  obtain ⟨inf, i1, i2, i3, i4⟩ := infoGs
  obtain ⟨w2, hrun, hown, hgrow⟩ := run_make_full (P := Try.prog) w1 w1.heap.size 30 86 inf _ 3 Try.underlying30 i1 i2 i3 .i64 .i64 lg (by rw [i4]; omega) (by unfold maxLen; omega) (Nat.le_refl _)
  rw [zeros3g lg hg3] at hown
  have hog : Owns 3 Gs.cell 86 w1.heap.size w2 (.slice (some ⟨w1.heap.size, 0, none⟩) lg lg) (openS c).groups := by
    have : (openS c).groups = List.replicate lg ⟨0, 0, 0⟩ := by unfold openS; rw [← H4.out]; exact List.map_const'
    unfold Owns
    rw [this, List.length_replicate]
    exact hown
  have hzl : w1.heap.size < w2.heap.size := (hog.lt _ rfl).2
  have hG := grown_bel hgrow
  have hX2 := hX.below hG hX.lt
  have hY2 := hY.below hG hY.lt
  have hB2 := bel_trans hB1 hG
  have HO2 := hide hog
  clear i1 i2 i3 i4 hown hgrow hB1 hog
  have X1 := hX.cell
  have X := hX2.cell
  have zx1 := hX.lt
  have zx := hX2.lt
  go_wp2
  go_loopw [4] (fun i w' => ∃ k : Nat, k ≤ lw ∧ i = .int .i64 k ∧ ∃ u, Hid (Below w.heap.size w w' ∧ Blk w' w.heap.size #[.slice aw lw cw, .slice ag lg cg, .int .i64 c.start, .int .i64 c.calm, .int .i64 c.idle, .int .i64 c.back] 37 ∧ Blk w' (w.heap.size + 1) #[.slice none 0 0, .slice none 0 0, .slice none 0 0, .slice none 0 0, .int .i64 0, .int .i64 0] 32 ∧ Blk w' w2.heap.size #[.slice none 0 0, .slice none 0 0, u, .slice (some ⟨w1.heap.size, 0, none⟩) lg lg, .int .i64 1, .int .i64 1] 32 ∧ Owns 3 Gs.cell 86 w1.heap.size w' (.slice (some ⟨w1.heap.size, 0, none⟩) lg lg) (openS c).groups ∧ Owns 3 Ws.cell 62 (w2.heap.size + 1) w' u ((c.works.take k).map ws0))) (fun i _ => lw - (intOf i).toNat)
  case atStart => exact ⟨0, Nat.zero_le _, rfl, .slice none 0 0, hB2.alloc hB2.size _, hX2.alloc _, hY2.alloc _, Blk.new _ _ _, HO2.out.alloc _, World.ownsRow_nil _ _ _ _⟩
  case round =>
    obtain ⟨k, hk, rfl, u, hF⟩ := hrel
    clear X X1 zx zx1 hX hX2 hY hY2 HO2 hG hB2 hrun
    by_cases hlt : k < lw
    · obtain ⟨hFB, hFX, hFY, hFZ, hFG, hFO⟩ := hF.out
      have hkl : k < c.works.length := by rw [H1.out]; exact hlt
      obtain ⟨b, o, ha, hbl, c0, c1, c2, c3, c4, c5, c6, c7⟩ := (H3.out.keep hFB).at k hkl
      subst ha
      have X := hFX.cell
      have Z := hFZ.cell
      have Zf := hFZ.frozen
      have zx := hFX.lt
      have zz := hFZ.lt
      have hk0 : (0 : Int) ≤ (k : Int) := by omega
      have hkn : (k : Int) < (lw : Int) := by omega
      have HF := hide (⟨hFB, hFX, hFY, hFZ, hFG, hFO⟩ : _ ∧ _ ∧ _ ∧ _ ∧ _ ∧ _)
      have htk : ((c.works.take k).map ws0).length = k := by simp; omega
      have ho : wr.ownsRow (w2.heap.size + 1) 62 3 u k (flat 3 Ws.cell ((c.works.take k).map ws0)) := by have := hFO; unfold Owns at this; rw [htk] at this; exact this
      have HO := hide ho
      have HTK := hide htk
      clear c0 c1 c3 c4 c5 c6 c7 hFB hFX hFY hFZ hFG hFO ho htk
      obtain ⟨inf, i1, i2, i3, i4⟩ := infoWs
      have I1 := hide i1
      have I2 := hide i2
      have I3 := hide i3
      have I4 := hide i4
      clear i1 i2 i3 i4
      generalize hmn : c.works[k].min = mn at c2
      have HMN := hide hmn
      clear hmn
      go_wp2
      go_region_law (refine step_append_own rfl _ _ 29 rfl (w2.heap.size + 1) 62 inf _ 3 24 Try.underlying29 I1.out I2.out I3.out I4.out rfl (by omega) u k (flat 3 Ws.cell ((c.works.take k).map ws0)) ?a1 ?a2 ⟨wr.heap.size, 0, none⟩ 1 1 [.int .i64 mn, .int .i64 0, .int .i64 0] ?a3 rfl ?a4 ?a5 ?a6 ?a7 ?a8 ?_; (case a1 => rfl); (case a2 => exact HO.out.alloc _); (case a3 => rfl); (case a4 => exact news_new wr _ _); (case a5 => exact ints3 _ _ _); (case a6 => exact len_small _ (by omega)); (case a7 => omega); (case a8 => exact owns_le _ zz); intro v' w' hown' hgrow'; obtain ⟨g, gc, rfl⟩ := own_form hown' (by omega); have hZ' := (Blk.drew (HF.out.2.2.2.1.alloc _)).grown hgrow' (own_ne HO.out (by omega)); have zc := hZ'.cell; have zf := hZ'.frozen; have zz' := hZ'.lt)
      all_goals (
        have hfin := open_step hkl HMN.out HF.out hgrow' hown' (by omega) (by omega) (by omega)
        have HFIN := hide hfin
        clear hfin hgrow' hown' hZ' zc zf zz' X Z Zf zx zz
        go_wp2
        go_roundw
        case rel => exact ⟨k + 1, by omega, by go_num, _, HFIN.out⟩
        case measure => simp [intOf]; omega)
    · have hke : k = lw := by omega
      subst hke
      obtain ⟨hFB, hFX, hFY, hFZ, hFG, hFO⟩ := hF.out
      have hof : (c.works.take k).map ws0 = c.works.map ws0 := by rw [← H1.out, List.take_length]
      rw [hof] at hFO
      obtain ⟨g, gc, rfl⟩ : ∃ g gc, u = .slice (some ⟨g, 0, none⟩) k gc := by
        have h0 := hFO
        unfold Owns at h0
        rw [List.length_map, H1.out] at h0
        exact own_form h0 (by omega)
      have hg1 := hFO.lt g rfl
      have HH := hide (⟨hFB, hFG, hFO⟩ : _ ∧ _ ∧ _)
      have X := hFX.cell
      have Y := hFY.cell
      have Yf := hFY.frozen
      have Z := hFZ.cell
      have zx := hFX.lt
      have zy := hFY.lt
      have zz := hFZ.lt
      clear hFB hFG hFO hof
      repeat (first | go_values | go_skip | go_guarded | go_step | go_upon)
      refine bodyPost_ret (v := .agg #[.slice none 0 0, .slice none 0 0, .slice (some ⟨g, 0, none⟩) k gc, .slice (some ⟨w1.heap.size, 0, none⟩) lg lg, .int .i64 1, .int .i64 1]) (by simp [results, Try.results7, go_sem, *]) rfl ⟨_, rfl, ?_, ?_⟩
      · unfold Opened
        rw [if_pos HOK.out]
        refine ⟨_, _, _, _, _, _, rfl, by omega, H1.out.symm, H4.out.symm, ?_, ?_⟩
        · exact (HH.out.2.2.mono (show w.heap.size ≤ w2.heap.size + 1 by omega)).far6 (b := w.heap.size + 1) (fun j hj => by simp [Value.ownBlock] at hj; omega) _ _ _ _ _ _
        · exact (HH.out.2.1.mono (show w.heap.size ≤ w1.heap.size by omega)).far6 (b := w.heap.size + 1) (fun j hj => by simp [Value.ownBlock] at hj; omega) _ _ _ _ _ _
      · exact bel_set6 (b := w.heap.size + 1) HH.out.1 (by omega) _ _ _ _ _ _

end Go.Proofs.Ytcdjklpnjdladaa
