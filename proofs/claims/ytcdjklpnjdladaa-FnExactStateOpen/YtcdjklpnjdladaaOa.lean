/- The beginning: the program's StateOpen. -/
import Derived.Test.YtcdjklpnjdladaaOw
import Derived.Test.YtcdjklpnjdladaaU
namespace Go.Proofs.Ytcdjklpnjdladaa
open Go.RowKit

def ws0 (k : Wk) : Ws := ⟨k.min, 0, 0⟩
def openS (c : Cf) : St := ⟨[], [], c.works.map ws0, c.groups.map (fun _ => ⟨0, 0, 0⟩), 1, 1⟩
/-- The works of the beginning, of which k are set. -/
def openK (l : List Wk) (k : Nat) : List Ws := (l.take k).map ws0 ++ List.replicate (l.length - k) ⟨0, 0, 0⟩
theorem openK_length (l : List Wk) (k : Nat) (h : k ≤ l.length) : (openK l k).length = l.length := by simp [openK]; omega
theorem openK_next (l : List Wk) (k : Nat) (h : k < l.length) : (openK l k).set k (ws0 l[k]) = openK l (k + 1) := by
  unfold openK
  rw [show l.length - k = (l.length - (k + 1)) + 1 by omega, List.replicate_succ, List.take_succ_eq_append_getElem h]
  rw [List.set_append_right _ _ (by simp; omega)]
  simp only [List.map_append, List.map_cons, List.map_nil, List.append_assoc, List.singleton_append, List.length_map, List.length_take, Nat.min_eq_left (Nat.le_of_lt h), Nat.sub_self, List.set_cons_zero]
theorem openK_at (l : List Wk) (k : Nat) (h : k < l.length) : (openK l k)[k]'(by rw [openK_length l k (by omega)]; exact h) = ⟨0, 0, 0⟩ := by
  unfold openK
  rw [List.getElem_append_right (by simp; omega)]
  simp
theorem openK_full (l : List Wk) : openK l l.length = l.map ws0 := by simp [openK]
theorem openK_none (l : List Wk) : openK l 0 = List.replicate l.length ⟨0, 0, 0⟩ := by simp [openK]

theorem zeros3 (n : Nat) (h : n ≤ 3) : (madeCells (Value.agg #[.int .i64 0, .int .i64 0, .int .i64 0]).cells (n * 3)).toList = flat 3 Ws.cell (List.replicate n ⟨0, 0, 0⟩) := by
  have z0 : (madeCells (Value.agg #[.int .i64 0, .int .i64 0, .int .i64 0]).cells (0 * 3)).toList = flat 3 Ws.cell (List.replicate 0 ⟨0, 0, 0⟩) := by kernel_rfl
  have z1 : (madeCells (Value.agg #[.int .i64 0, .int .i64 0, .int .i64 0]).cells (1 * 3)).toList = flat 3 Ws.cell (List.replicate 1 ⟨0, 0, 0⟩) := by kernel_rfl
  have z2 : (madeCells (Value.agg #[.int .i64 0, .int .i64 0, .int .i64 0]).cells (2 * 3)).toList = flat 3 Ws.cell (List.replicate 2 ⟨0, 0, 0⟩) := by kernel_rfl
  have z3 : (madeCells (Value.agg #[.int .i64 0, .int .i64 0, .int .i64 0]).cells (3 * 3)).toList = flat 3 Ws.cell (List.replicate 3 ⟨0, 0, 0⟩) := by kernel_rfl
  have : n = 0 ∨ n = 1 ∨ n = 2 ∨ n = 3 := by omega
  rcases this with rfl | rfl | rfl | rfl
  · exact z0
  · exact z1
  · exact z2
  · exact z3
theorem zeros3g (n : Nat) (h : n ≤ 3) : (madeCells (Value.agg #[.int .i64 0, .int .i64 0, .int .i64 0]).cells (n * 3)).toList = flat 3 Gs.cell (List.replicate n ⟨0, 0, 0⟩) := by
  have z0 : (madeCells (Value.agg #[.int .i64 0, .int .i64 0, .int .i64 0]).cells (0 * 3)).toList = flat 3 Gs.cell (List.replicate 0 ⟨0, 0, 0⟩) := by kernel_rfl
  have z1 : (madeCells (Value.agg #[.int .i64 0, .int .i64 0, .int .i64 0]).cells (1 * 3)).toList = flat 3 Gs.cell (List.replicate 1 ⟨0, 0, 0⟩) := by kernel_rfl
  have z2 : (madeCells (Value.agg #[.int .i64 0, .int .i64 0, .int .i64 0]).cells (2 * 3)).toList = flat 3 Gs.cell (List.replicate 2 ⟨0, 0, 0⟩) := by kernel_rfl
  have z3 : (madeCells (Value.agg #[.int .i64 0, .int .i64 0, .int .i64 0]).cells (3 * 3)).toList = flat 3 Gs.cell (List.replicate 3 ⟨0, 0, 0⟩) := by kernel_rfl
  have : n = 0 ∨ n = 1 ∨ n = 2 ∨ n = 3 := by omega
  rcases this with rfl | rfl | rfl | rfl
  · exact z0
  · exact z1
  · exact z2
  · exact z3
theorem infoWs : ∃ i, Try.prog.info? 62 = some i ∧ i.zero = some (.agg #[.int .i64 0, .int .i64 0, .int .i64 0]) ∧ i.size = 3 ∧ i.bytes = 24 := by
  have h0 : (Try.prog.info? 62).isSome = true := by kernel_rfl
  have h1 : (Try.prog.info? 62).map (·.zero) = some (some (.agg #[.int .i64 0, .int .i64 0, .int .i64 0])) := by kernel_rfl
  have h2 : (Try.prog.info? 62).map (·.size) = some 3 := by kernel_rfl
  have h3 : (Try.prog.info? 62).map (·.bytes) = some 24 := by kernel_rfl
  obtain ⟨i, hi⟩ := Option.isSome_iff_exists.1 h0
  rw [hi] at h1 h2 h3
  exact ⟨i, hi, by simpa using h1, by simpa using h2, by simpa using h3⟩
theorem infoGs : ∃ i, Try.prog.info? 86 = some i ∧ i.zero = some (.agg #[.int .i64 0, .int .i64 0, .int .i64 0]) ∧ i.size = 3 ∧ i.bytes = 24 := by
  have h0 : (Try.prog.info? 86).isSome = true := by kernel_rfl
  have h1 : (Try.prog.info? 86).map (·.zero) = some (some (.agg #[.int .i64 0, .int .i64 0, .int .i64 0])) := by kernel_rfl
  have h2 : (Try.prog.info? 86).map (·.size) = some 3 := by kernel_rfl
  have h3 : (Try.prog.info? 86).map (·.bytes) = some 24 := by kernel_rfl
  obtain ⟨i, hi⟩ := Option.isSome_iff_exists.1 h0
  rw [hi] at h1 h2 h3
  exact ⟨i, hi, by simpa using h1, by simpa using h2, by simpa using h3⟩

/-- What StateOpen answers: nothing, or the beginning in memory of its own. -/
def Opened (base : Nat) (w : World) (v : Value) (c : Cf) : Prop :=
  if cfgOk c = true then ∃ p q n1 n2 k1 k2, v = .agg #[.slice none 0 0, .slice none 0 0, .slice (some ⟨p, 0, none⟩) n1 k1, .slice (some ⟨q, 0, none⟩) n2 k2, .int .i64 1, .int .i64 1] ∧ p ≠ q ∧ n1 = c.works.length ∧ n2 = c.groups.length ∧ Owns 3 Ws.cell 62 base w (.slice (some ⟨p, 0, none⟩) n1 k1) (openS c).works ∧ Owns 3 Gs.cell 86 base w (.slice (some ⟨q, 0, none⟩) n2 k2) (openS c).groups
  else v = .agg #[.slice none 0 0, .slice none 0 0, .slice none 0 0, .slice none 0 0, .int .i64 0, .int .i64 0]

set_option maxRecDepth 100000 in
set_option maxHeartbeats 2000000 in
theorem open_no (v : Value) (c : Cf) (w : World) (h : CfgAt w v c) (hok : cfgOk c = false) :
    Calls Try.prog 9 #[v] w fun e w' => ∃ v', e = .returned v' ∧ Opened w.heap.size w' v' c ∧ Below w.heap.size w w' := by
  have H := hide h
  obtain ⟨aw, lw, cw, ag, lg, cg, rfl, ⟨h1, h2, h3⟩, ⟨h4, h5, h6⟩⟩ := h
  clear h1 h2 h3 h4 h5 h6
  go_enter Try.func9, Try.ntmps9
  go_wp2_with fail
  refine (cfgOk_any _ c _ (H.out.keep (by go_grown))).mono ?_
  rintro e w1 ⟨rfl, hb⟩
  rw [hok]
  have hX : Blk w1 w.heap.size #[.slice aw lw cw, .slice ag lg cg, .int .i64 c.start, .int .i64 c.calm, .int .i64 c.idle, .int .i64 c.back] 37 := ((Blk.new w _ _).alloc _).below hb (by simp; omega)
  have hY : Blk w1 (w.heap.size + 1) #[.slice none 0 0, .slice none 0 0, .slice none 0 0, .slice none 0 0, .int .i64 0, .int .i64 0] 32 := (by simpa using Blk.new (w.alloc _) _ _ : Blk _ (w.heap.size + 1) #[.slice none 0 0, .slice none 0 0, .slice none 0 0, .slice none 0 0, .int .i64 0, .int .i64 0] 32).below hb (by simp)
  have hB1 : Below w.heap.size w w1 := bel_trans (by go_grown) hb
  clear hb
  have X := hX.cell
  have Y := hY.cell
  have Yf := hY.frozen
  have zy := hY.lt
  dsimp only
  repeat (first | go_values | go_skip | go_guarded | go_step | go_upon)
  trace_state
  refine bodyPost_ret (v := .agg #[.slice none 0 0, .slice none 0 0, .slice none 0 0, .slice none 0 0, .int .i64 0, .int .i64 0]) (by simp [results, Try.results9, go_sem, *]) rfl ⟨_, rfl, by unfold Opened; rw [if_neg (by simp [hok])], ?_⟩
  repeat (refine Below.setCell ?_ (by go_size) _)
  exact hB1

set_option maxRecDepth 100000 in
set_option maxHeartbeats 2000000 in
theorem open_yes (v : Value) (c : Cf) (w : World) (h : CfgAt w v c) (hok : cfgOk c = true) :
    Calls Try.prog 9 #[v] w fun e w' => ∃ v', e = .returned v' ∧ Opened w.heap.size w' v' c ∧ Below w.heap.size w w' := by
  have H := hide h
  have hw3 := (ok_of_works hok).2.2
  have hg3 := (ok_of_groups hok).2.2
  obtain ⟨aw, lw, cw, ag, lg, cg, rfl, ⟨h1, h2, h3⟩, ⟨h4, h5, h6⟩⟩ := h
  have H1 := hide h1
  have H3 := hide h3
  have H4 := hide h4
  rw [h1] at hw3
  rw [h4] at hg3
  clear h1 h2 h3 h4 h5 h6
  go_enter Try.func9, Try.ntmps9
  go_wp2_with fail
  refine (cfgOk_any _ c _ (H.out.keep (by go_grown))).mono ?_
  rintro e w1 ⟨rfl, hb⟩
  rw [hok]
  have HOK := hide hok
  clear hok
  have hX : Blk w1 w.heap.size #[.slice aw lw cw, .slice ag lg cg, .int .i64 c.start, .int .i64 c.calm, .int .i64 c.idle, .int .i64 c.back] 37 := ((Blk.new w _ _).alloc _).below hb (by simp; omega)
  have hY : Blk w1 (w.heap.size + 1) #[.slice none 0 0, .slice none 0 0, .slice none 0 0, .slice none 0 0, .int .i64 0, .int .i64 0] 32 := (by simpa using Blk.new (w.alloc _) _ _ : Blk _ (w.heap.size + 1) #[.slice none 0 0, .slice none 0 0, .slice none 0 0, .slice none 0 0, .int .i64 0, .int .i64 0] 32).below hb (by simp)
  have hB1 : Below w.heap.size w w1 := bel_trans (by go_grown) hb
  have hs1 : w.heap.size + 1 < w1.heap.size := hY.lt
  clear hb
  obtain ⟨inf, i1, i2, i3, i4⟩ := infoWs
  obtain ⟨w2, hrun, hown, hgrow⟩ := run_make_full (P := Try.prog) w1 w1.heap.size 29 62 inf _ 3 Try.underlying29 i1 i2 i3 .i64 .i64 lw (by rw [i4]; omega) (by unfold maxLen; omega) (Nat.le_refl _)
  rw [zeros3 lw hw3, ← H1.out] at hown
  have ho2 : Owns 3 Ws.cell 62 w1.heap.size w2 (.slice (some ⟨w1.heap.size, 0, none⟩) lw lw) (openK c.works 0) := by
    unfold Owns
    rw [openK_none, List.length_replicate, H1.out]
    rw [H1.out] at hown
    exact hown
  have hG := grown_bel hgrow
  have hX2 := hX.below hG hX.lt
  have hY2 := hY.below hG hY.lt
  have hB2 := bel_trans hB1 hG
  have HO2 := hide ho2
  clear i1 i2 i3 i4 hown hgrow hB1 ho2
  have X1 := hX.cell
  have X := hX2.cell
  have zx1 := hX.lt
  have zx := hX2.lt
  go_wp2
  go_loopw [17] (fun i w' => ∃ k : Nat, k ≤ lw ∧ i = .int .i64 k ∧ Hid (Below w.heap.size w w' ∧ Blk w' w.heap.size #[.slice aw lw cw, .slice ag lg cg, .int .i64 c.start, .int .i64 c.calm, .int .i64 c.idle, .int .i64 c.back] 37 ∧ Blk w' (w.heap.size + 1) #[.slice none 0 0, .slice none 0 0, .slice none 0 0, .slice none 0 0, .int .i64 0, .int .i64 0] 32 ∧ Owns 3 Ws.cell 62 w1.heap.size w' (.slice (some ⟨w1.heap.size, 0, none⟩) lw lw) (openK c.works k))) (fun i _ => lw - (intOf i).toNat)
  case atStart => exact ⟨0, Nat.zero_le _, rfl, hB2, hX2, hY2, HO2.out⟩
  case round =>
    obtain ⟨k, hk, rfl, hF⟩ := hrel
    clear X X1 zx zx1 hX hX2 hY hY2 HO2 hG hB2 hrun
    by_cases hlt : k < lw
    · obtain ⟨hFB, hFX, hFY, hFO⟩ := hF.out
      have hkl : k < c.works.length := by rw [H1.out]; exact hlt
      have hol : (openK c.works k).length = c.works.length := openK_length _ _ (by omega)
      obtain ⟨b, o, ha, hbl, c0, c1, c2, c3, c4, c5, c6, c7⟩ := (H3.out.keep hFB).at k hkl
      subst ha
      obtain ⟨d0, f0⟩ := hFO.cellAt (by rw [hol, H1.out]) k (by rw [hol]; exact hkl) 0 (by omega)
      have hzl : w1.heap.size < wr.heap.size := (hFO.lt _ rfl).2
      simp only [Nat.add_zero] at d0 f0
      obtain ⟨y, hy⟩ : ∃ y, wr.cell? ⟨w1.heap.size, k * 3, none⟩ = some y := ⟨_, d0⟩
      clear d0
      have hk0 : (0 : Int) ≤ (k : Int) := by omega
      have hkn : (k : Int) < (lw : Int) := by omega
      have HF := hide (⟨hFB, hFX, hFY, hFO⟩ : _ ∧ _ ∧ _ ∧ _)
      have HOL := hide hol
      clear hFB hFX hFY hFO hF hol
      go_wp2
      go_roundw
      case rel =>
        obtain ⟨hFB, hFX, hFY, hFO⟩ := HF.out
        have hx := (hFO).set (by rw [HOL.out, H1.out]) k (by rw [HOL.out]; exact hkl) 0 (by omega) (ws0 c.works[k]) c.works[k].min (by
          intro j hj
          rw [openK_at _ _ hkl]
          have hj' : j = 0 ∨ j = 1 ∨ j = 2 := by omega
          rcases hj' with rfl | rfl | rfl <;> rfl)
        rw [openK_next _ _ hkl, Nat.add_zero] at hx
        have hsz : w.heap.size ≤ (wr.setCell ⟨w1.heap.size, k * 3, none⟩ (.int .i64 c.works[k].min)).heap.size := by have := hFB.size; simp only [World.size_setCell]; omega
        exact ⟨k + 1, by omega, by go_num, (hFB.setCell (p := ⟨w1.heap.size, k * 3, none⟩) (show w.heap.size ≤ w1.heap.size by omega) _).alloc hsz _, (hFX.far (p := ⟨w1.heap.size, k * 3, none⟩) (show w.heap.size ≠ w1.heap.size by omega) _).alloc _, (hFY.far (p := ⟨w1.heap.size, k * 3, none⟩) (show w.heap.size + 1 ≠ w1.heap.size by omega) _).alloc _, hx.alloc _⟩
      case measure => simp [intOf]; omega
    · have hke : k = lw := by omega
      subst hke
      obtain ⟨hFB, hFX, hFY, hFO⟩ := hF.out
      have hzl : w1.heap.size < wr.heap.size := (hFO.lt _ rfl).2
      have hof : openK c.works k = c.works.map ws0 := by have := openK_full c.works; rw [H1.out] at this; exact this
      rw [hof] at hFO
      clear hof
      obtain ⟨inf, i1, i2, i3, i4⟩ := infoGs
      obtain ⟨w3, hrun, hown, hgrow⟩ := run_make_full (P := Try.prog) wr wr.heap.size 30 86 inf _ 3 Try.underlying30 i1 i2 i3 .i64 .i64 lg (by rw [i4]; omega) (by unfold maxLen; omega) (Nat.le_refl _)
      rw [zeros3g lg hg3] at hown
      have hog : Owns 3 Gs.cell 86 wr.heap.size w3 (.slice (some ⟨wr.heap.size, 0, none⟩) lg lg) (openS c).groups := by
        have : (openS c).groups = List.replicate lg ⟨0, 0, 0⟩ := by unfold openS; rw [← H4.out]; exact List.map_const'
        unfold Owns
        rw [this, List.length_replicate]
        exact hown
      have hG := grown_bel hgrow
      have hX3 := hFX.below hG hFX.lt
      have hY3 := hFY.below hG hFY.lt
      have hB3 := bel_trans hFB hG
      have ho3 := hFO.keep hG
      have HH := hide (⟨hB3, ho3, hog⟩ : _ ∧ _ ∧ _)
      have hz3 := hG.size
      clear i1 i2 i3 i4 hown hgrow hB3 ho3 hog hG hFO hFB
      have X := hFX.cell
      have X3 := hX3.cell
      have Y3 := hY3.cell
      have Y3f := hY3.frozen
      have zx := hFX.lt
      have zx3 := hX3.lt
      have zy3 := hY3.lt
      repeat (first | go_values | go_skip | go_guarded | go_step | go_upon)
      refine bodyPost_ret (v := .agg #[.slice none 0 0, .slice none 0 0, .slice (some ⟨w1.heap.size, 0, none⟩) k k, .slice (some ⟨wr.heap.size, 0, none⟩) lg lg, .int .i64 1, .int .i64 1]) (by simp [results, Try.results9, go_sem, *]) rfl ⟨_, rfl, ?_, ?_⟩
      · unfold Opened
        rw [if_pos HOK.out]
        refine ⟨_, _, _, _, _, _, rfl, by omega, H1.out.symm, H4.out.symm, ?_, ?_⟩
        · exact (HH.out.2.1.mono (show w.heap.size ≤ w1.heap.size by omega)).far6 (b := w.heap.size + 1) (fun j hj => by simp [Value.ownBlock] at hj; omega) _ _ _ _ _ _
        · exact (HH.out.2.2.mono (show w.heap.size ≤ wr.heap.size by omega)).far6 (b := w.heap.size + 1) (fun j hj => by simp [Value.ownBlock] at hj; omega) _ _ _ _ _ _
      · exact bel_set6 (b := w.heap.size + 1) HH.out.1 (by omega) _ _ _ _ _ _

end Go.Proofs.Ytcdjklpnjdladaa
