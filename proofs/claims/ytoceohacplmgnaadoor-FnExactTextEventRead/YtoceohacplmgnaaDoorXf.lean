/- Texts: nothing and false, if reading panics. -/
import Derived.Test.YtoceohacplmgnaaDoorXe
import Derived.Defers
import Derived.Recover
namespace Go.Proofs.YtoceohacplmgnaaDoor
open Go.RowKit

theorem catch_panicking (p : Addr) (b : Bool) (te : TypeId) (pe : Value) (older : List PanicEntry) (w : World) (hc : w.cell? p = some (.bool b)) (hz : w.frozen? p = false) :
    CallsD Tryd.prog 85 #[.pointer (some p)] (.panicking ({ v := .iface te pe, recovered := false } :: older)) w fun e u' w' =>
      e = .returned (.tuple #[]) ∧ u' = .panicking ({ v := .iface te pe, recovered := true } :: older) ∧ w' = w.setCell p (.bool false) := by
  refine callsD_of_wpS Tryd.func85 rfl fun c₀ cs hu => ?_
  apply wpS_region
  simp [wpOpsS, go_sem, recoverD, hu, Tryd.ntmps85, hc, hz, bodyPostS, results, Tryd.results85]
theorem catch_idle (p : Addr) (b : Bool) (w : World) (hc : w.cell? p = some (.bool b)) (hz : w.frozen? p = false) :
    CallsD Tryd.prog 85 #[.pointer (some p)] .returning w fun e u' w' => e = .returned (.tuple #[]) ∧ u' = .returning ∧ w' = w.setCell p (.bool true) := by
  refine callsD_of_wpS Tryd.func85 rfl fun c₀ cs hu => ?_
  apply wpS_region
  simp [wpOpsS, go_sem, recoverD, hu, Tryd.ntmps85, hc, hz, bodyPostS, results, Tryd.results85]
  cases c₀
  simp_all

set_option maxRecDepth 100000 in
set_option maxHeartbeats 2000000 in
theorem readOrNothing_any (t : List UInt8) (te : TypeId) (pe : Value) (w : World) (G : Gl (.iface te pe) w) (ht : t.length ≤ 2000000) :
    Calls Tryd.prog 55 #[str t, .func (.func 56) #[] #[]] w fun e w' => ((∃ (k : Nat) (a n : Int), 1 ≤ k ∧ k ≤ 10 ∧ evAt t k = some [a, n] ∧ e = .returned (.tuple #[.agg #[.int .i64 (k : Int), .int .i64 a, .int .i64 n], .bool true])) ∨ ((∀ k, 1 ≤ k → k ≤ 10 → evAt t k = none) ∧ e = .returned (.tuple #[.agg #[.int .i64 0, .int .i64 0, .int .i64 0], .bool false]))) ∧ Below w.heap.size w w' := by
  have hmf : ∀ (fn : Fn) (first cap : Array Value) (w : World), (Instr.makeFunc fn first cap).run Tryd.prog w = .ok (.func fn first cap) w := fun _ _ _ _ => rfl
  go_enter_defers Tryd.func55, Tryd.ntmps55
  go_wp2_with fail
  refine (readEvent_any t te pe _ (G.keep (by go_grown)) ht).mono ?_
  rintro e w1 ⟨hres, hb1⟩
  have X : Blk w1 w.heap.size #[.int .i64 0, .int .i64 0, .int .i64 0] 55 := ((Blk.new w _ _).alloc _).below hb1 (by simp; omega)
  have Y : Blk w1 (w.heap.size + 1) #[.bool false] 4 := by
    have := (Blk.new (w.alloc (.cells #[.int .i64 0, .int .i64 0, .int .i64 0] 55)) #[.bool false] 4)
    rw [show (w.alloc (.cells #[.int .i64 0, .int .i64 0, .int .i64 0] 55)).heap.size = w.heap.size + 1 by simp] at this
    exact this.below hb1 (by simp)
  have HB : Hid (Below w.heap.size w w1) := Below.trans (by go_grown) (hb1.mono (by simp; omega))
  have x1 := X.cell
  have x2 := X.frozen
  have x3 := X.lt
  have y1 := Y.cell
  have y2 := Y.frozen
  have y3 := Y.lt
  clear hb1 G
  rcases hres with ⟨k, a, n, k1, k2, hev, rfl⟩ | ⟨hno, rfl⟩
  · have HEV := hid hev
    clear hev
    go_wp2
    generalize hV : (((w1.setCell ⟨w.heap.size, 0, none⟩ (.int .i64 (k : Int))).setCell ⟨w.heap.size, 1, none⟩ (.int .i64 a)).setCell ⟨w.heap.size, 2, none⟩ (.int .i64 n)).setCell ⟨w.heap.size + 1, 0, none⟩ (.bool true) = V
    have X2 : Blk V w.heap.size #[.int .i64 (k : Int), .int .i64 a, .int .i64 n] 55 := by rw [← hV]; exact (((X.set 0 _).set 1 _).set 2 _).far (by simp) _
    have Y2 : Blk V (w.heap.size + 1) #[.bool true] 4 := by rw [← hV]; exact (((Y.far (by simp) _).far (by simp) _).far (by simp) _).set 0 _
    have B2 : Below w.heap.size w V := by rw [← hV]; exact (((HB.out.setCell (p := ⟨w.heap.size, 0, none⟩) (Nat.le_refl _) _).setCell (p := ⟨w.heap.size, 1, none⟩) (Nat.le_refl _) _).setCell (p := ⟨w.heap.size, 2, none⟩) (Nat.le_refl _) _).setCell (p := ⟨w.heap.size + 1, 0, none⟩) (by simp) _
    clear hV x1 x2 x3 y1 y2 y3 X Y HB
    refine leaves_cons (f := 85) (args := #[.pointer (some ⟨w.heap.size + 1, 0, none⟩)]) (by simp) (by simp [go_sem]) ?_
    refine (catch_idle ⟨w.heap.size + 1, 0, none⟩ true _ (by rw [Y2.cell]; rfl) (Y2.frozen 0)).mono ?_
    rintro e u' w'' ⟨rfl, rfl, rfl⟩
    generalize hV2 : V.setCell ⟨w.heap.size + 1, 0, none⟩ (.bool true) = V2
    have X3 : Blk V2 w.heap.size #[.int .i64 (k : Int), .int .i64 a, .int .i64 n] 55 := by rw [← hV2]; exact X2.far (by simp) _
    have Y3 : Blk V2 (w.heap.size + 1) #[.bool true] 4 := by rw [← hV2]; exact Y2.set 0 _
    have B3 : Below w.heap.size w V2 := by rw [← hV2]; exact B2.setCell (p := ⟨w.heap.size + 1, 0, none⟩) (by simp) _
    have x0 := X3.cell
    have y0 := Y3.cell
    clear hV2 X2 Y2 B2
    simp [Leaves, settle, results, Tryd.results55, go_sem, x0, y0]
    exact ⟨⟨k, k1, k2, a, n, HEV.out, rfl, rfl, rfl⟩, B3⟩
  · have HNO := hid hno
    clear hno
    go_wp2
    refine leaves_cons (f := 85) (args := #[.pointer (some ⟨w.heap.size + 1, 0, none⟩)]) (by simp) (by simp [go_sem]) ?_
    refine (catch_panicking ⟨w.heap.size + 1, 0, none⟩ false te pe [] _ (by rw [Y.cell]; rfl) (Y.frozen 0)).mono ?_
    rintro e u' w'' ⟨rfl, rfl, rfl⟩
    generalize hV2 : w1.setCell ⟨w.heap.size + 1, 0, none⟩ (.bool false) = V2
    have X3 : Blk V2 w.heap.size #[.int .i64 0, .int .i64 0, .int .i64 0] 55 := by rw [← hV2]; exact X.far (by simp) _
    have Y3 : Blk V2 (w.heap.size + 1) #[.bool false] 4 := by rw [← hV2]; exact Y.set 0 _
    have B3 : Below w.heap.size w V2 := by rw [← hV2]; exact HB.out.setCell (p := ⟨w.heap.size + 1, 0, none⟩) (by simp) _
    have x0 := X3.cell
    have y0 := Y3.cell
    clear hV2 X Y HB
    simp [Leaves, settle, results, Tryd.results55, go_sem, x0, y0]
    exact ⟨HNO.out, B3⟩

set_option maxRecDepth 100000 in
set_option maxHeartbeats 1000000 in
/-- The program's TextEventRead. -/
theorem textEventRead_any (t : List UInt8) (te : TypeId) (pe : Value) (w : World) (G : Gl (.iface te pe) w) (ht : t.length ≤ 2000000) :
    Calls Tryd.prog 22 #[str t] w fun e w' => ((∃ (k : Nat) (a n : Int), 1 ≤ k ∧ k ≤ 10 ∧ evAt t k = some [a, n] ∧ e = .returned (.tuple #[.agg #[.int .i64 (k : Int), .int .i64 a, .int .i64 n], .bool true])) ∨ ((∀ k, 1 ≤ k → k ≤ 10 → evAt t k = none) ∧ e = .returned (.tuple #[.agg #[.int .i64 0, .int .i64 0, .int .i64 0], .bool false]))) ∧ Below w.heap.size w w' := by
  go_enter Tryd.func22, Tryd.ntmps22
  go_wp2_with fail
  refine (readOrNothing_any t te pe _ (G.keep (by go_grown)) ht).mono ?_
  rintro e w1 ⟨hres, hb1⟩
  have X : Blk w1 w.heap.size #[.int .i64 0, .int .i64 0, .int .i64 0] 55 := (Blk.new w _ _).below hb1 (by simp)
  have HB : Hid (Below w.heap.size w w1) := Below.trans (by go_grown) (hb1.mono (by simp))
  have x1 := X.cell
  have x2 := X.frozen
  have x3 := X.lt
  clear hb1 G
  rcases hres with ⟨k, a, n, k1, k2, hev, rfl⟩ | ⟨hno, rfl⟩
  · have HEV := hid hev
    clear hev
    go_wp2
    refine bodyPost_ret (v := .tuple #[.agg #[.int .i64 (k : Int), .int .i64 a, .int .i64 n], .bool true]) (by simp [results, Tryd.results22, go_sem, *]) rfl ⟨.inl ⟨k, a, n, k1, k2, HEV.out, rfl⟩, ?_⟩
    exact ((HB.out.setCell (p := ⟨w.heap.size, 0, none⟩) (Nat.le_refl _) _).setCell (p := ⟨w.heap.size, 1, none⟩) (Nat.le_refl _) _).setCell (p := ⟨w.heap.size, 2, none⟩) (Nat.le_refl _) _
  · have HNO := hid hno
    clear hno
    go_wp2
    refine bodyPost_ret (v := .tuple #[.agg #[.int .i64 0, .int .i64 0, .int .i64 0], .bool false]) (by simp [results, Tryd.results22, go_sem, *]) rfl ⟨.inr ⟨HNO.out, rfl⟩, ?_⟩
    exact ((HB.out.setCell (p := ⟨w.heap.size, 0, none⟩) (Nat.le_refl _) _).setCell (p := ⟨w.heap.size, 1, none⟩) (Nat.le_refl _) _).setCell (p := ⟨w.heap.size, 2, none⟩) (Nat.le_refl _) _
theorem eqEvent_same (k a n : Int) (w : World) :
    Calls Tryd.prog 23 #[.agg #[.int .i64 k, .int .i64 a, .int .i64 n], .agg #[.int .i64 k, .int .i64 a, .int .i64 n]] w fun e w' => e = .returned (.bool true) ∧ Below w.heap.size w w' := by
  go_enter Tryd.func23, Tryd.ntmps23
  go_wp2
  go_ret
  exact ⟨rfl, by go_grown⟩
/-- An event's text is of one kind alone. -/
theorem evAt_one {t : List UInt8} {k k' : Nat} {xs xs' : List Int} (h1 : 1 ≤ k) (h2 : k ≤ 10) (h1' : 1 ≤ k') (h2' : k' ≤ 10) (h : evAt t k = some xs) (h' : evAt t k' = some xs') : k = k' ∧ xs = xs' := by
  have a1 := (evAt_iff h1 h2).1 h
  have a2 := (evAt_iff h1' h2').1 h'
  have hw : ∀ i, i < 11 → ∀ j, j < 11 → wordB i = wordB j → i = j := by decide
  refine ⟨hw k (by omega) k' (by omega) (a1.1.symm.trans a2.1), ?_⟩
  have := a1.2.symm.trans a2.2
  simpa using this
theorem fin_bel {w w2 w3 : World} (h : Below w.heap.size w w2) (o : Obj) (hb : Below (w2.alloc o).heap.size (w2.alloc o) w3) : Below w.heap.size w w3 :=
  h.trans ((show Below w2.heap.size w2 w3 from Below.trans (by go_grown) (hb.mono (by simp))).mono h.size)
set_option maxRecDepth 100000 in
set_option maxHeartbeats 2000000 in
theorem exTextEventRead (t : List UInt8) (te : TypeId) (pe : Value) (w : World) (G : Gl (.iface te pe) w) (ht : t.length ≤ 9223372036854775807) :
    Calls Tryd.prog 6 #[str t] w fun e w' => e = .returned (.bool true) ∧ Below w.heap.size w w' := by
  by_cases hbig : 1048576 < t.length
  · have hb : (1048576 : Int) < (t.length : Int) := by omega
    go_enter Tryd.func6, Tryd.ntmps6
    go_wp2
    go_ret
    exact ⟨rfl, by go_grown⟩
  · have hb : ¬ (1048576 : Int) < (t.length : Int) := by omega
    go_enter Tryd.func6, Tryd.ntmps6
    go_wp2_with fail
    refine (sEventRead_any t w (by omega)).mono ?_
    rintro e w1 ⟨hres, hb1⟩
    have G1 := G.keep hb1
    have HB1 := hid hb1
    clear hb1 G
    rcases hres with ⟨k, a, n, k1, k2, hev, rfl⟩ | ⟨hno, rfl⟩
    · go_wp2_with fail
      refine (textEventRead_any t te pe _ (G1.keep (by go_grown)) (by omega)).mono ?_
      rintro e w2 ⟨hres, hb2⟩
      have X : Blk w2 w1.heap.size #[.int .i64 (k : Int), .int .i64 a, .int .i64 n] 55 := (Blk.new w1 _ _).below hb2 (by simp)
      have HB2 : Hid (Below w.heap.size w w2) := HB1.out.trans (Below.trans (show Below w.heap.size w1 _ from (show Below w1.heap.size w1 _ by go_grown).mono HB1.out.size) (hb2.mono (by have := HB1.out.size; simp; omega)))
      have x1 := X.cell
      have x3 := X.lt
      clear hb2 G1
      rcases hres with ⟨k', a', n', k1', k2', hev', rfl⟩ | ⟨hno, rfl⟩
      · obtain ⟨rfl, e2⟩ := evAt_one k1 k2 k1' k2' hev hev'
        simp at e2
        obtain ⟨rfl, rfl⟩ := e2
        clear hev hev'
        go_wp2_with fail
        refine (eqEvent_same _ _ _ _).mono ?_
        rintro e w3 ⟨rfl, hb3⟩
        go_wp2
        go_ret
        exact ⟨rfl, fin_bel HB2.out _ hb3⟩
      · rw [hno k k1 k2] at hev
        cases hev
    · go_wp2_with fail
      refine (textEventRead_any t te pe _ (G1.keep (by go_grown)) (by omega)).mono ?_
      rintro e w2 ⟨hres, hb2⟩
      have X : Blk w2 w1.heap.size #[.int .i64 0, .int .i64 0, .int .i64 0] 55 := (Blk.new w1 _ _).below hb2 (by simp)
      have HB2 : Hid (Below w.heap.size w w2) := HB1.out.trans (Below.trans (show Below w.heap.size w1 _ from (show Below w1.heap.size w1 _ by go_grown).mono HB1.out.size) (hb2.mono (by have := HB1.out.size; simp; omega)))
      have x1 := X.cell
      have x3 := X.lt
      clear hb2 G1
      rcases hres with ⟨k', a', n', k1', k2', hev', rfl⟩ | ⟨hno2, rfl⟩
      · rw [hno k' k1' k2'] at hev'
        cases hev'
      · clear hno hno2
        go_wp2_with fail
        refine (eqEvent_same 0 0 0 _).mono ?_
        rintro e w3 ⟨rfl, hb3⟩
        go_wp2
        go_ret
        exact ⟨rfl, fin_bel HB2.out _ hb3⟩
end Go.Proofs.YtoceohacplmgnaaDoor
