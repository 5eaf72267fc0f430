/- Texts: what is asked, as the program reads it; the law walks through. -/
import Derived.Test.YtoceohacplmgnaaGreatDoorYa
import Derived.Test.YtoceohacplmgnaaGreatDoorT
import Derived.Defers
import Derived.Recover
import Derived.Test.YtoceohacplmgnaaGreatDoorLb
namespace Go.Proofs.YtoceohacplmgnaaGreatDoor
open Go.RowKit

set_option maxRecDepth 100000 in
set_option maxHeartbeats 4000000 in
theorem readCfg_any (t : List UInt8) (te : TypeId) (pe : Value) (w : World) (G : Gl (.iface te pe) w) (ht : t.length ≤ 2000000) :
    Calls Tryz.prog 21 #[str t] w fun e w' => ((∃ c vw vg, progR t = some c ∧ OC w' w.heap.size vw vg c ∧ e = .returned (cvl vw vg c)) ∨ (progR t = none ∧ e = pan (.iface te pe))) ∧ Below w.heap.size w w' := by
  have hmf : ∀ (fn : Fn) (first cap : Array Value) (w : World), (Instr.makeFunc fn first cap).run Tryz.prog w = .ok (.func fn first cap) w := fun _ _ _ _ => rfl
  have h9 := G.big
  have HG := hid G
  clear G
  go_enter Tryz.func21, Tryz.ntmps21
  go_wp2_with fail
  obtain ⟨w1, hw1⟩ : ∃ w1, ((w.alloc (.cells #[.slice none 0 0, .slice none 0 0, .int .i64 0, .int .i64 0, .int .i64 0, .int .i64 0] 25)).alloc (.cells #[.slice none 0 0, .slice none 0 0, .int .i64 0, .int .i64 0, .int .i64 0, .int .i64 0] 25)).alloc (.cells #[.string { data := #[99, 102, 103] }, .string { data := #[119, 111, 114, 107] }, .string { data := #[103, 114, 111, 117, 112] }] 78) = w1 := ⟨_, rfl⟩
  have hb1 : Below w.heap.size w w1 := by rw [← hw1]; go_grown
  have hr1 : Blk w1 w.heap.size cvz 25 := hw1 ▸ ((Blk.new w _ _).alloc _).alloc _
  have hx1 : Blk w1 (w.heap.size + 1) (cva (.slice none 0 0) (.slice none 0 0) cf0) 25 := by
    rw [← hw1]
    have := (Blk.new (w.alloc (.cells #[.slice none 0 0, .slice none 0 0, .int .i64 0, .int .i64 0, .int .i64 0, .int .i64 0] 25)) #[.slice none 0 0, .slice none 0 0, .int .i64 0, .int .i64 0, .int .i64 0, .int .i64 0] 25).alloc (.cells #[.string { data := #[99, 102, 103] }, .string { data := #[119, 111, 114, 107] }, .string { data := #[103, 114, 111, 117, 112] }] 78)
    rw [show (w.alloc (.cells #[.slice none 0 0, .slice none 0 0, .int .i64 0, .int .i64 0, .int .i64 0, .int .i64 0] 25)).heap.size = w.heap.size + 1 by simp] at this
    exact this
  have hd1 : Blk w1 (w.heap.size + 1 + 1) #[str wCfg, str wWork, str wGroup] 78 := by
    rw [← hw1]
    have := Blk.new ((w.alloc (.cells #[.slice none 0 0, .slice none 0 0, .int .i64 0, .int .i64 0, .int .i64 0, .int .i64 0] 25)).alloc (.cells #[.slice none 0 0, .slice none 0 0, .int .i64 0, .int .i64 0, .int .i64 0, .int .i64 0] 25)) #[.string { data := #[99, 102, 103] }, .string { data := #[119, 111, 114, 107] }, .string { data := #[103, 114, 111, 117, 112] }] 78
    simpa using this
  rw [hw1]
  have HB1 := hid hb1
  have HR1 := hid hr1
  have hl1 := hd1.lt
  refine (readLines_any t (w.heap.size + 1 + 1) (w.heap.size + 1) te pe w1 (HG.out.keep hb1) ht hd1.lt (by omega) (fun j h => by
    rw [hd1.cell]
    match j, h with
    | 0, _ => rfl
    | 1, _ => rfl
    | 2, _ => rfl) hx1 (by omega)).mono ?_
  clear hw1 hr1 hd1
  rintro e w2 ⟨hon, hres⟩
  have HB2 := hid (Only.below hb1 hon hb1.size (fun k hk e => by omega))
  have HG2 := hid (gl_only (HG.out.keep hb1) hon (by omega))
  have HR2 := hid (HR1.out.only hon (by omega))
  clear hb1 hx1
  rcases hres with ⟨last, c, vw, vg, hl, hrp, rfl, hoc, hbx⟩ | ⟨hno, rfl⟩
  · obtain ⟨aw, cw, rfl, -⟩ := hoc.W.form
    obtain ⟨ag, cg, rfl, -⟩ := hoc.G.form
    have hlen := rowsP_len _ _ _ _ _ (by omega) hrp
    have hcl := cut_length 10 t
    simp only [cf0, List.length_nil, Nat.zero_add] at hlen
    have hcl1 : c.works.length ≤ 2000000 ∧ c.groups.length ≤ 2000000 := ⟨by omega, by omega⟩
    have HRP := hid hrp
    have HOC := hid hoc
    have xc := hbx.cell
    have xl := hbx.lt
    have HBX := hid hbx
    have HON := hid hon
    have HL := hid hl
    clear hlen hcl hrp hoc hbx hon hl
    go_wp2_with fail
    refine (cfgOk_any _ c w2 (HOC.out.cfg hcl1.1 hcl1.2)).mono ?_
    rintro e w3 ⟨rfl, hb3⟩
    have HB3 := hid (HB2.out.trans (hb3.mono HB2.out.size))
    have HOC3 := hid (HOC.out.keep hb3)
    have hbx3 := HBX.out.below hb3 xl
    have hr3 := HR2.out.below hb3 HR2.out.lt
    have g3 := (HG2.out.keep hb3).no
    have yc := hbx3.cell
    have rc := hr3.cell
    have rf := hr3.frozen
    clear hb3 xc hbx3 hr3
    cases hok : cfgOk c
    · have HNO : Hid (progR t = none) := by rw [Hid, progR, if_pos HL.out, HRP.out]; simp [hok]
      clear hok
      go_wp2_with fail
      refine (must_no te pe w3 g3).mono ?_
      rintro e w9 ⟨rfl, rfl⟩
      go_wp2
      exact ⟨rfl, .inr ⟨HNO.out, rfl⟩, HB3.out⟩
    · have HYES : Hid (progR t = some c) := by rw [Hid, progR, if_pos HL.out, HRP.out]; simp [hok]
      clear hok
      go_wp2_with fail
      refine (must_yes w3).mono ?_
      rintro e w9 ⟨rfl, rfl⟩
      go_wp2
      refine bodyPost_ret (v := cvl (.slice aw c.works.length cw) (.slice ag c.groups.length cg) c) (by simp [results, Tryz.results21, go_sem, *]) rfl ⟨.inl ⟨c, _, _, HYES.out, ?_, rfl⟩, bel_set6 HB3.out (Nat.le_refl _) _ _ _ _ _ _⟩
      have h5 := HOC3.out.far6 (b := w.heap.size) (fun k hk e => by have := (HOC3.out.W.lt k hk).1; omega) (fun k hk e => by have := (HOC3.out.G.lt k hk).1; omega) (.slice aw c.works.length cw) (.slice ag c.groups.length cg) (.int .i64 c.start) (.int .i64 c.calm) (.int .i64 c.idle) (.int .i64 c.back)
      exact ⟨h5.W.mono HB1.out.size, h5.G.mono HB1.out.size, h5.ne⟩
  · have HNO : Hid (progR t = none) := by
      rw [Hid, progR]
      rcases hno with h | h
      · rw [if_neg h]
      · rw [h]; simp
    clear hno hon
    go_wp2
    exact ⟨rfl, .inr ⟨HNO.out, rfl⟩, HB2.out⟩

theorem catch_panicking (p : Addr) (b : Bool) (te : TypeId) (pe : Value) (older : List PanicEntry) (w : World) (hc : w.cell? p = some (.bool b)) (hz : w.frozen? p = false) :
    CallsD Tryz.prog 47 #[.pointer (some p)] (.panicking ({ v := .iface te pe, recovered := false } :: older)) w fun e u' w' =>
      e = .returned (.tuple #[]) ∧ u' = .panicking ({ v := .iface te pe, recovered := true } :: older) ∧ w' = w.setCell p (.bool false) := by
  refine callsD_of_wpS Tryz.func47 rfl fun c₀ cs hu => ?_
  apply wpS_region
  simp [wpOpsS, go_sem, recoverD, hu, Tryz.ntmps47, hc, hz, bodyPostS, results, Tryz.results47]
theorem catch_idle (p : Addr) (b : Bool) (w : World) (hc : w.cell? p = some (.bool b)) (hz : w.frozen? p = false) :
    CallsD Tryz.prog 47 #[.pointer (some p)] .returning w fun e u' w' => e = .returned (.tuple #[]) ∧ u' = .returning ∧ w' = w.setCell p (.bool true) := by
  refine callsD_of_wpS Tryz.func47 rfl fun c₀ cs hu => ?_
  apply wpS_region
  simp [wpOpsS, go_sem, recoverD, hu, Tryz.ntmps47, hc, hz, bodyPostS, results, Tryz.results47]
  cases c₀
  simp_all
theorem Blk.set6 {w : World} {b : Nat} {T : TypeId} {z0 z1 z2 z3 z4 z5 : Value} (h : Blk w b #[z0, z1, z2, z3, z4, z5] T) (u0 u1 u2 u3 u4 u5 : Value) : Blk ((((((w.setCell ⟨b, 0, none⟩ u0).setCell ⟨b, 1, none⟩ u1).setCell ⟨b, 2, none⟩ u2).setCell ⟨b, 3, none⟩ u3).setCell ⟨b, 4, none⟩ u4).setCell ⟨b, 5, none⟩ u5) b #[u0, u1, u2, u3, u4, u5] T :=
  (((((h.set 0 u0).set 1 u1).set 2 u2).set 3 u3).set 4 u4).set 5 u5
theorem Blk.far6 {w : World} {a b : Nat} {T : TypeId} {cs : Array Value} (h : Blk w a cs T) (hne : a ≠ b) (u0 u1 u2 u3 u4 u5 : Value) : Blk ((((((w.setCell ⟨b, 0, none⟩ u0).setCell ⟨b, 1, none⟩ u1).setCell ⟨b, 2, none⟩ u2).setCell ⟨b, 3, none⟩ u3).setCell ⟨b, 4, none⟩ u4).setCell ⟨b, 5, none⟩ u5) a cs T :=
  (((((h.far (p := ⟨b, 0, none⟩) hne u0).far (p := ⟨b, 1, none⟩) hne u1).far (p := ⟨b, 2, none⟩) hne u2).far (p := ⟨b, 3, none⟩) hne u3).far (p := ⟨b, 4, none⟩) hne u4).far (p := ⟨b, 5, none⟩) hne u5
theorem OC.far1 {w : World} {B b i : Nat} {vw vg : Value} {c : Cf} (h : OC w B vw vg c) (hb : b < B) (u : Value) : OC (w.setCell ⟨b, i, none⟩ u) B vw vg c :=
  ⟨h.W.far (p := ⟨b, i, none⟩) u (fun k hk e => by have := (h.W.lt k hk).1; simp at e; omega), h.G.far (p := ⟨b, i, none⟩) u (fun k hk e => by have := (h.G.lt k hk).1; simp at e; omega), h.ne⟩
theorem OC.base {w : World} {B B' : Nat} {vw vg : Value} {c : Cf} (h : OC w B vw vg c) (hb : B' ≤ B) : OC w B' vw vg c := ⟨h.W.mono hb, h.G.mono hb, h.ne⟩
theorem OC.farB {w : World} {B b : Nat} {vw vg : Value} {c : Cf} (h : OC w B vw vg c) (hb : b < B) (u0 u1 u2 u3 u4 u5 : Value) : OC ((((((w.setCell ⟨b, 0, none⟩ u0).setCell ⟨b, 1, none⟩ u1).setCell ⟨b, 2, none⟩ u2).setCell ⟨b, 3, none⟩ u3).setCell ⟨b, 4, none⟩ u4).setCell ⟨b, 5, none⟩ u5) B vw vg c :=
  h.far6 (fun k hk e => by have := (h.W.lt k hk).1; omega) (fun k hk e => by have := (h.G.lt k hk).1; omega) u0 u1 u2 u3 u4 u5

set_option maxRecDepth 100000 in
set_option maxHeartbeats 2000000 in
theorem readOrNothing_any (t : List UInt8) (te : TypeId) (pe : Value) (w : World) (G : Gl (.iface te pe) w) (ht : t.length ≤ 2000000) :
    Calls Tryz.prog 20 #[str t, .func (.func 21) #[] #[]] w fun e w' => ((∃ c vw vg, progR t = some c ∧ OC w' w.heap.size vw vg c ∧ e = .returned (.tuple #[cvl vw vg c, .bool true])) ∨ (progR t = none ∧ e = .returned (.tuple #[.agg cvz, .bool false]))) ∧ Below w.heap.size w w' := by
  have hmf : ∀ (fn : Fn) (first cap : Array Value) (w : World), (Instr.makeFunc fn first cap).run Tryz.prog w = .ok (.func fn first cap) w := fun _ _ _ _ => rfl
  go_enter_defers Tryz.func20, Tryz.ntmps20
  go_wp2_with fail
  refine (readCfg_any t te pe _ (G.keep (by go_grown)) ht).mono ?_
  rintro e w1 ⟨hres, hb1⟩
  have X : Blk w1 w.heap.size cvz 25 := ((Blk.new w _ _).alloc _).below hb1 (by simp; omega)
  have Y : Blk w1 (w.heap.size + 1) #[.bool false] 4 := by
    have := (Blk.new (w.alloc (.cells cvz 25)) #[.bool false] 4)
    rw [show (w.alloc (.cells cvz 25)).heap.size = w.heap.size + 1 by simp] at this
    exact this.below hb1 (by simp)
  have HB : Hid (Below w.heap.size w w1) := Below.trans (by go_grown) (hb1.mono (by simp; omega))
  have x1 := X.cell
  have x2 := X.frozen
  have x3 := X.lt
  have y1 := Y.cell
  have y2 := Y.frozen
  have y3 := Y.lt
  clear hb1 G
  rcases hres with ⟨c, vw, vg, hev, hoc, rfl⟩ | ⟨hno, rfl⟩
  · obtain ⟨aw, cw, rfl, -⟩ := hoc.W.form
    obtain ⟨ag, cg, rfl, -⟩ := hoc.G.form
    have hoc := hoc.base (B' := w.heap.size + 2) (by simp)
    have HEV := hid hev
    have HOC := hid hoc
    clear hev hoc
    go_wp2
    generalize hV : ((((((w1.setCell ⟨w.heap.size, 0, none⟩ (.slice aw c.works.length cw)).setCell ⟨w.heap.size, 1, none⟩ (.slice ag c.groups.length cg)).setCell ⟨w.heap.size, 2, none⟩ (.int .i64 c.start)).setCell ⟨w.heap.size, 3, none⟩ (.int .i64 c.calm)).setCell ⟨w.heap.size, 4, none⟩ (.int .i64 c.idle)).setCell ⟨w.heap.size, 5, none⟩ (.int .i64 c.back)).setCell ⟨w.heap.size + 1, 0, none⟩ (.bool true) = V
    have X2 : Blk V w.heap.size (cva (.slice aw c.works.length cw) (.slice ag c.groups.length cg) c) 25 := by rw [← hV]; exact (X.set6 _ _ _ _ _ _).far (by simp) _
    have Y2 : Blk V (w.heap.size + 1) #[.bool true] 4 := by rw [← hV]; exact (Y.far6 (by omega) _ _ _ _ _ _).set 0 _
    have O2 : OC V (w.heap.size + 2) (.slice aw c.works.length cw) (.slice ag c.groups.length cg) c := by rw [← hV]; exact (HOC.out.farB (by omega) _ _ _ _ _ _).far1 (by omega) _
    have B2 : Below w.heap.size w V := by rw [← hV]; exact (bel_set6 HB.out (Nat.le_refl _) _ _ _ _ _ _).setCell (p := ⟨w.heap.size + 1, 0, none⟩) (by simp) _
    clear hV x1 x2 x3 y1 y2 y3 X Y HB HOC
    refine leaves_cons (f := 47) (args := #[.pointer (some ⟨w.heap.size + 1, 0, none⟩)]) (by simp) (by simp [go_sem]) ?_
    refine (catch_idle ⟨w.heap.size + 1, 0, none⟩ true _ (by rw [Y2.cell]; rfl) (Y2.frozen 0)).mono ?_
    rintro e u' w'' ⟨rfl, rfl, rfl⟩
    generalize hV2 : V.setCell ⟨w.heap.size + 1, 0, none⟩ (.bool true) = V2
    have X3 : Blk V2 w.heap.size (cva (.slice aw c.works.length cw) (.slice ag c.groups.length cg) c) 25 := by rw [← hV2]; exact X2.far (by simp) _
    have Y3 : Blk V2 (w.heap.size + 1) #[.bool true] 4 := by rw [← hV2]; exact Y2.set 0 _
    have O3 : OC V2 (w.heap.size + 2) (.slice aw c.works.length cw) (.slice ag c.groups.length cg) c := by rw [← hV2]; exact O2.far1 (by omega) _
    have B3 : Below w.heap.size w V2 := by rw [← hV2]; exact B2.setCell (p := ⟨w.heap.size + 1, 0, none⟩) (by simp) _
    have x0 := X3.cell
    have y0 := Y3.cell
    have HO3 := hid (O3.base (B' := w.heap.size) (by omega))
    have HB3 := hid B3
    clear hV2 X2 Y2 B2 X3 Y3 O2 O3 B3
    simp [Leaves, settle, results, Tryz.results20, go_sem, x0, y0]
    exact ⟨⟨c, HEV.out, _, _, HO3.out, rfl, rfl, rfl, rfl, rfl, rfl⟩, HB3.out⟩
  · have HNO := hid hno
    clear hno
    go_wp2
    refine leaves_cons (f := 47) (args := #[.pointer (some ⟨w.heap.size + 1, 0, none⟩)]) (by simp) (by simp [go_sem]) ?_
    refine (catch_panicking ⟨w.heap.size + 1, 0, none⟩ false te pe [] _ (by rw [Y.cell]; rfl) (Y.frozen 0)).mono ?_
    rintro e u' w'' ⟨rfl, rfl, rfl⟩
    generalize hV2 : w1.setCell ⟨w.heap.size + 1, 0, none⟩ (.bool false) = V2
    have X3 : Blk V2 w.heap.size cvz 25 := by rw [← hV2]; exact X.far (by simp) _
    have Y3 : Blk V2 (w.heap.size + 1) #[.bool false] 4 := by rw [← hV2]; exact Y.set 0 _
    have B3 : Below w.heap.size w V2 := by rw [← hV2]; exact HB.out.setCell (p := ⟨w.heap.size + 1, 0, none⟩) (by simp) _
    have x0 := X3.cell
    have y0 := Y3.cell
    clear hV2 X Y HB
    simp [Leaves, settle, results, Tryz.results20, go_sem, x0, y0]
    exact ⟨HNO.out, B3⟩

set_option maxRecDepth 100000 in
set_option maxHeartbeats 1000000 in
/-- The program's TextCfgRead: what it tells lies in memory of its own. -/
theorem textCfgRead_any (t : List UInt8) (te : TypeId) (pe : Value) (w : World) (G : Gl (.iface te pe) w) (ht : t.length ≤ 2000000) :
    Calls Tryz.prog 6 #[str t] w fun e w' => ((∃ c vw vg, cfgR t = some c ∧ OC w' w.heap.size vw vg c ∧ e = .returned (.tuple #[cvl vw vg c, .bool true])) ∨ (cfgR t = none ∧ e = .returned (.tuple #[.agg cvz, .bool false]))) ∧ Below w.heap.size w w' := by
  go_enter Tryz.func6, Tryz.ntmps6
  go_wp2_with fail
  refine (readOrNothing_any t te pe _ (G.keep (by go_grown)) ht).mono ?_
  rintro e w1 ⟨hres, hb1⟩
  have X : Blk w1 w.heap.size cvz 25 := (Blk.new w _ _).below hb1 (by simp)
  have HB : Hid (Below w.heap.size w w1) := Below.trans (by go_grown) (hb1.mono (by simp))
  have x1 := X.cell
  have x2 := X.frozen
  have x3 := X.lt
  clear hb1 G
  rw [progR_eq] at hres
  rcases hres with ⟨c, vw, vg, hev, hoc, rfl⟩ | ⟨hno, rfl⟩
  · obtain ⟨aw, cw, rfl, -⟩ := hoc.W.form
    obtain ⟨ag, cg, rfl, -⟩ := hoc.G.form
    have hoc := hoc.base (B' := w.heap.size + 1) (by simp)
    have HEV := hid hev
    have HOC := hid hoc
    clear hev hoc
    go_wp2
    refine bodyPost_ret (v := .tuple #[cvl (.slice aw c.works.length cw) (.slice ag c.groups.length cg) c, .bool true]) (by simp [results, Tryz.results6, go_sem, *]) rfl ⟨.inl ⟨c, _, _, HEV.out, (HOC.out.farB (by omega) _ _ _ _ _ _).base (by omega), rfl⟩, ?_⟩
    exact bel_set6 HB.out (Nat.le_refl _) _ _ _ _ _ _
  · have HNO := hid hno
    clear hno
    go_wp2
    refine bodyPost_ret (v := .tuple #[.agg cvz, .bool false]) (by simp [results, Tryz.results6, go_sem, *]) rfl ⟨.inr ⟨HNO.out, rfl⟩, ?_⟩
    exact bel_set6 HB.out (Nat.le_refl _) _ _ _ _ _ _

theorem Only.at_ {p : Nat} {w w1 : World} (h : Only (fun k => k = p) w w1) (i : Nat) (u : Value) : Only (fun k => k = p) w (w1.setCell ⟨p, i, none⟩ u) := h.set1 i u

set_option maxRecDepth 100000 in
set_option maxHeartbeats 2000000 in
theorem markWorks_any (p len cap base : Nat) (xs : List Value) (k0 : Int) (w : World) (hk : 0 ≤ k0 ∧ k0 ≤ 100000000) (hn : len ≤ 2000000) (h : w.ownsRow base 74 8 (.slice (some ⟨p, 0, none⟩) len cap) len xs) :
    Calls Tryz.prog 24 #[.slice (some ⟨p, 0, none⟩) len cap, .int .i64 k0] w fun e w' => e = .returned (.int .i64 (k0 + 8 * len)) ∧ Only (fun b => b = p) w w' ∧ ∃ ys, w'.ownsRow base 74 8 (.slice (some ⟨p, 0, none⟩) len cap) len ys ∧ ∀ q, q < len * 8 → ys[q]? = some (.int .i64 (k0 + (q : Int))) := by
  have H := hid h
  clear h
  go_enter Tryz.func24, Tryz.ntmps24
  go_wp2
  go_loopw [1, 5] (fun s i w' => ∃ k : Nat, k ≤ len ∧ i = .int .i64 k ∧ s = .int .i64 (k0 + 8 * k) ∧ ∃ ys, Hid (w'.ownsRow base 74 8 (.slice (some ⟨p, 0, none⟩) len cap) len ys ∧ (∀ q, q < k * 8 → ys[q]? = some (.int .i64 (k0 + (q : Int)))) ∧ Only (fun b => b = p) w w')) (fun _ i _ => len - (intOf i).toNat)
  case atStart => exact ⟨0, Nat.zero_le _, rfl, by simp, _, H.out, fun q hq => by omega, Only.refl _ _⟩
  case round =>
    obtain ⟨k, hk, rfl, rfl, ys, hF⟩ := hrel
    by_cases hlt : k < len
    · have hl : ys.length = len * 8 := hF.out.1.1
      have hmul : k * 8 + 8 ≤ len * 8 := by have := Nat.mul_le_mul_right 8 (show k + 1 ≤ len from hlt); omega
      have hc : ∀ j, j < 8 → ∃ y, wr.cell? ⟨p, k * 8 + j, none⟩ = some y := fun j hj => ⟨ys[k * 8 + j]'(by omega), by rw [hF.out.1.cellAt _ (by omega), List.getElem?_eq_getElem (by omega)]⟩
      have hf : ∀ j, wr.frozen? ⟨p, j, none⟩ = false := fun j => hF.out.1.frozenAt j
      obtain ⟨y0, d0⟩ := hc 0 (by omega)
      obtain ⟨y1, d1⟩ := hc 1 (by omega)
      obtain ⟨y2, d2⟩ := hc 2 (by omega)
      obtain ⟨y3, d3⟩ := hc 3 (by omega)
      obtain ⟨y4, d4⟩ := hc 4 (by omega)
      obtain ⟨y5, d5⟩ := hc 5 (by omega)
      obtain ⟨y6, d6⟩ := hc 6 (by omega)
      obtain ⟨y7, d7⟩ := hc 7 (by omega)
      rw [Nat.add_zero] at d0
      have HYL : Hid (ys.length = len * 8 ∧ k * 8 + 8 ≤ len * 8) := ⟨hl, hmul⟩
      have hk0 : (0 : Int) ≤ (k : Int) := by omega
      have hkn : (k : Int) < (len : Int) := by omega
      have hpl : p < wr.heap.size := (hF.out.1.lt p rfl).2
      clear hc hl hmul
      go_wp2
      go_roundw
      case rel =>
        refine ⟨k + 1, by omega, by go_num, congrArg _ (by omega), _, ((((((((hF.out.1.stored (k * 8) _).1.stored (k * 8 + 1) _).1.stored (k * 8 + 2) _).1.stored (k * 8 + 3) _).1.stored (k * 8 + 4) _).1.stored (k * 8 + 5) _).1.stored (k * 8 + 6) _).1.stored (k * 8 + 7) _).1, fun q hq => ?_, ((((((((hF.out.2.2.at_ (k * 8) _).at_ (k * 8 + 1) _).at_ (k * 8 + 2) _).at_ (k * 8 + 3) _).at_ (k * 8 + 4) _).at_ (k * 8 + 5) _).at_ (k * 8 + 6) _).at_ (k * 8 + 7) _)⟩
        have h1 := HYL.out
        have h2 := hF.out.2.1 q
        simp only [List.getElem?_set, List.length_set]
        repeat' split
        all_goals first
          | (exfalso; omega)
          | (congr 2; omega)
          | exact h2 (by omega)
      case measure => simp [intOf]; omega
    · have : k = len := by omega
      subst this
      have HF := hF
      go_wp2
      go_ret
      exact ⟨rfl, HF.out.2.2, ys, HF.out.1, HF.out.2.1⟩

set_option maxRecDepth 100000 in
set_option maxHeartbeats 2000000 in
theorem markGroups_any (p len cap base : Nat) (xs : List Value) (k0 : Int) (w : World) (hk : 0 ≤ k0 ∧ k0 ≤ 100000000) (hn : len ≤ 2000000) (h : w.ownsRow base 76 5 (.slice (some ⟨p, 0, none⟩) len cap) len xs) :
    Calls Tryz.prog 25 #[.slice (some ⟨p, 0, none⟩) len cap, .int .i64 k0] w fun e w' => e = .returned (.int .i64 (k0 + 5 * len)) ∧ Only (fun b => b = p) w w' ∧ ∃ ys, w'.ownsRow base 76 5 (.slice (some ⟨p, 0, none⟩) len cap) len ys ∧ ∀ q, q < len * 5 → ys[q]? = some (.int .i64 (k0 + (q : Int))) := by
  have H := hid h
  clear h
  go_enter Tryz.func25, Tryz.ntmps25
  go_wp2
  go_loopw [1, 5] (fun s i w' => ∃ k : Nat, k ≤ len ∧ i = .int .i64 k ∧ s = .int .i64 (k0 + 5 * k) ∧ ∃ ys, Hid (w'.ownsRow base 76 5 (.slice (some ⟨p, 0, none⟩) len cap) len ys ∧ (∀ q, q < k * 5 → ys[q]? = some (.int .i64 (k0 + (q : Int)))) ∧ Only (fun b => b = p) w w')) (fun _ i _ => len - (intOf i).toNat)
  case atStart => exact ⟨0, Nat.zero_le _, rfl, by simp, _, H.out, fun q hq => by omega, Only.refl _ _⟩
  case round =>
    obtain ⟨k, hk, rfl, rfl, ys, hF⟩ := hrel
    by_cases hlt : k < len
    · have hl : ys.length = len * 5 := hF.out.1.1
      have hmul : k * 5 + 5 ≤ len * 5 := by have := Nat.mul_le_mul_right 5 (show k + 1 ≤ len from hlt); omega
      have hc : ∀ j, j < 5 → ∃ y, wr.cell? ⟨p, k * 5 + j, none⟩ = some y := fun j hj => ⟨ys[k * 5 + j]'(by omega), by rw [hF.out.1.cellAt _ (by omega), List.getElem?_eq_getElem (by omega)]⟩
      have hf : ∀ j, wr.frozen? ⟨p, j, none⟩ = false := fun j => hF.out.1.frozenAt j
      obtain ⟨y0, d0⟩ := hc 0 (by omega)
      obtain ⟨y1, d1⟩ := hc 1 (by omega)
      obtain ⟨y2, d2⟩ := hc 2 (by omega)
      obtain ⟨y3, d3⟩ := hc 3 (by omega)
      obtain ⟨y4, d4⟩ := hc 4 (by omega)
      rw [Nat.add_zero] at d0
      have HYL : Hid (ys.length = len * 5 ∧ k * 5 + 5 ≤ len * 5) := ⟨hl, hmul⟩
      have hk0 : (0 : Int) ≤ (k : Int) := by omega
      have hkn : (k : Int) < (len : Int) := by omega
      have hpl : p < wr.heap.size := (hF.out.1.lt p rfl).2
      clear hc hl hmul
      go_wp2
      go_roundw
      case rel =>
        refine ⟨k + 1, by omega, by go_num, congrArg _ (by omega), _, (((((hF.out.1.stored (k * 5) _).1.stored (k * 5 + 1) _).1.stored (k * 5 + 2) _).1.stored (k * 5 + 3) _).1.stored (k * 5 + 4) _).1, fun q hq => ?_, (((((hF.out.2.2.at_ (k * 5) _).at_ (k * 5 + 1) _).at_ (k * 5 + 2) _).at_ (k * 5 + 3) _).at_ (k * 5 + 4) _)⟩
        have h1 := HYL.out
        have h2 := hF.out.2.1 q
        simp only [List.getElem?_set, List.length_set]
        repeat' split
        all_goals first
          | (exfalso; omega)
          | (congr 2; omega)
          | exact h2 (by omega)
      case measure => simp [intOf]; omega
    · have : k = len := by omega
      subst this
      have HF := hF
      go_wp2
      go_ret
      exact ⟨rfl, HF.out.2.2, ys, HF.out.1, HF.out.2.1⟩

set_option maxRecDepth 100000 in
set_option maxHeartbeats 2000000 in
theorem heldWorks_any (p len cap : Nat) (k0 : Int) (w : World) (hk : 0 ≤ k0 ∧ k0 ≤ 100000000) (hn : len ≤ 2000000) (h : ∀ q, q < len * 8 → w.cell? ⟨p, q, none⟩ = some (.int .i64 (k0 + (q : Int)))) :
    Calls Tryz.prog 26 #[.slice (some ⟨p, 0, none⟩) len cap, .int .i64 k0] w fun e w' => e = .returned (.int .i64 (k0 + 8 * len)) ∧ w' = w := by
  have H := hid h
  clear h
  go_enter Tryz.func26, Tryz.ntmps26
  go_wp2
  go_loopw [1, 5] (fun s i w' => ∃ k : Nat, k ≤ len ∧ i = .int .i64 k ∧ s = .int .i64 (k0 + 8 * k) ∧ w' = w) (fun _ i _ => len - (intOf i).toNat)
  case atStart => exact ⟨0, Nat.zero_le _, rfl, by simp, rfl⟩
  case round =>
    obtain ⟨k, hk, rfl, rfl, rfl⟩ := hrel
    by_cases hlt : k < len
    · have hmul : k * 8 + 8 ≤ len * 8 := by have := Nat.mul_le_mul_right 8 (show k + 1 ≤ len from hlt); omega
      have hcell := H.out
      have d0 : wr.cell? ⟨p, k * 8, none⟩ = some (.int .i64 (k0 + 8 * (k : Int))) := (hcell (k * 8 + 0) (by omega)).trans (by congr 2; omega)
      have d1 : wr.cell? ⟨p, k * 8 + 1, none⟩ = some (.int .i64 (k0 + 8 * (k : Int) + 1)) := (hcell (k * 8 + 1) (by omega)).trans (by congr 2; omega)
      have d2 : wr.cell? ⟨p, k * 8 + 2, none⟩ = some (.int .i64 (k0 + 8 * (k : Int) + 1 + 1)) := (hcell (k * 8 + 2) (by omega)).trans (by congr 2; omega)
      have d3 : wr.cell? ⟨p, k * 8 + 3, none⟩ = some (.int .i64 (k0 + 8 * (k : Int) + 1 + 1 + 1)) := (hcell (k * 8 + 3) (by omega)).trans (by congr 2; omega)
      have d4 : wr.cell? ⟨p, k * 8 + 4, none⟩ = some (.int .i64 (k0 + 8 * (k : Int) + 1 + 1 + 1 + 1)) := (hcell (k * 8 + 4) (by omega)).trans (by congr 2; omega)
      have d5 : wr.cell? ⟨p, k * 8 + 5, none⟩ = some (.int .i64 (k0 + 8 * (k : Int) + 1 + 1 + 1 + 1 + 1)) := (hcell (k * 8 + 5) (by omega)).trans (by congr 2; omega)
      have d6 : wr.cell? ⟨p, k * 8 + 6, none⟩ = some (.int .i64 (k0 + 8 * (k : Int) + 1 + 1 + 1 + 1 + 1 + 1)) := (hcell (k * 8 + 6) (by omega)).trans (by congr 2; omega)
      have d7 : wr.cell? ⟨p, k * 8 + 7, none⟩ = some (.int .i64 (k0 + 8 * (k : Int) + 1 + 1 + 1 + 1 + 1 + 1 + 1)) := (hcell (k * 8 + 7) (by omega)).trans (by congr 2; omega)
      have hk0 : (0 : Int) ≤ (k : Int) := by omega
      have hkn : (k : Int) < (len : Int) := by omega
      clear hcell hmul
      go_wp2
      go_roundw
      case rel => exact ⟨k + 1, by omega, by go_num, congrArg _ (by omega), by trivial⟩
      case measure => simp [intOf]; omega
    · have : k = len := by omega
      subst this
      go_wp2
      go_ret
      exact ⟨rfl, rfl⟩

set_option maxRecDepth 100000 in
set_option maxHeartbeats 2000000 in
theorem heldGroups_any (p len cap : Nat) (k0 : Int) (w : World) (hk : 0 ≤ k0 ∧ k0 ≤ 100000000) (hn : len ≤ 2000000) (h : ∀ q, q < len * 5 → w.cell? ⟨p, q, none⟩ = some (.int .i64 (k0 + (q : Int)))) :
    Calls Tryz.prog 27 #[.slice (some ⟨p, 0, none⟩) len cap, .int .i64 k0] w fun e w' => e = .returned (.int .i64 (k0 + 5 * len)) ∧ w' = w := by
  have H := hid h
  clear h
  go_enter Tryz.func27, Tryz.ntmps27
  go_wp2
  go_loopw [1, 5] (fun s i w' => ∃ k : Nat, k ≤ len ∧ i = .int .i64 k ∧ s = .int .i64 (k0 + 5 * k) ∧ w' = w) (fun _ i _ => len - (intOf i).toNat)
  case atStart => exact ⟨0, Nat.zero_le _, rfl, by simp, rfl⟩
  case round =>
    obtain ⟨k, hk, rfl, rfl, rfl⟩ := hrel
    by_cases hlt : k < len
    · have hmul : k * 5 + 5 ≤ len * 5 := by have := Nat.mul_le_mul_right 5 (show k + 1 ≤ len from hlt); omega
      have hcell := H.out
      have d0 : wr.cell? ⟨p, k * 5, none⟩ = some (.int .i64 (k0 + 5 * (k : Int))) := (hcell (k * 5 + 0) (by omega)).trans (by congr 2; omega)
      have d1 : wr.cell? ⟨p, k * 5 + 1, none⟩ = some (.int .i64 (k0 + 5 * (k : Int) + 1)) := (hcell (k * 5 + 1) (by omega)).trans (by congr 2; omega)
      have d2 : wr.cell? ⟨p, k * 5 + 2, none⟩ = some (.int .i64 (k0 + 5 * (k : Int) + 1 + 1)) := (hcell (k * 5 + 2) (by omega)).trans (by congr 2; omega)
      have d3 : wr.cell? ⟨p, k * 5 + 3, none⟩ = some (.int .i64 (k0 + 5 * (k : Int) + 1 + 1 + 1)) := (hcell (k * 5 + 3) (by omega)).trans (by congr 2; omega)
      have d4 : wr.cell? ⟨p, k * 5 + 4, none⟩ = some (.int .i64 (k0 + 5 * (k : Int) + 1 + 1 + 1 + 1)) := (hcell (k * 5 + 4) (by omega)).trans (by congr 2; omega)
      have hk0 : (0 : Int) ≤ (k : Int) := by omega
      have hkn : (k : Int) < (len : Int) := by omega
      clear hcell hmul
      go_wp2
      go_roundw
      case rel => exact ⟨k + 1, by omega, by go_num, congrArg _ (by omega), by trivial⟩
      case measure => simp [intOf]; omega
    · have : k = len := by omega
      subst this
      go_wp2
      go_ret
      exact ⟨rfl, rfl⟩

set_option maxRecDepth 100000 in
set_option maxHeartbeats 2000000 in
theorem eqCfg_same (v v' : Value) (c : Cf) (w : World) (h : CfgAt w v c) (h' : CfgAt w v' c) :
    Calls Tryz.prog 7 #[v, v'] w fun e w' => e = .returned (.bool true) ∧ Below w.heap.size w w' := by
  obtain ⟨aw, lw, cw, ag, lg, cg, rfl, ⟨h1, h2, h3⟩, ⟨h4, h5, h6⟩⟩ := h
  obtain ⟨aw', lw', cw', ag', lg', cg', rfl, ⟨h1', h2', h3'⟩, ⟨h4', h5', h6'⟩⟩ := h'
  have e1 : lw = lw' := h1.symm.trans h1'
  have e2 : lg = lg' := h4.symm.trans h4'
  subst e1 e2
  have H1 := hid h1
  have H3 := hid h3
  have H3' := hid h3'
  have H4 := hid h4
  have H6 := hid h6
  have H6' := hid h6'
  clear h1 h3 h4 h6 h1' h3' h4' h6' h2' h5'
  go_enter Tryz.func7, Tryz.ntmps7
  go_wp2_with fail
  refine (eqWorks_same _ _ _ _ _ c.works _ H1.out h2 (H3.out.keep (by go_grown)) (H3'.out.keep (by go_grown))).mono ?_
  rintro e w1 ⟨rfl, hb⟩
  have hB : Below w.heap.size w w1 := Below.trans (by go_grown) (hb.mono (by simp; omega))
  have X1 : Blk w1 w.heap.size #[.slice aw lw cw, .slice ag lg cg, .int .i64 c.start, .int .i64 c.calm, .int .i64 c.idle, .int .i64 c.back] 25 := ((Blk.new w _ _).alloc _).below hb (by simp; omega)
  have Y1 : Blk w1 (w.heap.size + 1) #[.slice aw' lw cw', .slice ag' lg cg', .int .i64 c.start, .int .i64 c.calm, .int .i64 c.idle, .int .i64 c.back] 25 := by
    have := Blk.new (w.alloc (.cells #[.slice aw lw cw, .slice ag lg cg, .int .i64 c.start, .int .i64 c.calm, .int .i64 c.idle, .int .i64 c.back] 25)) #[.slice aw' lw cw', .slice ag' lg cg', .int .i64 c.start, .int .i64 c.calm, .int .i64 c.idle, .int .i64 c.back] 25
    rw [show (w.alloc (.cells #[.slice aw lw cw, .slice ag lg cg, .int .i64 c.start, .int .i64 c.calm, .int .i64 c.idle, .int .i64 c.back] 25)).heap.size = w.heap.size + 1 by simp] at this
    exact this.below hb (by simp)
  have HB := hid hB
  have x1 := X1.cell
  have y1 := Y1.cell
  have HX := hid X1
  have HY := hid Y1
  clear hb hB X1 Y1
  go_wp2_with fail
  refine (eqGroups_same _ _ _ _ _ c.groups _ H4.out h5 (H6.out.keep HB.out) (H6'.out.keep HB.out)).mono ?_
  rintro e w2 ⟨rfl, hb2⟩
  have x2 := (HX.out.below hb2 HX.out.lt).cell
  have y2 := (HY.out.below hb2 HY.out.lt).cell
  have HB2 := hid (HB.out.trans (hb2.mono HB.out.size))
  clear hb2 x1 y1
  go_wp2
  all_goals go_ret
  all_goals exact ⟨rfl, HB2.out⟩

set_option maxRecDepth 100000 in
set_option maxHeartbeats 1000000 in
theorem markWorks_none (k0 : Int) (w : World) : Calls Tryz.prog 24 #[.slice none 0 0, .int .i64 k0] w fun e w' => e = .returned (.int .i64 k0) ∧ w' = w := by
  go_enter Tryz.func24, Tryz.ntmps24
  go_wp2
  go_loopw [1, 5] (fun s i w' => i = .int .i64 0 ∧ s = .int .i64 k0 ∧ w' = w) (fun _ _ _ => 0)
  case atStart => exact ⟨rfl, rfl, rfl⟩
  case round =>
    obtain ⟨rfl, rfl, rfl⟩ := hrel
    go_wp2
    go_ret
    exact ⟨rfl, rfl⟩

set_option maxRecDepth 100000 in
set_option maxHeartbeats 1000000 in
theorem markGroups_none (k0 : Int) (w : World) : Calls Tryz.prog 25 #[.slice none 0 0, .int .i64 k0] w fun e w' => e = .returned (.int .i64 k0) ∧ w' = w := by
  go_enter Tryz.func25, Tryz.ntmps25
  go_wp2
  go_loopw [1, 5] (fun s i w' => i = .int .i64 0 ∧ s = .int .i64 k0 ∧ w' = w) (fun _ _ _ => 0)
  case atStart => exact ⟨rfl, rfl, rfl⟩
  case round =>
    obtain ⟨rfl, rfl, rfl⟩ := hrel
    go_wp2
    go_ret
    exact ⟨rfl, rfl⟩

set_option maxRecDepth 100000 in
set_option maxHeartbeats 1000000 in
theorem heldWorks_none (k0 : Int) (w : World) : Calls Tryz.prog 26 #[.slice none 0 0, .int .i64 k0] w fun e w' => e = .returned (.int .i64 k0) ∧ w' = w := by
  go_enter Tryz.func26, Tryz.ntmps26
  go_wp2
  go_loopw [1, 5] (fun s i w' => i = .int .i64 0 ∧ s = .int .i64 k0 ∧ w' = w) (fun _ _ _ => 0)
  case atStart => exact ⟨rfl, rfl, rfl⟩
  case round =>
    obtain ⟨rfl, rfl, rfl⟩ := hrel
    go_wp2
    go_ret
    exact ⟨rfl, rfl⟩

set_option maxRecDepth 100000 in
set_option maxHeartbeats 1000000 in
theorem heldGroups_none (k0 : Int) (w : World) : Calls Tryz.prog 27 #[.slice none 0 0, .int .i64 k0] w fun e w' => e = .returned (.int .i64 k0) ∧ w' = w := by
  go_enter Tryz.func27, Tryz.ntmps27
  go_wp2
  go_loopw [1, 5] (fun s i w' => i = .int .i64 0 ∧ s = .int .i64 k0 ∧ w' = w) (fun _ _ _ => 0)
  case atStart => exact ⟨rfl, rfl, rfl⟩
  case round =>
    obtain ⟨rfl, rfl, rfl⟩ := hrel
    go_wp2
    go_ret
    exact ⟨rfl, rfl⟩

set_option maxRecDepth 100000 in
set_option maxHeartbeats 2000000 in
theorem markCfg_yes (p q lw cw lg cg B : Nat) (xs ys : List Value) (s k i b : Int) (w : World) (hpq : p ≠ q) (h1 : lw ≤ 2000000) (h2 : lg ≤ 2000000)
    (o1 : w.ownsRow B 74 8 (.slice (some ⟨p, 0, none⟩) lw cw) lw xs) (o2 : w.ownsRow B 76 5 (.slice (some ⟨q, 0, none⟩) lg cg) lg ys) :
    Calls Tryz.prog 8 #[.agg #[.slice (some ⟨p, 0, none⟩) lw cw, .slice (some ⟨q, 0, none⟩) lg cg, .int .i64 s, .int .i64 k, .int .i64 i, .int .i64 b], .int .i64 1] w fun e w' => e = .returned (.int .i64 (1 + 8 * lw + 5 * lg)) ∧ Only (fun k => k = p ∨ k = q) w w' ∧ (∀ j, j < lw * 8 → w'.cell? ⟨p, j, none⟩ = some (.int .i64 (1 + (j : Int)))) ∧ (∀ j, j < lg * 5 → w'.cell? ⟨q, j, none⟩ = some (.int .i64 (1 + 8 * lw + (j : Int)))) := by
  have hp := (o1.lt p rfl).2
  have hq := (o2.lt q rfl).2
  have O1 := hid o1
  have O2 := hid o2
  clear o1 o2
  go_enter Tryz.func8, Tryz.ntmps8
  go_wp2_with fail
  refine (markWorks_any p lw cw B xs 1 _ (by omega) h1 (O1.out.alloc _)).mono ?_
  rintro e w1 ⟨rfl, hO, ys1, hy1, hy2⟩
  have hX : Blk w1 w.heap.size #[.slice (some ⟨p, 0, none⟩) lw cw, .slice (some ⟨q, 0, none⟩) lg cg, .int .i64 s, .int .i64 k, .int .i64 i, .int .i64 b] 25 := (Blk.new w _ _).only hO (by show ¬ w.heap.size = p; omega)
  have hg : Below w.heap.size w (w.alloc (.cells #[.slice (some ⟨p, 0, none⟩) lw cw, .slice (some ⟨q, 0, none⟩) lg cg, .int .i64 s, .int .i64 k, .int .i64 i, .int .i64 b] 25)) := by go_grown
  have hO1 : Only (fun k => k = p ∨ k = q) w w1 := (Only.of_below hg).into hO (fun k _ e => .inl e)
  have o2' : w1.ownsRow B 76 5 (.slice (some ⟨q, 0, none⟩) lg cg) lg ys := by
    have h3 := O2.out.alloc (.cells #[.slice (some ⟨p, 0, none⟩) lw cw, .slice (some ⟨q, 0, none⟩) lg cg, .int .i64 s, .int .i64 k, .int .i64 i, .int .i64 b] 25)
    refine ⟨h3.1, ?_⟩
    rcases h3.2 with h4 | ⟨g, cap, cur, h4, h5, h6, h7⟩
    · exact .inl h4
    · have hgq : g = q := by simp only [Value.slice.injEq, Option.some.injEq, Addr.mk.injEq, and_true] at h4; exact h4.1.symm
      exact .inr ⟨g, cap, cur, h4, h5, (hO.block g (by simp; omega) (by show ¬ g = p; omega)).trans h6, h7⟩
  have HO := hid hO1
  have O3 := hid o2'
  have HW : Hid (∀ j, j < lw * 8 → w1.cell? ⟨p, j, none⟩ = some (.int .i64 (1 + (j : Int)))) := fun j hj => (hy1.cellAt j hj).trans (hy2 j hj)
  have X := hX.cell
  have zx := hX.lt
  have HX := hid hX
  have zp : p < w1.heap.size := (hy1.lt p rfl).2
  clear hO o2' hO1 hX hy1 hy2 hg
  go_wp2_with fail
  refine (markGroups_any q lg cg B ys _ _ (by omega) h2 O3.out).mono ?_
  rintro e w2 ⟨rfl, hO, ys2, hy3, hy4⟩
  have HO2 := hid (HO.out.into hO (fun k _ e => .inr e))
  have HW2 : Hid (∀ j, j < lw * 8 → w2.cell? ⟨p, j, none⟩ = some (.int .i64 (1 + (j : Int)))) := fun j hj => (Only.cell hO zp (by show ¬ p = q; omega)).trans (HW.out j hj)
  have HG2 : Hid (∀ j, j < lg * 5 → w2.cell? ⟨q, j, none⟩ = some (.int .i64 (1 + 8 * lw + (j : Int)))) := fun j hj => (hy3.cellAt j hj).trans (hy4 j hj)
  clear hO hy3 hy4 X HW
  go_wp2
  go_ret
  exact ⟨rfl, HO2.out, HW2.out, HG2.out⟩

set_option maxRecDepth 100000 in
set_option maxHeartbeats 2000000 in
theorem heldCfg_yes (p q lw cw lg cg : Nat) (s k i b : Int) (w : World) (h1 : lw ≤ 2000000) (h2 : lg ≤ 2000000) (zp : p < w.heap.size) (zq : q < w.heap.size)
    (o1 : ∀ j, j < lw * 8 → w.cell? ⟨p, j, none⟩ = some (.int .i64 (1 + (j : Int)))) (o2 : ∀ j, j < lg * 5 → w.cell? ⟨q, j, none⟩ = some (.int .i64 (1 + 8 * lw + (j : Int)))) :
    Calls Tryz.prog 9 #[.agg #[.slice (some ⟨p, 0, none⟩) lw cw, .slice (some ⟨q, 0, none⟩) lg cg, .int .i64 s, .int .i64 k, .int .i64 i, .int .i64 b], .int .i64 1] w fun e w' => e = .returned (.int .i64 (1 + 8 * lw + 5 * lg)) ∧ Below w.heap.size w w' := by
  have hg : Below w.heap.size w (w.alloc (.cells #[.slice (some ⟨p, 0, none⟩) lw cw, .slice (some ⟨q, 0, none⟩) lg cg, .int .i64 s, .int .i64 k, .int .i64 i, .int .i64 b] 25)) := by go_grown
  have O1 : Hid (∀ j, j < lw * 8 → (w.alloc (.cells #[.slice (some ⟨p, 0, none⟩) lw cw, .slice (some ⟨q, 0, none⟩) lg cg, .int .i64 s, .int .i64 k, .int .i64 i, .int .i64 b] 25)).cell? ⟨p, j, none⟩ = some (.int .i64 (1 + (j : Int)))) := fun j hj => (below_cell hg zp).trans (o1 j hj)
  have O2 : Hid (∀ j, j < lg * 5 → (w.alloc (.cells #[.slice (some ⟨p, 0, none⟩) lw cw, .slice (some ⟨q, 0, none⟩) lg cg, .int .i64 s, .int .i64 k, .int .i64 i, .int .i64 b] 25)).cell? ⟨q, j, none⟩ = some (.int .i64 (1 + 8 * lw + (j : Int)))) := fun j hj => (below_cell hg zq).trans (o2 j hj)
  have HG := hid hg
  clear o1 o2 hg
  go_enter Tryz.func9, Tryz.ntmps9
  go_wp2_with fail
  refine (heldWorks_any p lw cw 1 _ (by omega) h1 O1.out).mono ?_
  rintro e w1 ⟨rfl, rfl⟩
  have n1 : ¬ (1 + 8 * (lw : Int)) < 0 := by omega
  go_wp2_with fail
  refine (heldGroups_any q lg cg _ _ (by omega) h2 O2.out).mono ?_
  rintro e w2 ⟨rfl, rfl⟩
  have n2 : ¬ (1 + 8 * (lw : Int) + 5 * (lg : Int)) < 0 := by omega
  go_wp2
  go_ret
  exact ⟨rfl, HG.out⟩

set_option maxRecDepth 100000 in
set_option maxHeartbeats 2000000 in
theorem markCfg_none (w : World) : Calls Tryz.prog 8 #[.agg cvz, .int .i64 1] w fun e w' => e = .returned (.int .i64 1) ∧ Below w.heap.size w w' := by
  go_enter Tryz.func8, Tryz.ntmps8
  go_wp2_with fail
  refine (markWorks_none 1 _).mono ?_
  rintro e w1 ⟨rfl, rfl⟩
  go_wp2_with fail
  refine (markGroups_none 1 _).mono ?_
  rintro e w2 ⟨rfl, rfl⟩
  go_wp2
  go_ret
  exact ⟨rfl, by go_grown⟩
set_option maxRecDepth 100000 in
set_option maxHeartbeats 2000000 in
theorem heldCfg_none (w : World) : Calls Tryz.prog 9 #[.agg cvz, .int .i64 1] w fun e w' => e = .returned (.int .i64 1) ∧ Below w.heap.size w w' := by
  go_enter Tryz.func9, Tryz.ntmps9
  go_wp2_with fail
  refine (heldWorks_none 1 _).mono ?_
  rintro e w1 ⟨rfl, rfl⟩
  go_wp2_with fail
  refine (heldGroups_none 1 _).mono ?_
  rintro e w2 ⟨rfl, rfl⟩
  go_wp2
  go_ret
  exact ⟨rfl, by go_grown⟩

theorem own_some {m : Nat} {T : TypeId} {B : Nat} {w : World} {v : Value} {n : Nat} {xs : List Value} (h : w.ownsRow B T m v n xs) (hn : 1 ≤ n) : ∃ p cp, v = .slice (some ⟨p, 0, none⟩) n cp := by
  rcases h.2 with ⟨_, h2⟩ | ⟨g, cap, cur, h1, _⟩
  · omega
  · exact ⟨g, cap, h1⟩
theorem cfgAt_zero (w : World) : CfgAt w (.agg cvz) cf0 := ⟨none, 0, 0, none, 0, 0, rfl, ⟨rfl, by omega, .inl rfl⟩, rfl, by omega, .inl rfl⟩
set_option maxRecDepth 100000 in
set_option maxHeartbeats 4000000 in
theorem exTextCfgRead (t : List UInt8) (te : TypeId) (pe : Value) (w : World) (G : Gl (.iface te pe) w) (ht : t.length ≤ 9223372036854775807) :
    Calls Tryz.prog 3 #[str t] w fun e w' => e = .returned (.bool true) ∧ Below w.heap.size w w' := by
  by_cases hbig : 1048576 < t.length
  · have hb : (1048576 : Int) < (t.length : Int) := by omega
    go_enter Tryz.func3, Tryz.ntmps3
    go_wp2
    go_ret
    exact ⟨rfl, by go_grown⟩
  have hb : ¬ (1048576 : Int) < (t.length : Int) := by omega
  have htl : t.length ≤ 2000000 := by omega
  go_enter Tryz.func3, Tryz.ntmps3
  go_wp2_with fail
  refine (sCfgRead_any t w htl).mono ?_
  rintro e w1 ⟨hres, hb1⟩
  have G1 := G.keep hb1
  have HG1 := hid G1
  have HB1 := hid hb1
  clear hb1 G
  rcases hres with ⟨c, v, hc, hcv, rfl⟩ | ⟨hno, rfl⟩
  · have hok := (cfgR_iff.1 hc).2.1
    have hw1 : 1 ≤ c.works.length ∧ c.works.length ≤ 3 := by
      have := ok_of_works hok
      omega
    have hg1 : 1 ≤ c.groups.length ∧ c.groups.length ≤ 3 := by
      have := ok_of_groups hok
      omega
    have HCV := hid hcv
    have HC := hid hc
    obtain ⟨a0, l0, k0, a1, l1, k1, rfl, h3, h4⟩ := hcv
    clear hc hok h3 h4
    go_wp2_with fail
    refine (textCfgRead_any t te pe _ (G1.keep (by go_grown)) htl).mono ?_
    rintro e w2 ⟨hres, hb2⟩
    have X2 := (Blk.new w1 #[.slice a0 l0 k0, .slice a1 l1 k1, .int .i64 c.start, .int .i64 c.calm, .int .i64 c.idle, .int .i64 c.back] 25).below hb2 (by simp)
    have HB2 : Hid (Below w1.heap.size w1 w2) := Below.trans (by go_grown) (hb2.mono (by simp))
    rcases hres with ⟨c', vw, vg, hc', hoc, rfl⟩ | ⟨hno, rfl⟩
    rotate_left
    · rw [HC.out] at hno; cases hno
    rw [HC.out] at hc'
    cases hc'
    have hoc := hoc.base (B' := w1.heap.size + 1) (by simp)
    obtain ⟨p, cp, rfl⟩ := own_some hoc.W hw1.1
    obtain ⟨q, cq, rfl⟩ := own_some hoc.G hg1.1
    have hpq : p ≠ q := fun e => hoc.ne p rfl (by rw [e]; rfl)
    have hpl := hoc.W.lt p rfl
    have hql := hoc.G.lt q rfl
    have HOC := hid hoc
    have HX2 := hid X2
    have x2c := X2.cell
    have x2l := X2.lt
    have G2 := (G1.keep HB2.out)
    have HG2 := hid G2
    clear hb2 hoc X2 G1 G2
    go_wp2_with fail
    have hgr : Below w2.heap.size w2 (w2.alloc (.cells (cva (.slice (some ⟨p, 0, none⟩) c.works.length cp) (.slice (some ⟨q, 0, none⟩) c.groups.length cq) c) 25)) := by go_grown
    refine (eqCfg_same _ _ c _ ((HOC.out.keep hgr).cfg (by omega) (by omega)) (HCV.out.keep (HB2.out.trans (hgr.mono HB2.out.size)))).mono ?_
    rintro e w3 ⟨rfl, hb3⟩
    have Y3 := (Blk.new w2 (cva (.slice (some ⟨p, 0, none⟩) c.works.length cp) (.slice (some ⟨q, 0, none⟩) c.groups.length cq) c) 25).below hb3 (by simp)
    have HB3 : Hid (Below w2.heap.size w2 w3) := hgr.trans (hb3.mono hgr.size)
    have HX3 := hid (HX2.out.below HB3.out x2l)
    have HOC3 := hid (HOC.out.keep HB3.out)
    have HY3 := hid Y3
    have y3c := Y3.cell
    have y3l := Y3.lt
    clear hb3 Y3 x2c hgr
    go_wp2_with fail
    refine (markCfg_yes p q c.works.length cp c.groups.length cq (w1.heap.size + 1) _ _ c.start c.calm c.idle c.back w3 hpq (by omega) (by omega) HOC3.out.W HOC3.out.G).mono ?_
    rintro e w4 ⟨rfl, hon4, hp4, hq4⟩
    have HB4 : Hid (Below w1.heap.size w1 w4) := Only.below (HB2.out.trans (HB3.out.mono HB2.out.size)) hon4 (Nat.le_trans HB2.out.size HB3.out.size) (fun k hk e => by omega)
    have HX4 := hid (HX3.out.only hon4 (by omega))
    have HY4 := hid (HY3.out.only hon4 (by omega))
    have y4c := HY4.out.cell
    have hs4 := hon4.size
    have hp4l : p < w4.heap.size ∧ q < w4.heap.size := by have := HB3.out.size; omega
    clear hon4 y3c
    have HP4 := hid hp4
    have HQ4 := hid hq4
    clear hp4 hq4
    go_wp2_with fail
    refine (heldCfg_yes p q c.works.length cp c.groups.length cq c.start c.calm c.idle c.back w4 (by omega) (by omega) hp4l.1 hp4l.2 HP4.out HQ4.out).mono ?_
    rintro e w5 ⟨rfl, hb5⟩
    have n1 : ¬ (1 + 8 * (c.works.length : Int) + 5 * (c.groups.length : Int)) < 0 := by omega
    have HB5 := hid hb5
    have HX5 := hid (HX4.out.below hb5 HX4.out.lt)
    have HY5 := hid (HY4.out.below hb5 HY4.out.lt)
    have HB15 := hid (HB4.out.trans (hb5.mono HB4.out.size))
    have hp5l : p < w5.heap.size ∧ q < w5.heap.size := by have := hb5.size; omega
    have HP5 : Hid (∀ j, j < c.works.length * 8 → w5.cell? ⟨p, j, none⟩ = some (.int .i64 (1 + (j : Int)))) := fun j hj => (below_cell hb5 hp4l.1).trans (HP4.out j hj)
    have HQ5 : Hid (∀ j, j < c.groups.length * 5 → w5.cell? ⟨q, j, none⟩ = some (.int .i64 (1 + 8 * (c.works.length : Int) + (j : Int)))) := fun j hj => (below_cell hb5 hp4l.2).trans (HQ4.out j hj)
    have x5l := HX5.out.lt
    have y5l := HY5.out.lt
    have G5 := HG1.out.keep HB15.out
    clear hb5 y4c
    go_wp2_with fail
    refine (textCfgRead_any t te pe w5 G5 htl).mono ?_
    rintro e w6 ⟨hres, hb6⟩
    rcases hres with ⟨c', vw, vg, hc', hoc6, rfl⟩ | ⟨hno, rfl⟩
    rotate_left
    · rw [HC.out] at hno; cases hno
    rw [HC.out] at hc'
    cases hc'
    obtain ⟨p2, cp2, rfl⟩ := own_some hoc6.W hw1.1
    obtain ⟨q2, cq2, rfl⟩ := own_some hoc6.G hg1.1
    have HOC6 := hid hoc6
    have HX6 := hid (HX5.out.below hb6 x5l)
    have HY6 := hid (HY5.out.below hb6 y5l)
    have HB16 := hid (HB15.out.trans (hb6.mono HB15.out.size))
    have HP6 : Hid (∀ j, j < c.works.length * 8 → w6.cell? ⟨p, j, none⟩ = some (.int .i64 (1 + (j : Int)))) := fun j hj => (below_cell hb6 hp5l.1).trans (HP5.out j hj)
    have HQ6 : Hid (∀ j, j < c.groups.length * 5 → w6.cell? ⟨q, j, none⟩ = some (.int .i64 (1 + 8 * (c.works.length : Int) + (j : Int)))) := fun j hj => (below_cell hb6 hp5l.2).trans (HQ5.out j hj)
    have hp6l : p < w6.heap.size ∧ q < w6.heap.size := by have := hb6.size; omega
    have x6c := HX6.out.cell
    have x6l := HX6.out.lt
    have y6l := HY6.out.lt
    clear hb6 hoc6 G5
    go_wp2_with fail
    have hgr : Below w6.heap.size w6 (w6.alloc (.cells (cva (.slice (some ⟨p2, 0, none⟩) c.works.length cp2) (.slice (some ⟨q2, 0, none⟩) c.groups.length cq2) c) 25)) := by go_grown
    refine (eqCfg_same _ _ c _ ((HOC6.out.keep hgr).cfg (by omega) (by omega)) (HCV.out.keep (HB16.out.trans (hgr.mono HB16.out.size)))).mono ?_
    rintro e w7 ⟨rfl, hb7⟩
    have HB7 : Hid (Below w6.heap.size w6 w7) := hgr.trans (hb7.mono hgr.size)
    have HY7 := hid (HY6.out.below HB7.out y6l)
    have y7c := HY7.out.cell
    have HP7 : Hid (∀ j, j < c.works.length * 8 → w7.cell? ⟨p, j, none⟩ = some (.int .i64 (1 + (j : Int)))) := fun j hj => (below_cell HB7.out hp6l.1).trans (HP6.out j hj)
    have HQ7 : Hid (∀ j, j < c.groups.length * 5 → w7.cell? ⟨q, j, none⟩ = some (.int .i64 (1 + 8 * (c.works.length : Int) + (j : Int)))) := fun j hj => (below_cell HB7.out hp6l.2).trans (HQ6.out j hj)
    have hp7l : p < w7.heap.size ∧ q < w7.heap.size := by have := HB7.out.size; omega
    have HB17 := hid (HB16.out.trans (HB7.out.mono HB16.out.size))
    clear hb7 x6c hgr
    go_wp2_with fail
    refine (heldCfg_yes p q c.works.length cp c.groups.length cq c.start c.calm c.idle c.back w7 (by omega) (by omega) hp7l.1 hp7l.2 HP7.out HQ7.out).mono ?_
    rintro e w8 ⟨rfl, hb8⟩
    have HB18 := hid (HB1.out.trans ((HB17.out.trans (hb8.mono HB17.out.size)).mono HB1.out.size))
    clear hb8 y7c
    go_wp2
    go_ret
    exact ⟨rfl, HB18.out⟩
  · have HNO := hid hno
    clear hno
    go_wp2_with fail
    refine (textCfgRead_any t te pe _ (G1.keep (by go_grown)) htl).mono ?_
    rintro e w2 ⟨hres, hb2⟩
    have X2 := (Blk.new w1 cvz 25).below hb2 (by simp)
    have HB2 : Hid (Below w1.heap.size w1 w2) := Below.trans (by go_grown) (hb2.mono (by simp))
    rcases hres with ⟨c', vw, vg, hc', hoc, rfl⟩ | ⟨hno, rfl⟩
    · rw [HNO.out] at hc'; cases hc'
    have HX2 := hid X2
    have x2c := X2.cell
    have x2l := X2.lt
    clear hb2 X2 G1 hno
    go_wp2_with fail
    have hgr : Below w2.heap.size w2 (w2.alloc (.cells cvz 25)) := by go_grown
    refine (eqCfg_same (.agg cvz) (.agg cvz) cf0 _ (cfgAt_zero _) (cfgAt_zero _)).mono ?_
    rintro e w3 ⟨rfl, hb3⟩
    have Y3 := (Blk.new w2 cvz 25).below hb3 (by simp)
    have HB3 : Hid (Below w2.heap.size w2 w3) := hgr.trans (hb3.mono hgr.size)
    have HX3 := hid (HX2.out.below HB3.out x2l)
    have HY3 := hid Y3
    have y3c := Y3.cell
    have y3l := Y3.lt
    clear hb3 Y3 x2c hgr
    go_wp2_with fail
    refine (markCfg_none w3).mono ?_
    rintro e w4 ⟨rfl, hb4⟩
    have HB4 := hid hb4
    have HX4 := hid (HX3.out.below hb4 HX3.out.lt)
    have HY4 := hid (HY3.out.below hb4 y3l)
    have y4c := HY4.out.cell
    clear hb4 y3c
    go_wp2_with fail
    refine (heldCfg_none w4).mono ?_
    rintro e w5 ⟨rfl, hb5⟩
    have HX5 := hid (HX4.out.below hb5 HX4.out.lt)
    have HY5 := hid (HY4.out.below hb5 HY4.out.lt)
    have HB15 := hid (HB2.out.trans ((HB3.out.trans ((HB4.out.trans (hb5.mono HB4.out.size)).mono HB3.out.size)).mono HB2.out.size))
    have x5l := HX5.out.lt
    have y5l := HY5.out.lt
    have G5 := HG1.out.keep HB15.out
    clear hb5 y4c
    go_wp2_with fail
    refine (textCfgRead_any t te pe w5 G5 htl).mono ?_
    rintro e w6 ⟨hres, hb6⟩
    rcases hres with ⟨c', vw, vg, hc', hoc6, rfl⟩ | ⟨hno, rfl⟩
    · rw [HNO.out] at hc'; cases hc'
    have HX6 := hid (HX5.out.below hb6 x5l)
    have HY6 := hid (HY5.out.below hb6 y5l)
    have HB16 := hid (HB15.out.trans (hb6.mono HB15.out.size))
    have x6c := HX6.out.cell
    have x6l := HX6.out.lt
    have y6l := HY6.out.lt
    clear hb6 G5 hno
    go_wp2_with fail
    have hgr : Below w6.heap.size w6 (w6.alloc (.cells cvz 25)) := by go_grown
    refine (eqCfg_same (.agg cvz) (.agg cvz) cf0 _ (cfgAt_zero _) (cfgAt_zero _)).mono ?_
    rintro e w7 ⟨rfl, hb7⟩
    have HB7 : Hid (Below w6.heap.size w6 w7) := hgr.trans (hb7.mono hgr.size)
    have HY7 := hid (HY6.out.below HB7.out y6l)
    have y7c := HY7.out.cell
    have HB17 := hid (HB16.out.trans (HB7.out.mono HB16.out.size))
    clear hb7 x6c hgr
    go_wp2_with fail
    refine (heldCfg_none w7).mono ?_
    rintro e w8 ⟨rfl, hb8⟩
    have HB18 := hid (HB1.out.trans ((HB17.out.trans (hb8.mono HB17.out.size)).mono HB1.out.size))
    clear hb8 y7c
    go_wp2
    go_ret
    exact ⟨rfl, HB18.out⟩
end Go.Proofs.YtoceohacplmgnaaGreatDoor
