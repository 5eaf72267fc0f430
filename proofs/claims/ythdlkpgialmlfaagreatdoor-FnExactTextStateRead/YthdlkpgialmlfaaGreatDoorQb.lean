/- Texts: what there is, as the program reads it; the law walks through. -/
import Derived.Test.YthdlkpgialmlfaaGreatDoorQa
import Derived.Test.YthdlkpgialmlfaaGreatDoorT
import Derived.Defers
import Derived.Recover
import Derived.Test.YthdlkpgialmlfaaGreatDoorLast
namespace Go.Proofs.YthdlkpgialmlfaaGreatDoor
open Go.RowKit

theorem cut_len (l : List UInt8) : (Lib.cut l [32]).2.1.length ≤ l.length := by
  rw [cut_lib]
  split
  · simp
  · simp
theorem rowsP_at {ws : List (List UInt8)} {k last : Nat} {c : St} (hk : k < ws.length) (h : rowsP 0 0 s00 (ws.take k) = some (last, c)) :
    (lineP k last c ws[k] = none → rowsP 0 0 s00 ws = none) ∧ (∀ r, lineP k last c ws[k] = some r → rowsP 0 0 s00 (ws.take (k + 1)) = some r) := by
  have hlen : (ws.take k).length = k := by rw [List.length_take]; omega
  constructor
  · intro hn
    have h1 := rowsP_append (ws.take k) (ws.drop k) 0 0 s00
    rw [List.take_append_drop, h] at h1
    simp only [hlen, Nat.zero_add] at h1
    rw [h1, List.drop_eq_getElem_cons hk, rowsP, hn]
  · intro r hr
    have h1 := rowsP_append (ws.take k) [ws[k]] 0 0 s00
    rw [← List.take_succ_eq_append_getElem hk, h] at h1
    simp only [hlen, Nat.zero_add, rowsP, hr] at h1
    exact h1

set_option maxRecDepth 100000 in
set_option maxHeartbeats 4000000 in
theorem readLines_any (t : List UInt8) (gw bx : Nat) (te : TypeId) (pe : Value) (w : World) (G : Gl (.iface te pe) w) (ht : t.length ≤ 2000000) (hgw : gw < w.heap.size) (hgb : gw ≠ bx)
    (hws : ∀ (j : Nat) (h : j < words5.length), w.cell? ⟨gw, j, none⟩ = some (str words5[j])) (hb : Blk w bx (sva (.slice none 0 0) (.slice none 0 0) (.slice none 0 0) (.slice none 0 0) s00) 36) (h9 : 9 ≤ bx) :
    Calls Tryz.prog 48 #[str t, .slice (some ⟨gw, 0, none⟩) 5 5, .func (.func 57) #[] #[.pointer (some ⟨bx, 0, none⟩)]] w fun e w' =>
      Only (fun k => k = bx) w w' ∧ ((∃ last c vp vn vw vg, t.length ≤ 4000 ∧ rowsP 0 0 s00 (cutB 10 t) = some (last, c) ∧ e = .returned (.tuple #[]) ∧ OS w' w.heap.size vp vn vw vg c ∧ Blk w' bx (sva vp vn vw vg c) 36) ∨ ((¬ t.length ≤ 4000 ∨ rowsP 0 0 s00 (cutB 10 t) = none) ∧ e = pan (.iface te pe))) := by
  have g0 := G.no
  have hbl := hb.lt
  by_cases hbig : t.length ≤ 4000
  rotate_left
  · have h1 : ¬ (t.length : Int) ≤ 4000 := by omega
    have HBIG := hid hbig
    clear hbig
    go_enter Tryz.func48, Tryz.ntmps48
    go_wp2_with fail
    refine (must_no te pe w g0).mono ?_
    rintro e w1 ⟨rfl, rfl⟩
    go_wp2
    exact ⟨rfl, Only.refl _ _, .inr ⟨.inl HBIG.out, rfl⟩⟩
  have h1 : (t.length : Int) ≤ 4000 := by omega
  have HWS := hid hws
  have HBX := hid hb
  have HCM := hid (cut_mem 10 t)
  have HCL := hid (cut_length 10 t)
  clear hws hb
  go_enter Tryz.func48, Tryz.ntmps48
  go_wp2_with fail
  refine (must_yes w).mono ?_
  rintro e w1 ⟨rfl, rfl⟩
  go_wp2_with fail
  refine (split_any t _ ht G.maxLen).mono ?_
  rintro e w2 ⟨rfl, hl2, hrows, hb2⟩
  obtain ⟨ws, hww⟩ : ∃ ws, cutB 10 t = ws := ⟨_, rfl⟩
  have HWW := hid hww
  rw [hww] at hrows ⊢
  have hcm : Hid (∀ p ∈ ws, p.length ≤ t.length) := hww ▸ HCM.out
  have hcl : ws.length ≤ t.length + 1 := hww ▸ HCL.out
  have HROWS := hid hrows
  have G2 := G.keep hb2
  have HB2 := hid hb2
  have hbx2 := HBX.out.below hb2 hbl
  have hwl2 : gw < w2.heap.size := Nat.lt_of_lt_of_le hgw hb2.size
  have hrb : w1.heap.size ≠ bx := by omega
  have hbl2 := hbx2.lt
  have hws2 : Hid (∀ (j : Nat) (h : j < words5.length), w2.cell? ⟨gw, j, none⟩ = some (str words5[j])) := fun j h => by rw [below_cell hb2 hgw]; exact HWS.out j h
  have HBX2 := hid hbx2
  have HG2 := hid G2
  clear hrows hb2 hbx2 G G2 hww HCM HCL HBX HWS
  go_wp2
  go_loopw [6, 20] (fun lv iv w' => ∃ (k last : Nat) (c : St) (vp vn vw vg : Value), lv = .int .i64 (last : Int) ∧ iv = .int .i64 (k : Int) ∧ k ≤ ws.length ∧ Hid (rowsP 0 0 s00 (ws.take k) = some (last, c)) ∧ RdC w2 bx w' vp vn vw vg c) (fun _ iv _ => ws.length - (intOf iv).toNat)
  case atStart => exact ⟨0, 0, s00, _, _, _, _, rfl, rfl, by omega, rfl, ⟨OS.nil _ _ _ rfl rfl rfl rfl, HBX2.out, Only.refl _ _⟩⟩
  case round =>
    obtain ⟨k, last, c, vp, vn, vw, vg, rfl, rfl, hk, hrp, hR⟩ := hrel
    have hlen := rowsP_len _ _ _ _ _ (by omega) hrp.out
    simp only [s00, List.length_nil, List.length_take, Nat.zero_add] at hlen
    have h0 : k = 0 → last = 0 := by
      intro e
      have := hrp.out
      rw [e] at this
      simp [rowsP] at this
      exact this.1.symm
    by_cases hkn : k < ws.length
    · have hcell : wr.cell? ⟨w1.heap.size, k, none⟩ = some (str ws[k]) := (Only.cell hR.only hl2 hrb).trans (HROWS.out k hkn)
      have hk0 : (0 : Int) ≤ (k : Int) := by omega
      have hk1 : (k : Int) < (ws.length : Int) := by omega
      have hwl : ws[k].length ≤ 4000 := by have := hcm.out _ (List.getElem_mem hkn); omega
      have hyl := cut_len ws[k]
      have HAT := hid (rowsP_at hkn hrp.out)
      have HF0 := lineP_fail (i := k) (last := last) (s := c) (row := ws[k]) h0
      have HGR := hid (gl_only HG2.out hR.only h9)
      have HR := hid hR
      have hlast := hlen.1
      have hlw : c.works.length ≤ 4000 ∧ c.groups.length ≤ 4000 ∧ c.nodes.length ≤ 4000 ∧ c.pods.length ≤ 4000 := ⟨by omega, by omega, by omega, by omega⟩
      clear hlen hR hrp
      go_wp2_with fail
      refine (cut_any' ws[k] wr (by omega) HGR.out.maxLen).mono ?_
      rintro e w4 ⟨rfl, hb4⟩
      obtain ⟨x, hx⟩ : ∃ x, (Lib.cut ws[k] [32]).1 = x := ⟨_, rfl⟩
      obtain ⟨y, hy⟩ : ∃ y, (Lib.cut ws[k] [32]).2.1 = y := ⟨_, rfl⟩
      obtain ⟨bb, hbb⟩ : ∃ bb, (Lib.cut ws[k] [32]).2.2 = bb := ⟨_, rfl⟩
      rw [hy] at hyl
      rw [hx] at HF0
      rw [hx, hy, hbb]
      have HX := hid hx
      have HY := hid hy
      have HG4 := hid (HGR.out.keep hb4)
      have HR4 := hid (HR.out.bel hb4)
      have hws4 : ∀ (j : Nat) (h : j < words5.length), w4.cell? ⟨gw, j, none⟩ = some (str words5[j]) := fun j h => (Only.cell HR4.out.only hwl2 hgb).trans (hws2.out j h)
      clear hx hy hbb hb4 hcell
      go_wp2_with fail
      refine (index_any gw 5 words5 x w4 rfl (by decide) hws4).mono ?_
      rintro e w4 ⟨rfl, rfl⟩
      have hpc := place_cases x
      obtain ⟨pl, hpl⟩ : ∃ pl, idxB words5 x = pl := ⟨_, rfl⟩
      rw [hpl] at hpc HF0 ⊢
      have HF := hid HF0
      have g4 := HG4.out.no
      clear HF0 hpl hws4
      by_cases hge : (last : Int) ≤ pl
      rotate_left
      · have HNO : Hid (rowsP 0 0 s00 ws = none) := HAT.out.1 (HF.out (fun h => hge h.1))
        clear hpc
        go_wp2_with fail
        refine (must_no te pe w4 g4).mono ?_
        rintro e w9 ⟨rfl, rfl⟩
        go_wp2
        exact ⟨rfl, (Only.of_below HB2.out).into HR4.out.only (fun k _ e => e), .inr ⟨.inr (by first | exact HNO.out | (rw [HWW.out]; exact HNO.out)), rfl⟩⟩
      by_cases hz0 : pl = 0
      · have hz : (pl == 0) = true := by simp [hz0]
        by_cases hkz : k = 0
        rotate_left
        · have hkb : ((k : Int) == 0) = false := by simp [hkz]
          have HNO : Hid (rowsP 0 0 s00 ws = none) := HAT.out.1 (HF.out (fun h => hkz (h.2.1 hz0)))
          clear hpc hz0 hkz
          go_wp2_with fail
          refine (must_no te pe w4 g4).mono ?_
          rintro e w9 ⟨rfl, rfl⟩
          go_wp2
          exact ⟨rfl, (Only.of_below HB2.out).into HR4.out.only (fun k _ e => e), .inr ⟨.inr (by first | exact HNO.out | (rw [HWW.out]; exact HNO.out)), rfl⟩⟩
        · have hkb : ((k : Int) == 0) = true := by simp [hkz]
          have hxw : x = wState := by
            rcases hpc with ⟨h5, _⟩ | ⟨h5, _⟩ | ⟨_, h5⟩ | ⟨_, h5⟩ | ⟨_, h5⟩ | ⟨_, h5⟩
            · omega
            · exact h5
            · omega
            · omega
            · omega
            · omega
          have HKZ := hid hkz
          have HZ0 := hid hz0
          clear hpc hkz hz0
          subst hxw
          have HLP := hid ((lineP_head (last := last) (s := c) HKZ.out HX.out).trans (by rw [HY.out]) : lineP k last c ws[k] = _)
          go_wp2_with fail
          refine (must_yes w4).mono ?_
          rintro e w5 ⟨rfl, rfl⟩
          go_wp2_with fail
          refine (lineOf_head bx w5).mono ?_
          rintro e w6 ⟨rfl, rfl⟩
          go_wp2_with fail
          refine (readNumbers_any y te pe w6 HG4.out (fState bx 0 w6) HR4.out.box h9 (by intro o ho; simp at ho; simp; omega) (by simp) (by simp) (by omega)).mono ?_
          rintro e w7 ⟨hg7, hres⟩
          have hon7 : Hid (Only (fun k => k = bx) w2 w7) := HR4.out.only.trans (only_grown hg7 rfl)
          rcases hres with ⟨ns, hns, rfl, hB7⟩ | ⟨hno, rfl⟩
          · obtain ⟨x0, x1, rfl⟩ := two_of ((readB_iff (by simp)).1 hns).1
            have HRN := hid (HR4.out.head hbl2 hg7 hB7)
            have hpl2 : Hid (lineP k last c ws[k] = some (0, { c with nextPod := x0, nextNode := x1 })) := by
              rw [Hid, HLP.out]
              have h5 : readB y 2 = some [x0, x1] := hns
              rw [h5]
              rfl
            clear hB7 hns hg7
            go_wp2
            refine ⟨⟨k + 1, 0, _, _, _, _, _, by rw [HZ0.out]; rfl, by simp, by omega, HAT.out.2 _ hpl2.out, HRN.out⟩, ?_⟩
            simp [intOf]
            omega
          · have HNO : Hid (rowsP 0 0 s00 ws = none) := HAT.out.1 (by
              rw [HLP.out]
              have h5 : readB y 2 = none := hno
              rw [h5])
            clear hno hg7
            go_wp2
            exact ⟨rfl, (Only.of_below HB2.out).into hon7.out (fun k _ e => e), .inr ⟨.inr (by first | exact HNO.out | (rw [HWW.out]; exact HNO.out)), rfl⟩⟩
      · have hz : (pl == 0) = false := by simp [hz0]
        by_cases hkz : k = 0
        · have hkb : ((k : Int) == 0) = true := by simp [hkz]
          have HNO : Hid (rowsP 0 0 s00 ws = none) := HAT.out.1 (HF.out (fun h => hz0 (h.2.2 hkz)))
          clear hpc hz0 hkz
          go_wp2_with fail
          refine (must_no te pe w4 g4).mono ?_
          rintro e w9 ⟨rfl, rfl⟩
          go_wp2
          exact ⟨rfl, (Only.of_below HB2.out).into HR4.out.only (fun k _ e => e), .inr ⟨.inr (by first | exact HNO.out | (rw [HWW.out]; exact HNO.out)), rfl⟩⟩
        · have hkb : ((k : Int) == 0) = false := by simp [hkz]
          rcases hpc with ⟨h5, _⟩ | ⟨_, h5⟩ | ⟨hxw, hpw⟩ | ⟨hxw, hpw⟩ | ⟨hxw, hpw⟩ | ⟨hxw, hpw⟩
          · exact absurd h5 (by omega)
          · exact absurd h5 hz0
          · subst hxw
            have hl1 : last ≤ 1 := by omega
            clear hz0
            have HLP := hid ((lineP_work hkz hl1 HX.out).trans (by rw [HY.out]) : lineP k last c ws[k] = _)
            have HFI : Hid (pl = 1) := hpw
            clear hpw
            go_wp2_with fail
            refine (must_yes w4).mono ?_
            rintro e w5 ⟨rfl, rfl⟩
            go_wp2_with fail
            refine (lineOf_work vw c.works w2.heap.size bx 36 (sva vp vn vw vg c) w5 (HR4.out.only.size) HR4.out.oc.W (by omega) HR4.out.box rfl (fun e => by have := (HR4.out.oc.W.lt bx e).1; omega)).mono ?_
            rintro e w6 ⟨g, cp, rfl, hq⟩
            obtain ⟨cur, hcur, hcz, hfill⟩ := hq.own.fill
            have hgb : w2.heap.size ≤ g := (hq.own.lt g rfl).1
            have HQ := hid hq
            have HCUR := hid hcur
            have HFILL := hid hfill
            have G6 : Gl (.iface te pe) w6 := gl_only HG2.out (HR4.out.only.into hq.only (fun k hk e => by
              rcases e with e | e
              · exact absurd (HR4.out.oc.W.lt k e).1 (by omega)
              · exact e)) h9
            clear hq hcur hfill
            go_wp2_with fail
            refine (readNumbers_any y te pe w6 G6 (fWorks g (c.works.length * 3) w6) HCUR.out (by omega) (by intro o ho; simp at ho; omega) (by simp) (by simp) (by omega)).mono ?_
            rintro e w7 ⟨hg7, hres⟩
            have HW := hid (HR4.out.work (x0 := workSL []) (x := workSL []) hbl2 HQ.out hg7)
            rcases hres with ⟨ns, hns, rfl, hB7⟩ | ⟨hno, rfl⟩
            · have hnl := ((readB_iff (by simp)).1 hns).1
              have hrow : rowOf 3 Ws.cell (workSL ns) = ns.map (Value.int .i64) := by
                obtain ⟨x0, x1, x2, rfl⟩ := three_of hnl
                rfl
              have HN := hid (HFILL.out ns (workSL ns) w7 hnl hrow hB7)
              have HRN := hid ((HR4.out.work (x0 := workSL []) (x := workSL ns) hbl2 HQ.out hg7).2.2 HN.out)
              have hpl2 : Hid (lineP k last c ws[k] = some (1, { c with works := c.works ++ [workSL ns] })) := by
                rw [Hid, HLP.out]
                have h5 : readB y 3 = some ns := hns
                rw [h5]
              clear hB7 hns hrow hg7
              go_wp2
              refine ⟨⟨k + 1, 1, _, _, _, _, _, by rw [HFI.out]; rfl, by simp, by omega, HAT.out.2 _ hpl2.out, HRN.out⟩, ?_⟩
              simp [intOf]
              omega
            · have HNO : Hid (rowsP 0 0 s00 ws = none) := HAT.out.1 (by
                rw [HLP.out]
                have h5 : readB y 3 = none := hno
                rw [h5])
              clear hno hg7
              go_wp2
              exact ⟨rfl, (Only.of_below HB2.out).into HW.out.2.1 (fun k _ e => e), .inr ⟨.inr (by first | exact HNO.out | (rw [HWW.out]; exact HNO.out)), rfl⟩⟩
          · subst hxw
            have hl1 : last ≤ 2 := by omega
            clear hz0
            have HLP := hid ((lineP_group hkz hl1 HX.out).trans (by rw [HY.out]) : lineP k last c ws[k] = _)
            have HFI : Hid (pl = 2) := hpw
            clear hpw
            go_wp2_with fail
            refine (must_yes w4).mono ?_
            rintro e w5 ⟨rfl, rfl⟩
            go_wp2_with fail
            refine (lineOf_group vg c.groups w2.heap.size bx 36 (sva vp vn vw vg c) w5 (HR4.out.only.size) HR4.out.oc.G (by omega) HR4.out.box rfl (fun e => by have := (HR4.out.oc.G.lt bx e).1; omega)).mono ?_
            rintro e w6 ⟨g, cp, rfl, hq⟩
            obtain ⟨cur, hcur, hcz, hfill⟩ := hq.own.fill
            have hgb : w2.heap.size ≤ g := (hq.own.lt g rfl).1
            have HQ := hid hq
            have HCUR := hid hcur
            have HFILL := hid hfill
            have G6 : Gl (.iface te pe) w6 := gl_only HG2.out (HR4.out.only.into hq.only (fun k hk e => by
              rcases e with e | e
              · exact absurd (HR4.out.oc.G.lt k e).1 (by omega)
              · exact e)) h9
            clear hq hcur hfill
            go_wp2_with fail
            refine (readNumbers_any y te pe w6 G6 (fGroups g (c.groups.length * 3) w6) HCUR.out (by omega) (by intro o ho; simp at ho; omega) (by simp) (by simp) (by omega)).mono ?_
            rintro e w7 ⟨hg7, hres⟩
            have HW := hid (HR4.out.group (x0 := groupSL []) (x := groupSL []) hbl2 HQ.out hg7)
            rcases hres with ⟨ns, hns, rfl, hB7⟩ | ⟨hno, rfl⟩
            · have hnl := ((readB_iff (by simp)).1 hns).1
              have hrow : rowOf 3 Gs.cell (groupSL ns) = ns.map (Value.int .i64) := by
                obtain ⟨x0, x1, x2, rfl⟩ := three_of hnl
                rfl
              have HN := hid (HFILL.out ns (groupSL ns) w7 hnl hrow hB7)
              have HRN := hid ((HR4.out.group (x0 := groupSL []) (x := groupSL ns) hbl2 HQ.out hg7).2.2 HN.out)
              have hpl2 : Hid (lineP k last c ws[k] = some (2, { c with groups := c.groups ++ [groupSL ns] })) := by
                rw [Hid, HLP.out]
                have h5 : readB y 3 = some ns := hns
                rw [h5]
              clear hB7 hns hrow hg7
              go_wp2
              refine ⟨⟨k + 1, 2, _, _, _, _, _, by rw [HFI.out]; rfl, by simp, by omega, HAT.out.2 _ hpl2.out, HRN.out⟩, ?_⟩
              simp [intOf]
              omega
            · have HNO : Hid (rowsP 0 0 s00 ws = none) := HAT.out.1 (by
                rw [HLP.out]
                have h5 : readB y 3 = none := hno
                rw [h5])
              clear hno hg7
              go_wp2
              exact ⟨rfl, (Only.of_below HB2.out).into HW.out.2.1 (fun k _ e => e), .inr ⟨.inr (by first | exact HNO.out | (rw [HWW.out]; exact HNO.out)), rfl⟩⟩
          · subst hxw
            have hl1 : last ≤ 3 := by omega
            clear hz0
            have HLP := hid ((lineP_node hkz hl1 HX.out).trans (by rw [HY.out]) : lineP k last c ws[k] = _)
            have HFI : Hid (pl = 3) := hpw
            clear hpw
            go_wp2_with fail
            refine (must_yes w4).mono ?_
            rintro e w5 ⟨rfl, rfl⟩
            go_wp2_with fail
            refine (lineOf_node vn c.nodes w2.heap.size bx 36 (sva vp vn vw vg c) w5 (HR4.out.only.size) HR4.out.oc.N (by omega) HR4.out.box rfl (fun e => by have := (HR4.out.oc.N.lt bx e).1; omega)).mono ?_
            rintro e w6 ⟨g, cp, rfl, hq⟩
            obtain ⟨cur, hcur, hcz, hfill⟩ := hq.own.fill
            have hgb : w2.heap.size ≤ g := (hq.own.lt g rfl).1
            have HQ := hid hq
            have HCUR := hid hcur
            have HFILL := hid hfill
            have G6 : Gl (.iface te pe) w6 := gl_only HG2.out (HR4.out.only.into hq.only (fun k hk e => by
              rcases e with e | e
              · exact absurd (HR4.out.oc.N.lt k e).1 (by omega)
              · exact e)) h9
            clear hq hcur hfill
            go_wp2_with fail
            refine (readNumbers_any y te pe w6 G6 (fNodes g (c.nodes.length * 4) w6) HCUR.out (by omega) (by intro o ho; simp at ho; omega) (by simp) (by simp) (by omega)).mono ?_
            rintro e w7 ⟨hg7, hres⟩
            have HW := hid (HR4.out.node (x0 := nodeSL []) (x := nodeSL []) hbl2 HQ.out hg7)
            rcases hres with ⟨ns, hns, rfl, hB7⟩ | ⟨hno, rfl⟩
            · have hnl := ((readB_iff (by simp)).1 hns).1
              have hrow : rowOf 4 Nd.cell (nodeSL ns) = ns.map (Value.int .i64) := by
                obtain ⟨x0, x1, x2, x3, rfl⟩ := four_of hnl
                rfl
              have HN := hid (HFILL.out ns (nodeSL ns) w7 hnl hrow hB7)
              have HRN := hid ((HR4.out.node (x0 := nodeSL []) (x := nodeSL ns) hbl2 HQ.out hg7).2.2 HN.out)
              have hpl2 : Hid (lineP k last c ws[k] = some (3, { c with nodes := c.nodes ++ [nodeSL ns] })) := by
                rw [Hid, HLP.out]
                have h5 : readB y 4 = some ns := hns
                rw [h5]
              clear hB7 hns hrow hg7
              go_wp2
              refine ⟨⟨k + 1, 3, _, _, _, _, _, by rw [HFI.out]; rfl, by simp, by omega, HAT.out.2 _ hpl2.out, HRN.out⟩, ?_⟩
              simp [intOf]
              omega
            · have HNO : Hid (rowsP 0 0 s00 ws = none) := HAT.out.1 (by
                rw [HLP.out]
                have h5 : readB y 4 = none := hno
                rw [h5])
              clear hno hg7
              go_wp2
              exact ⟨rfl, (Only.of_below HB2.out).into HW.out.2.1 (fun k _ e => e), .inr ⟨.inr (by first | exact HNO.out | (rw [HWW.out]; exact HNO.out)), rfl⟩⟩
          · subst hxw
            have hl1 : last ≤ 4 := by omega
            clear hz0
            have HLP := hid ((lineP_pod hkz hl1 HX.out).trans (by rw [HY.out]) : lineP k last c ws[k] = _)
            have HFI : Hid (pl = 4) := hpw
            clear hpw
            go_wp2_with fail
            refine (must_yes w4).mono ?_
            rintro e w5 ⟨rfl, rfl⟩
            go_wp2_with fail
            refine (lineOf_pod vp c.pods w2.heap.size bx 36 (sva vp vn vw vg c) w5 (HR4.out.only.size) HR4.out.oc.P (by omega) HR4.out.box rfl (fun e => by have := (HR4.out.oc.P.lt bx e).1; omega)).mono ?_
            rintro e w6 ⟨g, cp, rfl, hq⟩
            obtain ⟨cur, hcur, hcz, hfill⟩ := hq.own.fill
            have hgb : w2.heap.size ≤ g := (hq.own.lt g rfl).1
            have HQ := hid hq
            have HCUR := hid hcur
            have HFILL := hid hfill
            have G6 : Gl (.iface te pe) w6 := gl_only HG2.out (HR4.out.only.into hq.only (fun k hk e => by
              rcases e with e | e
              · exact absurd (HR4.out.oc.P.lt k e).1 (by omega)
              · exact e)) h9
            clear hq hcur hfill
            go_wp2_with fail
            refine (readNumbers_any y te pe w6 G6 (fPods g (c.pods.length * 5) w6) HCUR.out (by omega) (by intro o ho; simp at ho; omega) (by simp) (by simp) (by omega)).mono ?_
            rintro e w7 ⟨hg7, hres⟩
            have HW := hid (HR4.out.pod (x0 := podSL []) (x := podSL []) hbl2 HQ.out hg7)
            rcases hres with ⟨ns, hns, rfl, hB7⟩ | ⟨hno, rfl⟩
            · have hnl := ((readB_iff (by simp)).1 hns).1
              have hrow : rowOf 5 Pd.cell (podSL ns) = ns.map (Value.int .i64) := by
                obtain ⟨x0, x1, x2, x3, x4, rfl⟩ := five_of hnl
                rfl
              have HN := hid (HFILL.out ns (podSL ns) w7 hnl hrow hB7)
              have HRN := hid ((HR4.out.pod (x0 := podSL []) (x := podSL ns) hbl2 HQ.out hg7).2.2 HN.out)
              have hpl2 : Hid (lineP k last c ws[k] = some (4, { c with pods := c.pods ++ [podSL ns] })) := by
                rw [Hid, HLP.out]
                have h5 : readB y 5 = some ns := hns
                rw [h5]
              clear hB7 hns hrow hg7
              go_wp2
              refine ⟨⟨k + 1, 4, _, _, _, _, _, by rw [HFI.out]; rfl, by simp, by omega, HAT.out.2 _ hpl2.out, HRN.out⟩, ?_⟩
              simp [intOf]
              omega
            · have HNO : Hid (rowsP 0 0 s00 ws = none) := HAT.out.1 (by
                rw [HLP.out]
                have h5 : readB y 5 = none := hno
                rw [h5])
              clear hno hg7
              go_wp2
              exact ⟨rfl, (Only.of_below HB2.out).into HW.out.2.1 (fun k _ e => e), .inr ⟨.inr (by first | exact HNO.out | (rw [HWW.out]; exact HNO.out)), rfl⟩⟩
    · have hk2 : ¬ (k : Int) < (ws.length : Int) := by omega
      have hend : Hid (rowsP 0 0 s00 ws = some (last, c)) := by
        have := hrp.out
        rwa [List.take_of_length_le (by omega)] at this
      have HR := hid hR
      clear hR hrp
      go_wp2
      go_end0
      exact ⟨(Only.of_below HB2.out).into HR.out.only (fun k _ e => e), .inl ⟨last, c, (by first | exact hend.out | (rw [HWW.out]; exact hend.out)), rfl, vp, vn, vw, vg, HR.out.oc.base HB2.out.size, HR.out.box⟩⟩

set_option maxRecDepth 100000 in
set_option maxHeartbeats 4000000 in
theorem readState_any (t : List UInt8) (te : TypeId) (pe : Value) (w : World) (G : Gl (.iface te pe) w) (ht : t.length ≤ 2000000) :
    Calls Tryz.prog 31 #[str t] w fun e w' => ((∃ c vp vn vw vg, progR t = some c ∧ OS w' w.heap.size vp vn vw vg c ∧ e = .returned (svl vp vn vw vg c)) ∨ (progR t = none ∧ e = pan (.iface te pe))) ∧ Below w.heap.size w w' := by
  have hmf : ∀ (fn : Fn) (first cap : Array Value) (w : World), (Instr.makeFunc fn first cap).run Tryz.prog w = .ok (.func fn first cap) w := fun _ _ _ _ => rfl
  have h9 := G.big
  have HG := hid G
  clear G
  go_enter Tryz.func31, Tryz.ntmps31
  go_wp2_with fail
  obtain ⟨w1, hw1⟩ : ∃ w1, ((w.alloc (.cells #[.slice none 0 0, .slice none 0 0, .slice none 0 0, .slice none 0 0, .int .i64 0, .int .i64 0] 36)).alloc (.cells #[.slice none 0 0, .slice none 0 0, .slice none 0 0, .slice none 0 0, .int .i64 0, .int .i64 0] 36)).alloc (.cells #[.string { data := #[115, 116, 97, 116, 101] }, .string { data := #[119, 111, 114, 107] }, .string { data := #[103, 114, 111, 117, 112] }, .string { data := #[110, 111, 100, 101] }, .string { data := #[112, 111, 100] }] 101) = w1 := ⟨_, rfl⟩
  have hb1 : Below w.heap.size w w1 := by rw [← hw1]; go_grown
  have hr1 : Blk w1 w.heap.size svz 36 := hw1 ▸ ((Blk.new w _ _).alloc _).alloc _
  have hx1 : Blk w1 (w.heap.size + 1) (sva (.slice none 0 0) (.slice none 0 0) (.slice none 0 0) (.slice none 0 0) s00) 36 := by
    rw [← hw1]
    have := (Blk.new (w.alloc (.cells #[.slice none 0 0, .slice none 0 0, .slice none 0 0, .slice none 0 0, .int .i64 0, .int .i64 0] 36)) #[.slice none 0 0, .slice none 0 0, .slice none 0 0, .slice none 0 0, .int .i64 0, .int .i64 0] 36).alloc (.cells #[.string { data := #[115, 116, 97, 116, 101] }, .string { data := #[119, 111, 114, 107] }, .string { data := #[103, 114, 111, 117, 112] }, .string { data := #[110, 111, 100, 101] }, .string { data := #[112, 111, 100] }] 101)
    rw [show (w.alloc (.cells #[.slice none 0 0, .slice none 0 0, .slice none 0 0, .slice none 0 0, .int .i64 0, .int .i64 0] 36)).heap.size = w.heap.size + 1 by simp] at this
    exact this
  have hd1 : Blk w1 (w.heap.size + 1 + 1) #[str wState, str wWork, str wGroup, str wNode, str wPod] 101 := by
    rw [← hw1]
    have := Blk.new ((w.alloc (.cells #[.slice none 0 0, .slice none 0 0, .slice none 0 0, .slice none 0 0, .int .i64 0, .int .i64 0] 36)).alloc (.cells #[.slice none 0 0, .slice none 0 0, .slice none 0 0, .slice none 0 0, .int .i64 0, .int .i64 0] 36)) (#[.string { data := #[115, 116, 97, 116, 101] }, .string { data := #[119, 111, 114, 107] }, .string { data := #[103, 114, 111, 117, 112] }, .string { data := #[110, 111, 100, 101] }, .string { data := #[112, 111, 100] }]) 101
    simpa using this
  rw [hw1]
  have HB1 := hid hb1
  have HR1 := hid hr1
  have hl1 := hd1.lt
  refine (readLines_any t (w.heap.size + 1 + 1) (w.heap.size + 1) te pe w1 (HG.out.keep hb1) ht hd1.lt (by omega) (fun j h => by
    rw [hd1.cell]
    match j, h with
    | 0, _ => rfl
    | 1, _ => rfl
    | 2, _ => rfl
    | 3, _ => rfl
    | 4, _ => rfl) hx1 (by omega)).mono ?_
  clear hw1 hr1 hd1
  rintro e w2 ⟨hon, hres⟩
  have HB2 := hid (Only.below hb1 hon hb1.size (fun k hk e => by omega))
  have HR2 := hid (HR1.out.only hon (by omega))
  clear hb1 hx1
  rcases hres with ⟨last, c, vp, vn, vw, vg, hl, hrp, rfl, hoc, hbx⟩ | ⟨hno, rfl⟩
  · obtain ⟨ap, cp0, rfl, -⟩ := hoc.P.form
    obtain ⟨an, cn0, rfl, -⟩ := hoc.N.form
    obtain ⟨aw, cw0, rfl, -⟩ := hoc.W.form
    obtain ⟨ag, cg0, rfl, -⟩ := hoc.G.form
    have HYES : Hid (progR t = some c) := by rw [Hid, progR, if_pos hl, hrp]
    have HOC := hid hoc
    have xc := hbx.cell
    have xl := hbx.lt
    have rc := HR2.out.cell
    have rf := HR2.out.frozen
    have rl := HR2.out.lt
    clear hrp hoc hbx hon hl
    go_wp2
    refine bodyPost_ret (v := svl (.slice ap c.pods.length cp0) (.slice an c.nodes.length cn0) (.slice aw c.works.length cw0) (.slice ag c.groups.length cg0) c) (by simp [results, Tryz.results31, go_sem, *]) rfl ⟨.inl ⟨c, _, _, _, _, HYES.out, ?_, rfl⟩, bel_set6 HB2.out (Nat.le_refl _) _ _ _ _ _ _⟩
    exact (HOC.out.farB (b := w.heap.size) (by omega) _ _ _ _ _ _).base HB1.out.size
  · have HNO : Hid (progR t = none) := by
      rw [Hid, progR]
      rcases hno with h | h
      · rw [if_neg h]
      · rw [h]; simp
    clear hno hon
    go_wp2
    exact ⟨rfl, .inr ⟨HNO.out, rfl⟩, HB2.out⟩

theorem catch_panicking (p : Addr) (b : Bool) (te : TypeId) (pe : Value) (older : List PanicEntry) (w : World) (hc : w.cell? p = some (.bool b)) (hz : w.frozen? p = false) :
    CallsD Tryz.prog 56 #[.pointer (some p)] (.panicking ({ v := .iface te pe, recovered := false } :: older)) w fun e u' w' =>
      e = .returned (.tuple #[]) ∧ u' = .panicking ({ v := .iface te pe, recovered := true } :: older) ∧ w' = w.setCell p (.bool false) := by
  refine callsD_of_wpS Tryz.func56 rfl fun c₀ cs hu => ?_
  apply wpS_region
  simp [wpOpsS, go_sem, recoverD, hu, Tryz.ntmps56, hc, hz, bodyPostS, results, Tryz.results56]
theorem catch_idle (p : Addr) (b : Bool) (w : World) (hc : w.cell? p = some (.bool b)) (hz : w.frozen? p = false) :
    CallsD Tryz.prog 56 #[.pointer (some p)] .returning w fun e u' w' => e = .returned (.tuple #[]) ∧ u' = .returning ∧ w' = w.setCell p (.bool true) := by
  refine callsD_of_wpS Tryz.func56 rfl fun c₀ cs hu => ?_
  apply wpS_region
  simp [wpOpsS, go_sem, recoverD, hu, Tryz.ntmps56, hc, hz, bodyPostS, results, Tryz.results56]
  cases c₀
  simp_all
theorem Blk.set6 {w : World} {b : Nat} {T : TypeId} {z0 z1 z2 z3 z4 z5 : Value} (h : Blk w b #[z0, z1, z2, z3, z4, z5] T) (u0 u1 u2 u3 u4 u5 : Value) : Blk ((((((w.setCell ⟨b, 0, none⟩ u0).setCell ⟨b, 1, none⟩ u1).setCell ⟨b, 2, none⟩ u2).setCell ⟨b, 3, none⟩ u3).setCell ⟨b, 4, none⟩ u4).setCell ⟨b, 5, none⟩ u5) b #[u0, u1, u2, u3, u4, u5] T :=
  (((((h.set 0 u0).set 1 u1).set 2 u2).set 3 u3).set 4 u4).set 5 u5
theorem Blk.far6 {w : World} {a b : Nat} {T : TypeId} {cs : Array Value} (h : Blk w a cs T) (hne : a ≠ b) (u0 u1 u2 u3 u4 u5 : Value) : Blk ((((((w.setCell ⟨b, 0, none⟩ u0).setCell ⟨b, 1, none⟩ u1).setCell ⟨b, 2, none⟩ u2).setCell ⟨b, 3, none⟩ u3).setCell ⟨b, 4, none⟩ u4).setCell ⟨b, 5, none⟩ u5) a cs T :=
  (((((h.far (p := ⟨b, 0, none⟩) hne u0).far (p := ⟨b, 1, none⟩) hne u1).far (p := ⟨b, 2, none⟩) hne u2).far (p := ⟨b, 3, none⟩) hne u3).far (p := ⟨b, 4, none⟩) hne u4).far (p := ⟨b, 5, none⟩) hne u5

set_option maxRecDepth 100000 in
set_option maxHeartbeats 2000000 in
theorem readOrNothing_any (t : List UInt8) (te : TypeId) (pe : Value) (w : World) (G : Gl (.iface te pe) w) (ht : t.length ≤ 2000000) :
    Calls Tryz.prog 30 #[str t, .func (.func 31) #[] #[]] w fun e w' => ((∃ c vp vn vw vg, progR t = some c ∧ OS w' w.heap.size vp vn vw vg c ∧ e = .returned (.tuple #[svl vp vn vw vg c, .bool true])) ∨ (progR t = none ∧ e = .returned (.tuple #[.agg svz, .bool false]))) ∧ Below w.heap.size w w' := by
  have hmf : ∀ (fn : Fn) (first cap : Array Value) (w : World), (Instr.makeFunc fn first cap).run Tryz.prog w = .ok (.func fn first cap) w := fun _ _ _ _ => rfl
  go_enter_defers Tryz.func30, Tryz.ntmps30
  go_wp2_with fail
  refine (readState_any t te pe _ (G.keep (by go_grown)) ht).mono ?_
  rintro e w1 ⟨hres, hb1⟩
  have X : Blk w1 w.heap.size svz 36 := ((Blk.new w _ _).alloc _).below hb1 (by simp; omega)
  have Y : Blk w1 (w.heap.size + 1) #[.bool false] 4 := by
    have := (Blk.new (w.alloc (.cells svz 36)) #[.bool false] 4)
    rw [show (w.alloc (.cells svz 36)).heap.size = w.heap.size + 1 by simp] at this
    exact this.below hb1 (by simp)
  have HB : Hid (Below w.heap.size w w1) := Below.trans (by go_grown) (hb1.mono (by simp; omega))
  have x1 := X.cell
  have x2 := X.frozen
  have x3 := X.lt
  have y1 := Y.cell
  have y2 := Y.frozen
  have y3 := Y.lt
  clear hb1 G
  rcases hres with ⟨c, vp, vn, vw, vg, hev, hoc, rfl⟩ | ⟨hno, rfl⟩
  · obtain ⟨ap, cp0, rfl, -⟩ := hoc.P.form
    obtain ⟨an, cn0, rfl, -⟩ := hoc.N.form
    obtain ⟨aw, cw0, rfl, -⟩ := hoc.W.form
    obtain ⟨ag, cg0, rfl, -⟩ := hoc.G.form
    have hoc := hoc.base (B' := w.heap.size + 2) (by simp)
    have HEV := hid hev
    have HOC := hid hoc
    clear hev hoc
    go_wp2
    generalize hV : ((((((w1.setCell ⟨w.heap.size, 0, none⟩ (.slice ap c.pods.length cp0)).setCell ⟨w.heap.size, 1, none⟩ (.slice an c.nodes.length cn0)).setCell ⟨w.heap.size, 2, none⟩ (.slice aw c.works.length cw0)).setCell ⟨w.heap.size, 3, none⟩ (.slice ag c.groups.length cg0)).setCell ⟨w.heap.size, 4, none⟩ (.int .i64 c.nextPod)).setCell ⟨w.heap.size, 5, none⟩ (.int .i64 c.nextNode)).setCell ⟨w.heap.size + 1, 0, none⟩ (.bool true) = V
    have X2 : Blk V w.heap.size (sva (.slice ap c.pods.length cp0) (.slice an c.nodes.length cn0) (.slice aw c.works.length cw0) (.slice ag c.groups.length cg0) c) 36 := by rw [← hV]; exact (X.set6 _ _ _ _ _ _).far (by simp) _
    have Y2 : Blk V (w.heap.size + 1) #[.bool true] 4 := by rw [← hV]; exact (Y.far6 (by omega) _ _ _ _ _ _).set 0 _
    have O2 : OS V (w.heap.size + 2) (.slice ap c.pods.length cp0) (.slice an c.nodes.length cn0) (.slice aw c.works.length cw0) (.slice ag c.groups.length cg0) c := by rw [← hV]; exact (HOC.out.farB (by omega) _ _ _ _ _ _).far1 (by omega) _
    have B2 : Below w.heap.size w V := by rw [← hV]; exact (bel_set6 HB.out (Nat.le_refl _) _ _ _ _ _ _).setCell (p := ⟨w.heap.size + 1, 0, none⟩) (by simp) _
    clear hV x1 x2 x3 y1 y2 y3 X Y HB HOC
    refine leaves_cons (f := 56) (args := #[.pointer (some ⟨w.heap.size + 1, 0, none⟩)]) (by simp) (by simp [go_sem]) ?_
    refine (catch_idle ⟨w.heap.size + 1, 0, none⟩ true _ (by rw [Y2.cell]; rfl) (Y2.frozen 0)).mono ?_
    rintro e u' w'' ⟨rfl, rfl, rfl⟩
    generalize hV2 : V.setCell ⟨w.heap.size + 1, 0, none⟩ (.bool true) = V2
    have X3 : Blk V2 w.heap.size (sva (.slice ap c.pods.length cp0) (.slice an c.nodes.length cn0) (.slice aw c.works.length cw0) (.slice ag c.groups.length cg0) c) 36 := by rw [← hV2]; exact X2.far (by simp) _
    have Y3 : Blk V2 (w.heap.size + 1) #[.bool true] 4 := by rw [← hV2]; exact Y2.set 0 _
    have O3 : OS V2 (w.heap.size + 2) (.slice ap c.pods.length cp0) (.slice an c.nodes.length cn0) (.slice aw c.works.length cw0) (.slice ag c.groups.length cg0) c := by rw [← hV2]; exact O2.far1 (by omega) _
    have B3 : Below w.heap.size w V2 := by rw [← hV2]; exact B2.setCell (p := ⟨w.heap.size + 1, 0, none⟩) (by simp) _
    have x0 := X3.cell
    have y0 := Y3.cell
    have HO3 := hid (O3.base (B' := w.heap.size) (by omega))
    have HB3 := hid B3
    clear hV2 X2 Y2 B2 X3 Y3 O2 O3 B3
    simp [Leaves, settle, results, Tryz.results30, go_sem, x0, y0]
    exact ⟨⟨c, HEV.out, _, _, _, _, HO3.out, rfl, rfl, rfl, rfl, rfl, rfl⟩, HB3.out⟩
  · have HNO := hid hno
    clear hno
    go_wp2
    refine leaves_cons (f := 56) (args := #[.pointer (some ⟨w.heap.size + 1, 0, none⟩)]) (by simp) (by simp [go_sem]) ?_
    refine (catch_panicking ⟨w.heap.size + 1, 0, none⟩ false te pe [] _ (by rw [Y.cell]; rfl) (Y.frozen 0)).mono ?_
    rintro e u' w'' ⟨rfl, rfl, rfl⟩
    generalize hV2 : w1.setCell ⟨w.heap.size + 1, 0, none⟩ (.bool false) = V2
    have X3 : Blk V2 w.heap.size svz 36 := by rw [← hV2]; exact X.far (by simp) _
    have Y3 : Blk V2 (w.heap.size + 1) #[.bool false] 4 := by rw [← hV2]; exact Y.set 0 _
    have B3 : Below w.heap.size w V2 := by rw [← hV2]; exact HB.out.setCell (p := ⟨w.heap.size + 1, 0, none⟩) (by simp) _
    have x0 := X3.cell
    have y0 := Y3.cell
    clear hV2 X Y HB
    simp [Leaves, settle, results, Tryz.results30, go_sem, x0, y0]
    exact ⟨HNO.out, B3⟩

set_option maxRecDepth 100000 in
set_option maxHeartbeats 1000000 in
/-- The program's TextStateRead: what it tells lies in memory of its own. -/
theorem textStateRead_any (t : List UInt8) (te : TypeId) (pe : Value) (w : World) (G : Gl (.iface te pe) w) (ht : t.length ≤ 2000000) :
    Calls Tryz.prog 11 #[str t] w fun e w' => ((∃ c vp vn vw vg, stateR t = some c ∧ OS w' w.heap.size vp vn vw vg c ∧ e = .returned (.tuple #[svl vp vn vw vg c, .bool true])) ∨ (stateR t = none ∧ e = .returned (.tuple #[.agg svz, .bool false]))) ∧ Below w.heap.size w w' := by
  go_enter Tryz.func11, Tryz.ntmps11
  go_wp2_with fail
  refine (readOrNothing_any t te pe _ (G.keep (by go_grown)) ht).mono ?_
  rintro e w1 ⟨hres, hb1⟩
  have X : Blk w1 w.heap.size svz 36 := (Blk.new w _ _).below hb1 (by simp)
  have HB : Hid (Below w.heap.size w w1) := Below.trans (by go_grown) (hb1.mono (by simp))
  have x1 := X.cell
  have x2 := X.frozen
  have x3 := X.lt
  clear hb1 G
  rw [progR_eq] at hres
  rcases hres with ⟨c, vp, vn, vw, vg, hev, hoc, rfl⟩ | ⟨hno, rfl⟩
  · obtain ⟨ap, cp0, rfl, -⟩ := hoc.P.form
    obtain ⟨an, cn0, rfl, -⟩ := hoc.N.form
    obtain ⟨aw, cw0, rfl, -⟩ := hoc.W.form
    obtain ⟨ag, cg0, rfl, -⟩ := hoc.G.form
    have hoc := hoc.base (B' := w.heap.size + 1) (by simp)
    have HEV := hid hev
    have HOC := hid hoc
    clear hev hoc
    go_wp2
    refine bodyPost_ret (v := .tuple #[svl (.slice ap c.pods.length cp0) (.slice an c.nodes.length cn0) (.slice aw c.works.length cw0) (.slice ag c.groups.length cg0) c, .bool true]) (by simp [results, Tryz.results11, go_sem, *]) rfl ⟨.inl ⟨c, _, _, _, _, HEV.out, (HOC.out.farB (by omega) _ _ _ _ _ _).base (by omega), rfl⟩, ?_⟩
    exact bel_set6 HB.out (Nat.le_refl _) _ _ _ _ _ _
  · have HNO := hid hno
    clear hno
    go_wp2
    refine bodyPost_ret (v := .tuple #[.agg svz, .bool false]) (by simp [results, Tryz.results11, go_sem, *]) rfl ⟨.inr ⟨HNO.out, rfl⟩, ?_⟩
    exact bel_set6 HB.out (Nat.le_refl _) _ _ _ _ _ _

set_option maxRecDepth 100000 in
set_option maxHeartbeats 1000000 in
theorem eqPd_same (x : Pd) (w : World) :
    Calls Tryz.prog 62 #[x.v, x.v] w fun e w' => e = .returned (.bool true) ∧ Below w.heap.size w w' := by
  go_enter Tryz.func62, Tryz.ntmps62
  go_wp2
  all_goals go_ret
  all_goals exact ⟨rfl, by go_grown⟩
set_option maxRecDepth 100000 in
set_option maxHeartbeats 1000000 in
theorem eqPods_same (a a' : Option Addr) (len cap cap' : Nat) (l : List Pd) (w : World) (hlen : l.length = len) (hn : len ≤ 2000000) (hl : PodsAt w a l) (hl' : PodsAt w a' l) :
    Calls Tryz.prog 32 #[.slice a len cap, .slice a' len cap'] w fun e w' => e = .returned (.bool true) ∧ Below w.heap.size w w' := by
  have HL := hide hl
  have HL' := hide hl'
  have HN := hide hlen
  clear hl hl' hlen
  go_enter Tryz.func32, Tryz.ntmps32
  go_wp2
  go_loopw [5] (fun i w' => ∃ k : Nat, k ≤ len ∧ i = .int .i64 k ∧ Below w.heap.size w w') (fun i _ => len - (intOf i).toNat)
  case atStart => exact ⟨0, Nat.zero_le _, rfl, Below.refl _ _⟩
  case round =>
    obtain ⟨k, hk, rfl, hbel⟩ := hrel
    by_cases hlt : k < len
    · obtain ⟨b, o, ha, hbl, c0, c1, c2, c3, c4⟩ := (HL.out.keep hbel).at k (by rw [HN.out]; exact hlt)
      obtain ⟨b', o', ha', hbl', d0, d1, d2, d3, d4⟩ := (HL'.out.keep hbel).at k (by rw [HN.out]; exact hlt)
      subst ha ha'
      have hkl : k < l.length := by rw [HN.out]; exact hlt
      have hk0 : (0 : Int) ≤ (k : Int) := by omega
      have hkn : (k : Int) < (len : Int) := by omega
      go_wp2
      refine wp_region_below (by kernel_rfl) (by kernel_rfl) ?_
      repeat (first
        | (apply quiet_at (hg := rfl); (· (intro w' hw'; obtain ⟨hc, hf⟩ := bcell hw'; go_simp; first | (go_at_call 62; refine (eqPd_same l[k] _).mono ?_; rintro e w9 ⟨rfl, hb9⟩; exact ⟨rfl, bel_trans hw' hb9⟩) | rfl)); simp only [Act.put, List.setIfInBounds_toArray, List.set_cons_zero, List.set_cons_succ]))
      refine wpQuiet_nil ?_
      intro w2 hw2
      go_wp2
      go_roundw
      case rel => exact ⟨k + 1, by omega, by go_num, bel_trans hbel hw2⟩
      case measure => simp [intOf]; omega
    · go_wp2
      go_ret
      exact ⟨rfl, hbel⟩
set_option maxRecDepth 100000 in
set_option maxHeartbeats 1000000 in
theorem eqNd_same (x : Nd) (w : World) :
    Calls Tryz.prog 63 #[x.v, x.v] w fun e w' => e = .returned (.bool true) ∧ Below w.heap.size w w' := by
  go_enter Tryz.func63, Tryz.ntmps63
  go_wp2
  all_goals go_ret
  all_goals exact ⟨rfl, by go_grown⟩
set_option maxRecDepth 100000 in
set_option maxHeartbeats 1000000 in
theorem eqNodes_same (a a' : Option Addr) (len cap cap' : Nat) (l : List Nd) (w : World) (hlen : l.length = len) (hn : len ≤ 2000000) (hl : NodesAt w a l) (hl' : NodesAt w a' l) :
    Calls Tryz.prog 33 #[.slice a len cap, .slice a' len cap'] w fun e w' => e = .returned (.bool true) ∧ Below w.heap.size w w' := by
  have HL := hide hl
  have HL' := hide hl'
  have HN := hide hlen
  clear hl hl' hlen
  go_enter Tryz.func33, Tryz.ntmps33
  go_wp2
  go_loopw [5] (fun i w' => ∃ k : Nat, k ≤ len ∧ i = .int .i64 k ∧ Below w.heap.size w w') (fun i _ => len - (intOf i).toNat)
  case atStart => exact ⟨0, Nat.zero_le _, rfl, Below.refl _ _⟩
  case round =>
    obtain ⟨k, hk, rfl, hbel⟩ := hrel
    by_cases hlt : k < len
    · obtain ⟨b, o, ha, hbl, c0, c1, c2, c3⟩ := (HL.out.keep hbel).at k (by rw [HN.out]; exact hlt)
      obtain ⟨b', o', ha', hbl', d0, d1, d2, d3⟩ := (HL'.out.keep hbel).at k (by rw [HN.out]; exact hlt)
      subst ha ha'
      have hkl : k < l.length := by rw [HN.out]; exact hlt
      have hk0 : (0 : Int) ≤ (k : Int) := by omega
      have hkn : (k : Int) < (len : Int) := by omega
      go_wp2
      refine wp_region_below (by kernel_rfl) (by kernel_rfl) ?_
      repeat (first
        | (apply quiet_at (hg := rfl); (· (intro w' hw'; obtain ⟨hc, hf⟩ := bcell hw'; go_simp; first | (go_at_call 63; refine (eqNd_same l[k] _).mono ?_; rintro e w9 ⟨rfl, hb9⟩; exact ⟨rfl, bel_trans hw' hb9⟩) | rfl)); simp only [Act.put, List.setIfInBounds_toArray, List.set_cons_zero, List.set_cons_succ]))
      refine wpQuiet_nil ?_
      intro w2 hw2
      go_wp2
      go_roundw
      case rel => exact ⟨k + 1, by omega, by go_num, bel_trans hbel hw2⟩
      case measure => simp [intOf]; omega
    · go_wp2
      go_ret
      exact ⟨rfl, hbel⟩
set_option maxRecDepth 100000 in
set_option maxHeartbeats 1000000 in
theorem eqWs_same (x : Ws) (w : World) :
    Calls Tryz.prog 64 #[x.v, x.v] w fun e w' => e = .returned (.bool true) ∧ Below w.heap.size w w' := by
  go_enter Tryz.func64, Tryz.ntmps64
  go_wp2
  all_goals go_ret
  all_goals exact ⟨rfl, by go_grown⟩
set_option maxRecDepth 100000 in
set_option maxHeartbeats 1000000 in
theorem eqWss_same (a a' : Option Addr) (len cap cap' : Nat) (l : List Ws) (w : World) (hlen : l.length = len) (hn : len ≤ 2000000) (hl : WssAt w a l) (hl' : WssAt w a' l) :
    Calls Tryz.prog 34 #[.slice a len cap, .slice a' len cap'] w fun e w' => e = .returned (.bool true) ∧ Below w.heap.size w w' := by
  have HL := hide hl
  have HL' := hide hl'
  have HN := hide hlen
  clear hl hl' hlen
  go_enter Tryz.func34, Tryz.ntmps34
  go_wp2
  go_loopw [5] (fun i w' => ∃ k : Nat, k ≤ len ∧ i = .int .i64 k ∧ Below w.heap.size w w') (fun i _ => len - (intOf i).toNat)
  case atStart => exact ⟨0, Nat.zero_le _, rfl, Below.refl _ _⟩
  case round =>
    obtain ⟨k, hk, rfl, hbel⟩ := hrel
    by_cases hlt : k < len
    · obtain ⟨b, o, ha, hbl, c0, c1, c2⟩ := (HL.out.keep hbel).at k (by rw [HN.out]; exact hlt)
      obtain ⟨b', o', ha', hbl', d0, d1, d2⟩ := (HL'.out.keep hbel).at k (by rw [HN.out]; exact hlt)
      subst ha ha'
      have hkl : k < l.length := by rw [HN.out]; exact hlt
      have hk0 : (0 : Int) ≤ (k : Int) := by omega
      have hkn : (k : Int) < (len : Int) := by omega
      go_wp2
      refine wp_region_below (by kernel_rfl) (by kernel_rfl) ?_
      repeat (first
        | (apply quiet_at (hg := rfl); (· (intro w' hw'; obtain ⟨hc, hf⟩ := bcell hw'; go_simp; first | (go_at_call 64; refine (eqWs_same l[k] _).mono ?_; rintro e w9 ⟨rfl, hb9⟩; exact ⟨rfl, bel_trans hw' hb9⟩) | rfl)); simp only [Act.put, List.setIfInBounds_toArray, List.set_cons_zero, List.set_cons_succ]))
      refine wpQuiet_nil ?_
      intro w2 hw2
      go_wp2
      go_roundw
      case rel => exact ⟨k + 1, by omega, by go_num, bel_trans hbel hw2⟩
      case measure => simp [intOf]; omega
    · go_wp2
      go_ret
      exact ⟨rfl, hbel⟩
set_option maxRecDepth 100000 in
set_option maxHeartbeats 1000000 in
theorem eqGs_same (x : Gs) (w : World) :
    Calls Tryz.prog 65 #[x.v, x.v] w fun e w' => e = .returned (.bool true) ∧ Below w.heap.size w w' := by
  go_enter Tryz.func65, Tryz.ntmps65
  go_wp2
  all_goals go_ret
  all_goals exact ⟨rfl, by go_grown⟩
set_option maxRecDepth 100000 in
set_option maxHeartbeats 1000000 in
theorem eqGss_same (a a' : Option Addr) (len cap cap' : Nat) (l : List Gs) (w : World) (hlen : l.length = len) (hn : len ≤ 2000000) (hl : GssAt w a l) (hl' : GssAt w a' l) :
    Calls Tryz.prog 35 #[.slice a len cap, .slice a' len cap'] w fun e w' => e = .returned (.bool true) ∧ Below w.heap.size w w' := by
  have HL := hide hl
  have HL' := hide hl'
  have HN := hide hlen
  clear hl hl' hlen
  go_enter Tryz.func35, Tryz.ntmps35
  go_wp2
  go_loopw [5] (fun i w' => ∃ k : Nat, k ≤ len ∧ i = .int .i64 k ∧ Below w.heap.size w w') (fun i _ => len - (intOf i).toNat)
  case atStart => exact ⟨0, Nat.zero_le _, rfl, Below.refl _ _⟩
  case round =>
    obtain ⟨k, hk, rfl, hbel⟩ := hrel
    by_cases hlt : k < len
    · obtain ⟨b, o, ha, hbl, c0, c1, c2⟩ := (HL.out.keep hbel).at k (by rw [HN.out]; exact hlt)
      obtain ⟨b', o', ha', hbl', d0, d1, d2⟩ := (HL'.out.keep hbel).at k (by rw [HN.out]; exact hlt)
      subst ha ha'
      have hkl : k < l.length := by rw [HN.out]; exact hlt
      have hk0 : (0 : Int) ≤ (k : Int) := by omega
      have hkn : (k : Int) < (len : Int) := by omega
      go_wp2
      refine wp_region_below (by kernel_rfl) (by kernel_rfl) ?_
      repeat (first
        | (apply quiet_at (hg := rfl); (· (intro w' hw'; obtain ⟨hc, hf⟩ := bcell hw'; go_simp; first | (go_at_call 65; refine (eqGs_same l[k] _).mono ?_; rintro e w9 ⟨rfl, hb9⟩; exact ⟨rfl, bel_trans hw' hb9⟩) | rfl)); simp only [Act.put, List.setIfInBounds_toArray, List.set_cons_zero, List.set_cons_succ]))
      refine wpQuiet_nil ?_
      intro w2 hw2
      go_wp2
      go_roundw
      case rel => exact ⟨k + 1, by omega, by go_num, bel_trans hbel hw2⟩
      case measure => simp [intOf]; omega
    · go_wp2
      go_ret
      exact ⟨rfl, hbel⟩
set_option maxRecDepth 100000 in
set_option maxHeartbeats 2000000 in
theorem eqState_same (v v' : Value) (s : St) (w : World) (h : StateAt w v s) (h' : StateAt w v' s) :
    Calls Tryz.prog 12 #[v, v'] w fun e w' => e = .returned (.bool true) ∧ Below w.heap.size w w' := by
  obtain ⟨a1, l1, c1, a2, l2, c2, a3, l3, c3, a4, l4, c4, rfl, ⟨e1, m1, h1⟩, ⟨e2, m2, h2⟩, ⟨e3, m3, h3⟩, ⟨e4, m4, h4⟩⟩ := h
  obtain ⟨a1', l1', c1', a2', l2', c2', a3', l3', c3', a4', l4', c4', rfl, ⟨e1', _, h1'⟩, ⟨e2', _, h2'⟩, ⟨e3', _, h3'⟩, ⟨e4', _, h4'⟩⟩ := h'
  obtain rfl : l1 = l1' := e1.symm.trans e1'
  obtain rfl : l2 = l2' := e2.symm.trans e2'
  obtain rfl : l3 = l3' := e3.symm.trans e3'
  obtain rfl : l4 = l4' := e4.symm.trans e4'
  have H1 := hide h1
  have K1 := hide h1'
  have E1 := hide e1
  have H2 := hide h2
  have K2 := hide h2'
  have E2 := hide e2
  have H3 := hide h3
  have K3 := hide h3'
  have E3 := hide e3
  have H4 := hide h4
  have K4 := hide h4'
  have E4 := hide e4
  clear h1 h2 h3 h4 h1' h2' h3' h4' e1 e2 e3 e4 e1' e2' e3' e4'
  go_enter Tryz.func12, Tryz.ntmps12
  go_wp2_with fail
  refine (eqPods_same _ _ _ _ _ s.pods _ E1.out m1 (H1.out.keep (by go_grown)) (K1.out.keep (by go_grown))).mono ?_
  rintro e w1 ⟨rfl, hb⟩
  have hX : Blk w1 w.heap.size #[.slice a1 l1 c1, .slice a2 l2 c2, .slice a3 l3 c3, .slice a4 l4 c4, .int .i64 s.nextPod, .int .i64 s.nextNode] 36 := ((Blk.new w _ _).alloc _).below hb (by simp; omega)
  have hY : Blk w1 (w.heap.size + 1) #[.slice a1' l1 c1', .slice a2' l2 c2', .slice a3' l3 c3', .slice a4' l4 c4', .int .i64 s.nextPod, .int .i64 s.nextNode] 36 := (by simpa using Blk.new (w.alloc _) _ _ : Blk _ (w.heap.size + 1) #[.slice a1' l1 c1', .slice a2' l2 c2', .slice a3' l3 c3', .slice a4' l4 c4', .int .i64 s.nextPod, .int .i64 s.nextNode] 36).below hb (by simp)
  have hB1 : Below w.heap.size w w1 := bel_trans (by go_grown) hb
  clear hb
  have A := hX.cell
  have B := hY.cell
  go_wp2_with fail
  refine (eqNodes_same _ _ _ _ _ s.nodes _ E2.out m2 (H2.out.keep hB1) (K2.out.keep hB1)).mono ?_
  rintro e w2 ⟨rfl, hb⟩
  have hB2 := bel_trans hB1 hb
  clear A B
  replace hX := hX.below hb hX.lt
  replace hY := hY.below hb hY.lt
  clear hb
  have A := hX.cell
  have B := hY.cell
  go_wp2_with fail
  refine (eqWss_same _ _ _ _ _ s.works _ E3.out m3 (H3.out.keep hB2) (K3.out.keep hB2)).mono ?_
  rintro e w3 ⟨rfl, hb⟩
  have hB3 := bel_trans hB2 hb
  clear A B
  replace hX := hX.below hb hX.lt
  replace hY := hY.below hb hY.lt
  clear hb
  have A := hX.cell
  have B := hY.cell
  go_wp2_with fail
  refine (eqGss_same _ _ _ _ _ s.groups _ E4.out m4 (H4.out.keep hB3) (K4.out.keep hB3)).mono ?_
  rintro e w4 ⟨rfl, hb⟩
  have hB4 := bel_trans hB3 hb
  clear A B
  replace hX := hX.below hb hX.lt
  replace hY := hY.below hb hY.lt
  clear hb
  have A := hX.cell
  have B := hY.cell
  go_wp2
  all_goals go_ret
  all_goals exact ⟨rfl, hB4⟩

theorem Only.at_ {p : Nat} {w w1 : World} (h : Only (fun k => k = p) w w1) (i : Nat) (u : Value) : Only (fun k => k = p) w (w1.setCell ⟨p, i, none⟩ u) := h.set1 i u

set_option maxRecDepth 100000 in
set_option maxHeartbeats 2000000 in
theorem markPods_any (p len cap base : Nat) (xs : List Value) (k0 : Int) (w : World) (hk : 0 ≤ k0 ∧ k0 ≤ 100000000) (hn : len ≤ 2000000) (h : w.ownsRow base 100 5 (.slice (some ⟨p, 0, none⟩) len cap) len xs) :
    Calls Tryz.prog 36 #[.slice (some ⟨p, 0, none⟩) len cap, .int .i64 k0] w fun e w' => e = .returned (.int .i64 (k0 + 5 * len)) ∧ Only (fun b => b = p) w w' ∧ ∃ ys, w'.ownsRow base 100 5 (.slice (some ⟨p, 0, none⟩) len cap) len ys ∧ ∀ q, q < len * 5 → ys[q]? = some (.int .i64 (k0 + (q : Int))) := by
  have H := hid h
  clear h
  go_enter Tryz.func36, Tryz.ntmps36
  go_wp2
  go_loopw [1, 5] (fun s i w' => ∃ k : Nat, k ≤ len ∧ i = .int .i64 k ∧ s = .int .i64 (k0 + 5 * k) ∧ ∃ ys, Hid (w'.ownsRow base 100 5 (.slice (some ⟨p, 0, none⟩) len cap) len ys ∧ (∀ q, q < k * 5 → ys[q]? = some (.int .i64 (k0 + (q : Int)))) ∧ Only (fun b => b = p) w w')) (fun _ i _ => len - (intOf i).toNat)
  case atStart => exact ⟨0, Nat.zero_le _, rfl, by simp, _, H.out, fun q hq => by omega, Only.refl _ _⟩
  case round =>
    obtain ⟨k, hk, rfl, rfl, ys, hF⟩ := hrel
    by_cases hlt : k < len
    · have hl : ys.length = len * 5 := hF.out.1.1
      have hmul : k * 5 + 5 ≤ len * 5 := by have := Nat.mul_le_mul_right 5 (show k + 1 ≤ len from hlt); omega
      have hc : ∀ j, j < 5 → ∃ y, wr.cell? ⟨p, k * 5 + j, none⟩ = some y := fun j hj => ⟨ys[k * 5 + j]'(by omega), by rw [hF.out.1.cellAt _ (by omega), List.getElem?_eq_getElem (by omega)]⟩
      have hf : ∀ j, wr.frozen? ⟨p, j, none⟩ = false := fun j => hF.out.1.frozenAt j
      obtain ⟨y0, d0⟩ := hc 0 (by omega)
      obtain ⟨y1, d1⟩ := hc 1 (by omega)
      obtain ⟨y2, d2⟩ := hc 2 (by omega)
      obtain ⟨y3, d3⟩ := hc 3 (by omega)
      obtain ⟨y4, d4⟩ := hc 4 (by omega)
      rw [Nat.add_zero] at d0
      have HYL : Hid (ys.length = len * 5 ∧ k * 5 + 5 ≤ len * 5) := ⟨hl, hmul⟩
      have hk0 : (0 : Int) ≤ (k : Int) := by omega
      have hkn : (k : Int) < (len : Int) := by omega
      have hpl : p < wr.heap.size := (hF.out.1.lt p rfl).2
      clear hc hl hmul
      go_wp2
      go_roundw
      case rel =>
        refine ⟨k + 1, by omega, by go_num, congrArg _ (by omega), _, (((((hF.out.1.stored (k * 5) _).1.stored (k * 5 + 1) _).1.stored (k * 5 + 2) _).1.stored (k * 5 + 3) _).1.stored (k * 5 + 4) _).1, fun q hq => ?_, (((((hF.out.2.2.at_ (k * 5) _).at_ (k * 5 + 1) _).at_ (k * 5 + 2) _).at_ (k * 5 + 3) _).at_ (k * 5 + 4) _)⟩
        have h1 := HYL.out
        have h2 := hF.out.2.1 q
        simp only [List.getElem?_set, List.length_set]
        repeat' split
        all_goals first
          | (exfalso; omega)
          | (congr 2; omega)
          | exact h2 (by omega)
      case measure => simp [intOf]; omega
    · have : k = len := by omega
      subst this
      have HF := hF
      go_wp2
      go_ret
      exact ⟨rfl, HF.out.2.2, ys, HF.out.1, HF.out.2.1⟩

set_option maxRecDepth 100000 in
set_option maxHeartbeats 2000000 in
theorem markNodes_any (p len cap base : Nat) (xs : List Value) (k0 : Int) (w : World) (hk : 0 ≤ k0 ∧ k0 ≤ 100000000) (hn : len ≤ 2000000) (h : w.ownsRow base 98 4 (.slice (some ⟨p, 0, none⟩) len cap) len xs) :
    Calls Tryz.prog 37 #[.slice (some ⟨p, 0, none⟩) len cap, .int .i64 k0] w fun e w' => e = .returned (.int .i64 (k0 + 4 * len)) ∧ Only (fun b => b = p) w w' ∧ ∃ ys, w'.ownsRow base 98 4 (.slice (some ⟨p, 0, none⟩) len cap) len ys ∧ ∀ q, q < len * 4 → ys[q]? = some (.int .i64 (k0 + (q : Int))) := by
  have H := hid h
  clear h
  go_enter Tryz.func37, Tryz.ntmps37
  go_wp2
  go_loopw [1, 5] (fun s i w' => ∃ k : Nat, k ≤ len ∧ i = .int .i64 k ∧ s = .int .i64 (k0 + 4 * k) ∧ ∃ ys, Hid (w'.ownsRow base 98 4 (.slice (some ⟨p, 0, none⟩) len cap) len ys ∧ (∀ q, q < k * 4 → ys[q]? = some (.int .i64 (k0 + (q : Int)))) ∧ Only (fun b => b = p) w w')) (fun _ i _ => len - (intOf i).toNat)
  case atStart => exact ⟨0, Nat.zero_le _, rfl, by simp, _, H.out, fun q hq => by omega, Only.refl _ _⟩
  case round =>
    obtain ⟨k, hk, rfl, rfl, ys, hF⟩ := hrel
    by_cases hlt : k < len
    · have hl : ys.length = len * 4 := hF.out.1.1
      have hmul : k * 4 + 4 ≤ len * 4 := by have := Nat.mul_le_mul_right 4 (show k + 1 ≤ len from hlt); omega
      have hc : ∀ j, j < 4 → ∃ y, wr.cell? ⟨p, k * 4 + j, none⟩ = some y := fun j hj => ⟨ys[k * 4 + j]'(by omega), by rw [hF.out.1.cellAt _ (by omega), List.getElem?_eq_getElem (by omega)]⟩
      have hf : ∀ j, wr.frozen? ⟨p, j, none⟩ = false := fun j => hF.out.1.frozenAt j
      obtain ⟨y0, d0⟩ := hc 0 (by omega)
      obtain ⟨y1, d1⟩ := hc 1 (by omega)
      obtain ⟨y2, d2⟩ := hc 2 (by omega)
      obtain ⟨y3, d3⟩ := hc 3 (by omega)
      rw [Nat.add_zero] at d0
      have HYL : Hid (ys.length = len * 4 ∧ k * 4 + 4 ≤ len * 4) := ⟨hl, hmul⟩
      have hk0 : (0 : Int) ≤ (k : Int) := by omega
      have hkn : (k : Int) < (len : Int) := by omega
      have hpl : p < wr.heap.size := (hF.out.1.lt p rfl).2
      clear hc hl hmul
      go_wp2
      go_roundw
      case rel =>
        refine ⟨k + 1, by omega, by go_num, congrArg _ (by omega), _, ((((hF.out.1.stored (k * 4) _).1.stored (k * 4 + 1) _).1.stored (k * 4 + 2) _).1.stored (k * 4 + 3) _).1, fun q hq => ?_, ((((hF.out.2.2.at_ (k * 4) _).at_ (k * 4 + 1) _).at_ (k * 4 + 2) _).at_ (k * 4 + 3) _)⟩
        have h1 := HYL.out
        have h2 := hF.out.2.1 q
        simp only [List.getElem?_set, List.length_set]
        repeat' split
        all_goals first
          | (exfalso; omega)
          | (congr 2; omega)
          | exact h2 (by omega)
      case measure => simp [intOf]; omega
    · have : k = len := by omega
      subst this
      have HF := hF
      go_wp2
      go_ret
      exact ⟨rfl, HF.out.2.2, ys, HF.out.1, HF.out.2.1⟩

set_option maxRecDepth 100000 in
set_option maxHeartbeats 2000000 in
theorem markWorks_any (p len cap base : Nat) (xs : List Value) (k0 : Int) (w : World) (hk : 0 ≤ k0 ∧ k0 ≤ 100000000) (hn : len ≤ 2000000) (h : w.ownsRow base 94 3 (.slice (some ⟨p, 0, none⟩) len cap) len xs) :
    Calls Tryz.prog 38 #[.slice (some ⟨p, 0, none⟩) len cap, .int .i64 k0] w fun e w' => e = .returned (.int .i64 (k0 + 3 * len)) ∧ Only (fun b => b = p) w w' ∧ ∃ ys, w'.ownsRow base 94 3 (.slice (some ⟨p, 0, none⟩) len cap) len ys ∧ ∀ q, q < len * 3 → ys[q]? = some (.int .i64 (k0 + (q : Int))) := by
  have H := hid h
  clear h
  go_enter Tryz.func38, Tryz.ntmps38
  go_wp2
  go_loopw [1, 5] (fun s i w' => ∃ k : Nat, k ≤ len ∧ i = .int .i64 k ∧ s = .int .i64 (k0 + 3 * k) ∧ ∃ ys, Hid (w'.ownsRow base 94 3 (.slice (some ⟨p, 0, none⟩) len cap) len ys ∧ (∀ q, q < k * 3 → ys[q]? = some (.int .i64 (k0 + (q : Int)))) ∧ Only (fun b => b = p) w w')) (fun _ i _ => len - (intOf i).toNat)
  case atStart => exact ⟨0, Nat.zero_le _, rfl, by simp, _, H.out, fun q hq => by omega, Only.refl _ _⟩
  case round =>
    obtain ⟨k, hk, rfl, rfl, ys, hF⟩ := hrel
    by_cases hlt : k < len
    · have hl : ys.length = len * 3 := hF.out.1.1
      have hmul : k * 3 + 3 ≤ len * 3 := by have := Nat.mul_le_mul_right 3 (show k + 1 ≤ len from hlt); omega
      have hc : ∀ j, j < 3 → ∃ y, wr.cell? ⟨p, k * 3 + j, none⟩ = some y := fun j hj => ⟨ys[k * 3 + j]'(by omega), by rw [hF.out.1.cellAt _ (by omega), List.getElem?_eq_getElem (by omega)]⟩
      have hf : ∀ j, wr.frozen? ⟨p, j, none⟩ = false := fun j => hF.out.1.frozenAt j
      obtain ⟨y0, d0⟩ := hc 0 (by omega)
      obtain ⟨y1, d1⟩ := hc 1 (by omega)
      obtain ⟨y2, d2⟩ := hc 2 (by omega)
      rw [Nat.add_zero] at d0
      have HYL : Hid (ys.length = len * 3 ∧ k * 3 + 3 ≤ len * 3) := ⟨hl, hmul⟩
      have hk0 : (0 : Int) ≤ (k : Int) := by omega
      have hkn : (k : Int) < (len : Int) := by omega
      have hpl : p < wr.heap.size := (hF.out.1.lt p rfl).2
      clear hc hl hmul
      go_wp2
      go_roundw
      case rel =>
        refine ⟨k + 1, by omega, by go_num, congrArg _ (by omega), _, (((hF.out.1.stored (k * 3) _).1.stored (k * 3 + 1) _).1.stored (k * 3 + 2) _).1, fun q hq => ?_, (((hF.out.2.2.at_ (k * 3) _).at_ (k * 3 + 1) _).at_ (k * 3 + 2) _)⟩
        have h1 := HYL.out
        have h2 := hF.out.2.1 q
        simp only [List.getElem?_set, List.length_set]
        repeat' split
        all_goals first
          | (exfalso; omega)
          | (congr 2; omega)
          | exact h2 (by omega)
      case measure => simp [intOf]; omega
    · have : k = len := by omega
      subst this
      have HF := hF
      go_wp2
      go_ret
      exact ⟨rfl, HF.out.2.2, ys, HF.out.1, HF.out.2.1⟩

set_option maxRecDepth 100000 in
set_option maxHeartbeats 2000000 in
theorem markGroups_any (p len cap base : Nat) (xs : List Value) (k0 : Int) (w : World) (hk : 0 ≤ k0 ∧ k0 ≤ 100000000) (hn : len ≤ 2000000) (h : w.ownsRow base 96 3 (.slice (some ⟨p, 0, none⟩) len cap) len xs) :
    Calls Tryz.prog 39 #[.slice (some ⟨p, 0, none⟩) len cap, .int .i64 k0] w fun e w' => e = .returned (.int .i64 (k0 + 3 * len)) ∧ Only (fun b => b = p) w w' ∧ ∃ ys, w'.ownsRow base 96 3 (.slice (some ⟨p, 0, none⟩) len cap) len ys ∧ ∀ q, q < len * 3 → ys[q]? = some (.int .i64 (k0 + (q : Int))) := by
  have H := hid h
  clear h
  go_enter Tryz.func39, Tryz.ntmps39
  go_wp2
  go_loopw [1, 5] (fun s i w' => ∃ k : Nat, k ≤ len ∧ i = .int .i64 k ∧ s = .int .i64 (k0 + 3 * k) ∧ ∃ ys, Hid (w'.ownsRow base 96 3 (.slice (some ⟨p, 0, none⟩) len cap) len ys ∧ (∀ q, q < k * 3 → ys[q]? = some (.int .i64 (k0 + (q : Int)))) ∧ Only (fun b => b = p) w w')) (fun _ i _ => len - (intOf i).toNat)
  case atStart => exact ⟨0, Nat.zero_le _, rfl, by simp, _, H.out, fun q hq => by omega, Only.refl _ _⟩
  case round =>
    obtain ⟨k, hk, rfl, rfl, ys, hF⟩ := hrel
    by_cases hlt : k < len
    · have hl : ys.length = len * 3 := hF.out.1.1
      have hmul : k * 3 + 3 ≤ len * 3 := by have := Nat.mul_le_mul_right 3 (show k + 1 ≤ len from hlt); omega
      have hc : ∀ j, j < 3 → ∃ y, wr.cell? ⟨p, k * 3 + j, none⟩ = some y := fun j hj => ⟨ys[k * 3 + j]'(by omega), by rw [hF.out.1.cellAt _ (by omega), List.getElem?_eq_getElem (by omega)]⟩
      have hf : ∀ j, wr.frozen? ⟨p, j, none⟩ = false := fun j => hF.out.1.frozenAt j
      obtain ⟨y0, d0⟩ := hc 0 (by omega)
      obtain ⟨y1, d1⟩ := hc 1 (by omega)
      obtain ⟨y2, d2⟩ := hc 2 (by omega)
      rw [Nat.add_zero] at d0
      have HYL : Hid (ys.length = len * 3 ∧ k * 3 + 3 ≤ len * 3) := ⟨hl, hmul⟩
      have hk0 : (0 : Int) ≤ (k : Int) := by omega
      have hkn : (k : Int) < (len : Int) := by omega
      have hpl : p < wr.heap.size := (hF.out.1.lt p rfl).2
      clear hc hl hmul
      go_wp2
      go_roundw
      case rel =>
        refine ⟨k + 1, by omega, by go_num, congrArg _ (by omega), _, (((hF.out.1.stored (k * 3) _).1.stored (k * 3 + 1) _).1.stored (k * 3 + 2) _).1, fun q hq => ?_, (((hF.out.2.2.at_ (k * 3) _).at_ (k * 3 + 1) _).at_ (k * 3 + 2) _)⟩
        have h1 := HYL.out
        have h2 := hF.out.2.1 q
        simp only [List.getElem?_set, List.length_set]
        repeat' split
        all_goals first
          | (exfalso; omega)
          | (congr 2; omega)
          | exact h2 (by omega)
      case measure => simp [intOf]; omega
    · have : k = len := by omega
      subst this
      have HF := hF
      go_wp2
      go_ret
      exact ⟨rfl, HF.out.2.2, ys, HF.out.1, HF.out.2.1⟩

set_option maxRecDepth 100000 in
set_option maxHeartbeats 2000000 in
theorem heldPods_any (p len cap : Nat) (k0 : Int) (w : World) (hk : 0 ≤ k0 ∧ k0 ≤ 100000000) (hn : len ≤ 2000000) (h : ∀ q, q < len * 5 → w.cell? ⟨p, q, none⟩ = some (.int .i64 (k0 + (q : Int)))) :
    Calls Tryz.prog 40 #[.slice (some ⟨p, 0, none⟩) len cap, .int .i64 k0] w fun e w' => e = .returned (.int .i64 (k0 + 5 * len)) ∧ w' = w := by
  have H := hid h
  clear h
  go_enter Tryz.func40, Tryz.ntmps40
  go_wp2
  go_loopw [1, 5] (fun s i w' => ∃ k : Nat, k ≤ len ∧ i = .int .i64 k ∧ s = .int .i64 (k0 + 5 * k) ∧ w' = w) (fun _ i _ => len - (intOf i).toNat)
  case atStart => exact ⟨0, Nat.zero_le _, rfl, by simp, rfl⟩
  case round =>
    obtain ⟨k, hk, rfl, rfl, rfl⟩ := hrel
    by_cases hlt : k < len
    · have hmul : k * 5 + 5 ≤ len * 5 := by have := Nat.mul_le_mul_right 5 (show k + 1 ≤ len from hlt); omega
      have hcell := H.out
      have d0 : wr.cell? ⟨p, k * 5, none⟩ = some (.int .i64 (k0 + 5 * (k : Int))) := (hcell (k * 5 + 0) (by omega)).trans (by congr 2; omega)
      have d1 : wr.cell? ⟨p, k * 5 + 1, none⟩ = some (.int .i64 (k0 + 5 * (k : Int) + 1)) := (hcell (k * 5 + 1) (by omega)).trans (by congr 2; omega)
      have d2 : wr.cell? ⟨p, k * 5 + 2, none⟩ = some (.int .i64 (k0 + 5 * (k : Int) + 1 + 1)) := (hcell (k * 5 + 2) (by omega)).trans (by congr 2; omega)
      have d3 : wr.cell? ⟨p, k * 5 + 3, none⟩ = some (.int .i64 (k0 + 5 * (k : Int) + 1 + 1 + 1)) := (hcell (k * 5 + 3) (by omega)).trans (by congr 2; omega)
      have d4 : wr.cell? ⟨p, k * 5 + 4, none⟩ = some (.int .i64 (k0 + 5 * (k : Int) + 1 + 1 + 1 + 1)) := (hcell (k * 5 + 4) (by omega)).trans (by congr 2; omega)
      have hk0 : (0 : Int) ≤ (k : Int) := by omega
      have hkn : (k : Int) < (len : Int) := by omega
      clear hcell hmul
      go_wp2
      go_roundw
      case rel => exact ⟨k + 1, by omega, by go_num, congrArg _ (by omega), by trivial⟩
      case measure => simp [intOf]; omega
    · have : k = len := by omega
      subst this
      go_wp2
      go_ret
      exact ⟨rfl, rfl⟩

set_option maxRecDepth 100000 in
set_option maxHeartbeats 2000000 in
theorem heldNodes_any (p len cap : Nat) (k0 : Int) (w : World) (hk : 0 ≤ k0 ∧ k0 ≤ 100000000) (hn : len ≤ 2000000) (h : ∀ q, q < len * 4 → w.cell? ⟨p, q, none⟩ = some (.int .i64 (k0 + (q : Int)))) :
    Calls Tryz.prog 41 #[.slice (some ⟨p, 0, none⟩) len cap, .int .i64 k0] w fun e w' => e = .returned (.int .i64 (k0 + 4 * len)) ∧ w' = w := by
  have H := hid h
  clear h
  go_enter Tryz.func41, Tryz.ntmps41
  go_wp2
  go_loopw [1, 5] (fun s i w' => ∃ k : Nat, k ≤ len ∧ i = .int .i64 k ∧ s = .int .i64 (k0 + 4 * k) ∧ w' = w) (fun _ i _ => len - (intOf i).toNat)
  case atStart => exact ⟨0, Nat.zero_le _, rfl, by simp, rfl⟩
  case round =>
    obtain ⟨k, hk, rfl, rfl, rfl⟩ := hrel
    by_cases hlt : k < len
    · have hmul : k * 4 + 4 ≤ len * 4 := by have := Nat.mul_le_mul_right 4 (show k + 1 ≤ len from hlt); omega
      have hcell := H.out
      have d0 : wr.cell? ⟨p, k * 4, none⟩ = some (.int .i64 (k0 + 4 * (k : Int))) := (hcell (k * 4 + 0) (by omega)).trans (by congr 2; omega)
      have d1 : wr.cell? ⟨p, k * 4 + 1, none⟩ = some (.int .i64 (k0 + 4 * (k : Int) + 1)) := (hcell (k * 4 + 1) (by omega)).trans (by congr 2; omega)
      have d2 : wr.cell? ⟨p, k * 4 + 2, none⟩ = some (.int .i64 (k0 + 4 * (k : Int) + 1 + 1)) := (hcell (k * 4 + 2) (by omega)).trans (by congr 2; omega)
      have d3 : wr.cell? ⟨p, k * 4 + 3, none⟩ = some (.int .i64 (k0 + 4 * (k : Int) + 1 + 1 + 1)) := (hcell (k * 4 + 3) (by omega)).trans (by congr 2; omega)
      have hk0 : (0 : Int) ≤ (k : Int) := by omega
      have hkn : (k : Int) < (len : Int) := by omega
      clear hcell hmul
      go_wp2
      go_roundw
      case rel => exact ⟨k + 1, by omega, by go_num, congrArg _ (by omega), by trivial⟩
      case measure => simp [intOf]; omega
    · have : k = len := by omega
      subst this
      go_wp2
      go_ret
      exact ⟨rfl, rfl⟩

set_option maxRecDepth 100000 in
set_option maxHeartbeats 2000000 in
theorem heldWorks_any (p len cap : Nat) (k0 : Int) (w : World) (hk : 0 ≤ k0 ∧ k0 ≤ 100000000) (hn : len ≤ 2000000) (h : ∀ q, q < len * 3 → w.cell? ⟨p, q, none⟩ = some (.int .i64 (k0 + (q : Int)))) :
    Calls Tryz.prog 42 #[.slice (some ⟨p, 0, none⟩) len cap, .int .i64 k0] w fun e w' => e = .returned (.int .i64 (k0 + 3 * len)) ∧ w' = w := by
  have H := hid h
  clear h
  go_enter Tryz.func42, Tryz.ntmps42
  go_wp2
  go_loopw [1, 5] (fun s i w' => ∃ k : Nat, k ≤ len ∧ i = .int .i64 k ∧ s = .int .i64 (k0 + 3 * k) ∧ w' = w) (fun _ i _ => len - (intOf i).toNat)
  case atStart => exact ⟨0, Nat.zero_le _, rfl, by simp, rfl⟩
  case round =>
    obtain ⟨k, hk, rfl, rfl, rfl⟩ := hrel
    by_cases hlt : k < len
    · have hmul : k * 3 + 3 ≤ len * 3 := by have := Nat.mul_le_mul_right 3 (show k + 1 ≤ len from hlt); omega
      have hcell := H.out
      have d0 : wr.cell? ⟨p, k * 3, none⟩ = some (.int .i64 (k0 + 3 * (k : Int))) := (hcell (k * 3 + 0) (by omega)).trans (by congr 2; omega)
      have d1 : wr.cell? ⟨p, k * 3 + 1, none⟩ = some (.int .i64 (k0 + 3 * (k : Int) + 1)) := (hcell (k * 3 + 1) (by omega)).trans (by congr 2; omega)
      have d2 : wr.cell? ⟨p, k * 3 + 2, none⟩ = some (.int .i64 (k0 + 3 * (k : Int) + 1 + 1)) := (hcell (k * 3 + 2) (by omega)).trans (by congr 2; omega)
      have hk0 : (0 : Int) ≤ (k : Int) := by omega
      have hkn : (k : Int) < (len : Int) := by omega
      clear hcell hmul
      go_wp2
      go_roundw
      case rel => exact ⟨k + 1, by omega, by go_num, congrArg _ (by omega), by trivial⟩
      case measure => simp [intOf]; omega
    · have : k = len := by omega
      subst this
      go_wp2
      go_ret
      exact ⟨rfl, rfl⟩

set_option maxRecDepth 100000 in
set_option maxHeartbeats 2000000 in
theorem heldGroups_any (p len cap : Nat) (k0 : Int) (w : World) (hk : 0 ≤ k0 ∧ k0 ≤ 100000000) (hn : len ≤ 2000000) (h : ∀ q, q < len * 3 → w.cell? ⟨p, q, none⟩ = some (.int .i64 (k0 + (q : Int)))) :
    Calls Tryz.prog 43 #[.slice (some ⟨p, 0, none⟩) len cap, .int .i64 k0] w fun e w' => e = .returned (.int .i64 (k0 + 3 * len)) ∧ w' = w := by
  have H := hid h
  clear h
  go_enter Tryz.func43, Tryz.ntmps43
  go_wp2
  go_loopw [1, 5] (fun s i w' => ∃ k : Nat, k ≤ len ∧ i = .int .i64 k ∧ s = .int .i64 (k0 + 3 * k) ∧ w' = w) (fun _ i _ => len - (intOf i).toNat)
  case atStart => exact ⟨0, Nat.zero_le _, rfl, by simp, rfl⟩
  case round =>
    obtain ⟨k, hk, rfl, rfl, rfl⟩ := hrel
    by_cases hlt : k < len
    · have hmul : k * 3 + 3 ≤ len * 3 := by have := Nat.mul_le_mul_right 3 (show k + 1 ≤ len from hlt); omega
      have hcell := H.out
      have d0 : wr.cell? ⟨p, k * 3, none⟩ = some (.int .i64 (k0 + 3 * (k : Int))) := (hcell (k * 3 + 0) (by omega)).trans (by congr 2; omega)
      have d1 : wr.cell? ⟨p, k * 3 + 1, none⟩ = some (.int .i64 (k0 + 3 * (k : Int) + 1)) := (hcell (k * 3 + 1) (by omega)).trans (by congr 2; omega)
      have d2 : wr.cell? ⟨p, k * 3 + 2, none⟩ = some (.int .i64 (k0 + 3 * (k : Int) + 1 + 1)) := (hcell (k * 3 + 2) (by omega)).trans (by congr 2; omega)
      have hk0 : (0 : Int) ≤ (k : Int) := by omega
      have hkn : (k : Int) < (len : Int) := by omega
      clear hcell hmul
      go_wp2
      go_roundw
      case rel => exact ⟨k + 1, by omega, by go_num, congrArg _ (by omega), by trivial⟩
      case measure => simp [intOf]; omega
    · have : k = len := by omega
      subst this
      go_wp2
      go_ret
      exact ⟨rfl, rfl⟩

set_option maxRecDepth 100000 in
set_option maxHeartbeats 1000000 in
theorem markPods_none (k0 : Int) (w : World) : Calls Tryz.prog 36 #[.slice none 0 0, .int .i64 k0] w fun e w' => e = .returned (.int .i64 k0) ∧ w' = w := by
  go_enter Tryz.func36, Tryz.ntmps36
  go_wp2
  go_loopw [1, 5] (fun s i w' => i = .int .i64 0 ∧ s = .int .i64 k0 ∧ w' = w) (fun _ _ _ => 0)
  case atStart => exact ⟨rfl, rfl, rfl⟩
  case round =>
    obtain ⟨rfl, rfl, rfl⟩ := hrel
    go_wp2
    go_ret
    exact ⟨rfl, rfl⟩

set_option maxRecDepth 100000 in
set_option maxHeartbeats 1000000 in
theorem markNodes_none (k0 : Int) (w : World) : Calls Tryz.prog 37 #[.slice none 0 0, .int .i64 k0] w fun e w' => e = .returned (.int .i64 k0) ∧ w' = w := by
  go_enter Tryz.func37, Tryz.ntmps37
  go_wp2
  go_loopw [1, 5] (fun s i w' => i = .int .i64 0 ∧ s = .int .i64 k0 ∧ w' = w) (fun _ _ _ => 0)
  case atStart => exact ⟨rfl, rfl, rfl⟩
  case round =>
    obtain ⟨rfl, rfl, rfl⟩ := hrel
    go_wp2
    go_ret
    exact ⟨rfl, rfl⟩

set_option maxRecDepth 100000 in
set_option maxHeartbeats 1000000 in
theorem markWorks_none (k0 : Int) (w : World) : Calls Tryz.prog 38 #[.slice none 0 0, .int .i64 k0] w fun e w' => e = .returned (.int .i64 k0) ∧ w' = w := by
  go_enter Tryz.func38, Tryz.ntmps38
  go_wp2
  go_loopw [1, 5] (fun s i w' => i = .int .i64 0 ∧ s = .int .i64 k0 ∧ w' = w) (fun _ _ _ => 0)
  case atStart => exact ⟨rfl, rfl, rfl⟩
  case round =>
    obtain ⟨rfl, rfl, rfl⟩ := hrel
    go_wp2
    go_ret
    exact ⟨rfl, rfl⟩

set_option maxRecDepth 100000 in
set_option maxHeartbeats 1000000 in
theorem markGroups_none (k0 : Int) (w : World) : Calls Tryz.prog 39 #[.slice none 0 0, .int .i64 k0] w fun e w' => e = .returned (.int .i64 k0) ∧ w' = w := by
  go_enter Tryz.func39, Tryz.ntmps39
  go_wp2
  go_loopw [1, 5] (fun s i w' => i = .int .i64 0 ∧ s = .int .i64 k0 ∧ w' = w) (fun _ _ _ => 0)
  case atStart => exact ⟨rfl, rfl, rfl⟩
  case round =>
    obtain ⟨rfl, rfl, rfl⟩ := hrel
    go_wp2
    go_ret
    exact ⟨rfl, rfl⟩

set_option maxRecDepth 100000 in
set_option maxHeartbeats 1000000 in
theorem heldPods_none (k0 : Int) (w : World) : Calls Tryz.prog 40 #[.slice none 0 0, .int .i64 k0] w fun e w' => e = .returned (.int .i64 k0) ∧ w' = w := by
  go_enter Tryz.func40, Tryz.ntmps40
  go_wp2
  go_loopw [1, 5] (fun s i w' => i = .int .i64 0 ∧ s = .int .i64 k0 ∧ w' = w) (fun _ _ _ => 0)
  case atStart => exact ⟨rfl, rfl, rfl⟩
  case round =>
    obtain ⟨rfl, rfl, rfl⟩ := hrel
    go_wp2
    go_ret
    exact ⟨rfl, rfl⟩

set_option maxRecDepth 100000 in
set_option maxHeartbeats 1000000 in
theorem heldNodes_none (k0 : Int) (w : World) : Calls Tryz.prog 41 #[.slice none 0 0, .int .i64 k0] w fun e w' => e = .returned (.int .i64 k0) ∧ w' = w := by
  go_enter Tryz.func41, Tryz.ntmps41
  go_wp2
  go_loopw [1, 5] (fun s i w' => i = .int .i64 0 ∧ s = .int .i64 k0 ∧ w' = w) (fun _ _ _ => 0)
  case atStart => exact ⟨rfl, rfl, rfl⟩
  case round =>
    obtain ⟨rfl, rfl, rfl⟩ := hrel
    go_wp2
    go_ret
    exact ⟨rfl, rfl⟩

set_option maxRecDepth 100000 in
set_option maxHeartbeats 1000000 in
theorem heldWorks_none (k0 : Int) (w : World) : Calls Tryz.prog 42 #[.slice none 0 0, .int .i64 k0] w fun e w' => e = .returned (.int .i64 k0) ∧ w' = w := by
  go_enter Tryz.func42, Tryz.ntmps42
  go_wp2
  go_loopw [1, 5] (fun s i w' => i = .int .i64 0 ∧ s = .int .i64 k0 ∧ w' = w) (fun _ _ _ => 0)
  case atStart => exact ⟨rfl, rfl, rfl⟩
  case round =>
    obtain ⟨rfl, rfl, rfl⟩ := hrel
    go_wp2
    go_ret
    exact ⟨rfl, rfl⟩

set_option maxRecDepth 100000 in
set_option maxHeartbeats 1000000 in
theorem heldGroups_none (k0 : Int) (w : World) : Calls Tryz.prog 43 #[.slice none 0 0, .int .i64 k0] w fun e w' => e = .returned (.int .i64 k0) ∧ w' = w := by
  go_enter Tryz.func43, Tryz.ntmps43
  go_wp2
  go_loopw [1, 5] (fun s i w' => i = .int .i64 0 ∧ s = .int .i64 k0 ∧ w' = w) (fun _ _ _ => 0)
  case atStart => exact ⟨rfl, rfl, rfl⟩
  case round =>
    obtain ⟨rfl, rfl, rfl⟩ := hrel
    go_wp2
    go_ret
    exact ⟨rfl, rfl⟩

theorem row_only {T : TypeId} {m base n : Nat} {w w' : World} {v : Value} {xs : List Value} {S : Nat → Prop} (h : w.ownsRow base T m v n xs) (ho : Only S w w') (hS : ∀ k, v.ownBlock = some k → ¬ S k) : w'.ownsRow base T m v n xs := by
  refine ⟨h.1, ?_⟩
  rcases h.2 with h2 | ⟨g, cap, cur, h1, h2, h3, h4⟩
  · exact .inl h2
  · have hg : v.ownBlock = some g := by rw [h1]; rfl
    exact .inr ⟨g, cap, cur, h1, h2, (ho.block g (World.ownsRow.lt h g hg).2 (hS g hg)).trans h3, h4⟩
/-- A row whose numbers are those from k0 on. -/
def MR (T : TypeId) (m base : Nat) (w : World) (v : Value) (len : Nat) (k0 : Int) : Prop := ∃ ys, w.ownsRow base T m v len ys ∧ ∀ q, q < len * m → ys[q]? = some (.int .i64 (k0 + (q : Int)))
theorem MR.only {T : TypeId} {m base len : Nat} {k0 : Int} {w w' : World} {v : Value} {S : Nat → Prop} (h : MR T m base w v len k0) (ho : Only S w w') (hS : ∀ k, v.ownBlock = some k → ¬ S k) : MR T m base w' v len k0 := by
  obtain ⟨ys, h1, h2⟩ := h
  exact ⟨ys, row_only h1 ho hS, h2⟩
theorem MR.keep {T : TypeId} {m base len : Nat} {k0 : Int} {w w' : World} {v : Value} (h : MR T m base w v len k0) (hb : Below w.heap.size w w') : MR T m base w' v len k0 :=
  h.only (S := fun _ => False) (Only.of_below hb) (fun _ _ => id)
theorem markPods_row (v : Value) (len base : Nat) (xs : List Value) (k0 : Int) (w : World) (hk : 0 ≤ k0 ∧ k0 ≤ 100000000) (hn : len ≤ 2000000) (h : w.ownsRow base 100 5 v len xs) :
    Calls Tryz.prog 36 #[v, .int .i64 k0] w fun e w' => e = .returned (.int .i64 (k0 + 5 * len)) ∧ Only (fun b => v.ownBlock = some b) w w' ∧ MR 100 5 base w' v len k0 := by
  rcases h.2 with ⟨h1, h2⟩ | ⟨g, cap, cur, h1, -⟩
  · subst h1 h2
    refine (markPods_none k0 w).mono ?_
    rintro e w' ⟨rfl, rfl⟩
    exact ⟨by simp, Only.refl _ _, xs, h, fun q hq => by omega⟩
  · subst h1
    refine (markPods_any g len cap base xs k0 w hk hn h).mono ?_
    rintro e w' ⟨rfl, h2, h3⟩
    exact ⟨rfl, ⟨h2.os, h2.tape, h2.output, h2.size, fun k hk e => h2.block k hk (fun e' => e (by subst e'; rfl))⟩, h3⟩
theorem heldPods_row (v : Value) (len base : Nat) (k0 : Int) (w : World) (hk : 0 ≤ k0 ∧ k0 ≤ 100000000) (hn : len ≤ 2000000) (h : MR 100 5 base w v len k0) :
    Calls Tryz.prog 40 #[v, .int .i64 k0] w fun e w' => e = .returned (.int .i64 (k0 + 5 * len)) ∧ w' = w := by
  obtain ⟨ys, h, hy⟩ := h
  rcases h.2 with ⟨h1, h2⟩ | ⟨g, cap, cur, h1, -⟩
  · subst h1 h2
    refine (heldPods_none k0 w).mono ?_
    rintro e w' ⟨rfl, rfl⟩
    exact ⟨by simp, rfl⟩
  · subst h1
    exact heldPods_any g len cap k0 w hk hn (fun q hq => (h.cellAt q hq).trans (hy q hq))
theorem markNodes_row (v : Value) (len base : Nat) (xs : List Value) (k0 : Int) (w : World) (hk : 0 ≤ k0 ∧ k0 ≤ 100000000) (hn : len ≤ 2000000) (h : w.ownsRow base 98 4 v len xs) :
    Calls Tryz.prog 37 #[v, .int .i64 k0] w fun e w' => e = .returned (.int .i64 (k0 + 4 * len)) ∧ Only (fun b => v.ownBlock = some b) w w' ∧ MR 98 4 base w' v len k0 := by
  rcases h.2 with ⟨h1, h2⟩ | ⟨g, cap, cur, h1, -⟩
  · subst h1 h2
    refine (markNodes_none k0 w).mono ?_
    rintro e w' ⟨rfl, rfl⟩
    exact ⟨by simp, Only.refl _ _, xs, h, fun q hq => by omega⟩
  · subst h1
    refine (markNodes_any g len cap base xs k0 w hk hn h).mono ?_
    rintro e w' ⟨rfl, h2, h3⟩
    exact ⟨rfl, ⟨h2.os, h2.tape, h2.output, h2.size, fun k hk e => h2.block k hk (fun e' => e (by subst e'; rfl))⟩, h3⟩
theorem heldNodes_row (v : Value) (len base : Nat) (k0 : Int) (w : World) (hk : 0 ≤ k0 ∧ k0 ≤ 100000000) (hn : len ≤ 2000000) (h : MR 98 4 base w v len k0) :
    Calls Tryz.prog 41 #[v, .int .i64 k0] w fun e w' => e = .returned (.int .i64 (k0 + 4 * len)) ∧ w' = w := by
  obtain ⟨ys, h, hy⟩ := h
  rcases h.2 with ⟨h1, h2⟩ | ⟨g, cap, cur, h1, -⟩
  · subst h1 h2
    refine (heldNodes_none k0 w).mono ?_
    rintro e w' ⟨rfl, rfl⟩
    exact ⟨by simp, rfl⟩
  · subst h1
    exact heldNodes_any g len cap k0 w hk hn (fun q hq => (h.cellAt q hq).trans (hy q hq))
theorem markWorks_row (v : Value) (len base : Nat) (xs : List Value) (k0 : Int) (w : World) (hk : 0 ≤ k0 ∧ k0 ≤ 100000000) (hn : len ≤ 2000000) (h : w.ownsRow base 94 3 v len xs) :
    Calls Tryz.prog 38 #[v, .int .i64 k0] w fun e w' => e = .returned (.int .i64 (k0 + 3 * len)) ∧ Only (fun b => v.ownBlock = some b) w w' ∧ MR 94 3 base w' v len k0 := by
  rcases h.2 with ⟨h1, h2⟩ | ⟨g, cap, cur, h1, -⟩
  · subst h1 h2
    refine (markWorks_none k0 w).mono ?_
    rintro e w' ⟨rfl, rfl⟩
    exact ⟨by simp, Only.refl _ _, xs, h, fun q hq => by omega⟩
  · subst h1
    refine (markWorks_any g len cap base xs k0 w hk hn h).mono ?_
    rintro e w' ⟨rfl, h2, h3⟩
    exact ⟨rfl, ⟨h2.os, h2.tape, h2.output, h2.size, fun k hk e => h2.block k hk (fun e' => e (by subst e'; rfl))⟩, h3⟩
theorem heldWorks_row (v : Value) (len base : Nat) (k0 : Int) (w : World) (hk : 0 ≤ k0 ∧ k0 ≤ 100000000) (hn : len ≤ 2000000) (h : MR 94 3 base w v len k0) :
    Calls Tryz.prog 42 #[v, .int .i64 k0] w fun e w' => e = .returned (.int .i64 (k0 + 3 * len)) ∧ w' = w := by
  obtain ⟨ys, h, hy⟩ := h
  rcases h.2 with ⟨h1, h2⟩ | ⟨g, cap, cur, h1, -⟩
  · subst h1 h2
    refine (heldWorks_none k0 w).mono ?_
    rintro e w' ⟨rfl, rfl⟩
    exact ⟨by simp, rfl⟩
  · subst h1
    exact heldWorks_any g len cap k0 w hk hn (fun q hq => (h.cellAt q hq).trans (hy q hq))
theorem markGroups_row (v : Value) (len base : Nat) (xs : List Value) (k0 : Int) (w : World) (hk : 0 ≤ k0 ∧ k0 ≤ 100000000) (hn : len ≤ 2000000) (h : w.ownsRow base 96 3 v len xs) :
    Calls Tryz.prog 39 #[v, .int .i64 k0] w fun e w' => e = .returned (.int .i64 (k0 + 3 * len)) ∧ Only (fun b => v.ownBlock = some b) w w' ∧ MR 96 3 base w' v len k0 := by
  rcases h.2 with ⟨h1, h2⟩ | ⟨g, cap, cur, h1, -⟩
  · subst h1 h2
    refine (markGroups_none k0 w).mono ?_
    rintro e w' ⟨rfl, rfl⟩
    exact ⟨by simp, Only.refl _ _, xs, h, fun q hq => by omega⟩
  · subst h1
    refine (markGroups_any g len cap base xs k0 w hk hn h).mono ?_
    rintro e w' ⟨rfl, h2, h3⟩
    exact ⟨rfl, ⟨h2.os, h2.tape, h2.output, h2.size, fun k hk e => h2.block k hk (fun e' => e (by subst e'; rfl))⟩, h3⟩
theorem heldGroups_row (v : Value) (len base : Nat) (k0 : Int) (w : World) (hk : 0 ≤ k0 ∧ k0 ≤ 100000000) (hn : len ≤ 2000000) (h : MR 96 3 base w v len k0) :
    Calls Tryz.prog 43 #[v, .int .i64 k0] w fun e w' => e = .returned (.int .i64 (k0 + 3 * len)) ∧ w' = w := by
  obtain ⟨ys, h, hy⟩ := h
  rcases h.2 with ⟨h1, h2⟩ | ⟨g, cap, cur, h1, -⟩
  · subst h1 h2
    refine (heldGroups_none k0 w).mono ?_
    rintro e w' ⟨rfl, rfl⟩
    exact ⟨by simp, rfl⟩
  · subst h1
    exact heldGroups_any g len cap k0 w hk hn (fun q hq => (h.cellAt q hq).trans (hy q hq))

/-- What there is, its numbers those from 1 on. -/
structure MS (B : Nat) (w : World) (vp vn vw vg : Value) (s : St) : Prop where
  P : MR 100 5 B w vp s.pods.length 1
  N : MR 98 4 B w vn s.nodes.length (1 + 5 * (s.pods.length : Int))
  W : MR 94 3 B w vw s.works.length (1 + 5 * (s.pods.length : Int) + 4 * (s.nodes.length : Int))
  G : MR 96 3 B w vg s.groups.length (1 + 5 * (s.pods.length : Int) + 4 * (s.nodes.length : Int) + 3 * (s.works.length : Int))
theorem MS.only {B : Nat} {w w' : World} {vp vn vw vg : Value} {s : St} {S : Nat → Prop} (h : MS B w vp vn vw vg s) (ho : Only S w w') (hS : ∀ k, own4 vp vn vw vg k → ¬ S k) : MS B w' vp vn vw vg s :=
  ⟨h.P.only ho (fun k hk => hS k (.inl hk)), h.N.only ho (fun k hk => hS k (.inr (.inl hk))), h.W.only ho (fun k hk => hS k (.inr (.inr (.inl hk)))), h.G.only ho (fun k hk => hS k (.inr (.inr (.inr hk))))⟩
theorem MS.keep {B : Nat} {w w' : World} {vp vn vw vg : Value} {s : St} (h : MS B w vp vn vw vg s) (hb : Below w.heap.size w w') : MS B w' vp vn vw vg s :=
  ⟨h.P.keep hb, h.N.keep hb, h.W.keep hb, h.G.keep hb⟩
theorem MR.form {T : TypeId} {m base len : Nat} {k0 : Int} {w : World} {v : Value} (h : MR T m base w v len k0) : ∃ a c, v = .slice a len c := by
  obtain ⟨ys, h, -⟩ := h
  rcases h.2 with ⟨h1, h2⟩ | ⟨g, cap, cur, h1, -⟩
  · subst h1 h2; exact ⟨none, 0, rfl⟩
  · exact ⟨_, _, h1⟩

set_option maxRecDepth 100000 in
set_option maxHeartbeats 4000000 in
theorem markState_any (vp vn vw vg : Value) (s : St) (B : Nat) (w : World) (h : OS w B vp vn vw vg s) (h1 : s.pods.length ≤ 5000) (h2 : s.nodes.length ≤ 5000) (h3 : s.works.length ≤ 5000) (h4 : s.groups.length ≤ 5000) :
    Calls Tryz.prog 13 #[svl vp vn vw vg s, .int .i64 1] w fun e w' => e = .returned (.int .i64 (1 + 5 * (s.pods.length : Int) + 4 * (s.nodes.length : Int) + 3 * (s.works.length : Int) + 3 * (s.groups.length : Int))) ∧ Only (own4 vp vn vw vg) w w' ∧ MS B w' vp vn vw vg s := by
  obtain ⟨ap, cp0, rfl, -⟩ := h.P.form
  obtain ⟨an, cn0, rfl, -⟩ := h.N.form
  obtain ⟨aw, cw0, rfl, -⟩ := h.W.form
  obtain ⟨ag, cg0, rfl, -⟩ := h.G.form
  have H := hid h
  clear h
  have hg : Below w.heap.size w (w.alloc (.cells #[.slice ap s.pods.length cp0, .slice an s.nodes.length cn0, .slice aw s.works.length cw0, .slice ag s.groups.length cg0, .int .i64 s.nextPod, .int .i64 s.nextNode] 36)) := by go_grown
  have HG := hid hg
  clear hg
  go_enter Tryz.func13, Tryz.ntmps13
  go_wp2_with fail
  refine (markPods_row (.slice ap s.pods.length cp0) _ B _ 1 _ (by omega) (by omega) (H.out.P.keep HG.out)).mono ?_
  rintro e w1 ⟨rfl, ho, hm⟩
  have HO1 := hid ((Only.of_below HG.out).into ho (fun k _ e => (.inl e : own4 (.slice ap s.pods.length cp0) (.slice an s.nodes.length cn0) (.slice aw s.works.length cw0) (.slice ag s.groups.length cg0) k)))
  have HX1 := hid ((Blk.new w #[.slice ap s.pods.length cp0, .slice an s.nodes.length cn0, .slice aw s.works.length cw0, .slice ag s.groups.length cg0, .int .i64 s.nextPod, .int .i64 s.nextNode] 36).only ho (fun e => by have := (H.out.lt _ (.inl e)).2; omega))
  have MP1 := hid hm
  have RN := hid ((H.out.N.keep HG.out).only ho (fun k hk e => H.out.nPN _ e hk))
  have RW := hid ((H.out.W.keep HG.out).only ho (fun k hk e => H.out.nPW _ e hk))
  have RG := hid ((H.out.G.keep HG.out).only ho (fun k hk e => H.out.nPG _ e hk))
  have xc1 := HX1.out.cell
  clear ho hm
  go_wp2_with fail
  refine (markNodes_row (.slice an s.nodes.length cn0) _ B _ (1 + 5 * (s.pods.length : Int)) _ (by omega) (by omega) RN.out).mono ?_
  rintro e w2 ⟨rfl, ho, hm⟩
  have HO2 := hid (HO1.out.into ho (fun k _ e => (.inr (.inl e) : own4 (.slice ap s.pods.length cp0) (.slice an s.nodes.length cn0) (.slice aw s.works.length cw0) (.slice ag s.groups.length cg0) k)))
  have HX2 := hid (HX1.out.only ho (fun e => by have := (H.out.lt _ (.inr (.inl e))).2; omega))
  have MP2 := hid (MP1.out.only ho (fun k hk e => H.out.nPN _ hk e))
  have MN2 := hid hm
  replace RW := hid (RW.out.only ho (fun k hk e => H.out.nNW _ e hk))
  replace RG := hid (RG.out.only ho (fun k hk e => H.out.nNG _ e hk))
  have xc2 := HX2.out.cell
  clear ho hm xc1
  go_wp2_with fail
  refine (markWorks_row (.slice aw s.works.length cw0) _ B _ (1 + 5 * (s.pods.length : Int) + 4 * (s.nodes.length : Int)) _ (by omega) (by omega) RW.out).mono ?_
  rintro e w3 ⟨rfl, ho, hm⟩
  have HO3 := hid (HO2.out.into ho (fun k _ e => (.inr (.inr (.inl e)) : own4 (.slice ap s.pods.length cp0) (.slice an s.nodes.length cn0) (.slice aw s.works.length cw0) (.slice ag s.groups.length cg0) k)))
  have HX3 := hid (HX2.out.only ho (fun e => by have := (H.out.lt _ (.inr (.inr (.inl e)))).2; omega))
  have MP3 := hid (MP2.out.only ho (fun k hk e => H.out.nPW _ hk e))
  have MN3 := hid (MN2.out.only ho (fun k hk e => H.out.nNW _ hk e))
  have MW3 := hid hm
  replace RG := hid (RG.out.only ho (fun k hk e => H.out.nWG _ e hk))
  have xc3 := HX3.out.cell
  clear ho hm xc2
  go_wp2_with fail
  refine (markGroups_row (.slice ag s.groups.length cg0) _ B _ (1 + 5 * (s.pods.length : Int) + 4 * (s.nodes.length : Int) + 3 * (s.works.length : Int)) _ (by omega) (by omega) RG.out).mono ?_
  rintro e w4 ⟨rfl, ho, hm⟩
  have HO4 := hid (HO3.out.into ho (fun k _ e => (.inr (.inr (.inr e)) : own4 (.slice ap s.pods.length cp0) (.slice an s.nodes.length cn0) (.slice aw s.works.length cw0) (.slice ag s.groups.length cg0) k)))
  have HX4 := hid (HX3.out.only ho (fun e => by have := (H.out.lt _ (.inr (.inr (.inr e)))).2; omega))
  have MP4 := hid (MP3.out.only ho (fun k hk e => H.out.nPG _ hk e))
  have MN4 := hid (MN3.out.only ho (fun k hk e => H.out.nNG _ hk e))
  have MW4 := hid (MW3.out.only ho (fun k hk e => H.out.nWG _ hk e))
  have MG4 := hid hm
  have xc4 := HX4.out.cell
  clear ho hm xc3
  go_wp2
  go_ret
  exact ⟨rfl, HO4.out, MP4.out, MN4.out, MW4.out, MG4.out⟩

set_option maxRecDepth 100000 in
set_option maxHeartbeats 4000000 in
theorem heldState_any (vp vn vw vg : Value) (s : St) (B : Nat) (w : World) (h : MS B w vp vn vw vg s) (h1 : s.pods.length ≤ 5000) (h2 : s.nodes.length ≤ 5000) (h3 : s.works.length ≤ 5000) (h4 : s.groups.length ≤ 5000) :
    Calls Tryz.prog 14 #[svl vp vn vw vg s, .int .i64 1] w fun e w' => e = .returned (.int .i64 (1 + 5 * (s.pods.length : Int) + 4 * (s.nodes.length : Int) + 3 * (s.works.length : Int) + 3 * (s.groups.length : Int))) ∧ Below w.heap.size w w' := by
  obtain ⟨ap, cp0, rfl⟩ := h.P.form
  obtain ⟨an, cn0, rfl⟩ := h.N.form
  obtain ⟨aw, cw0, rfl⟩ := h.W.form
  obtain ⟨ag, cg0, rfl⟩ := h.G.form
  have hg : Below w.heap.size w (w.alloc (.cells #[.slice ap s.pods.length cp0, .slice an s.nodes.length cn0, .slice aw s.works.length cw0, .slice ag s.groups.length cg0, .int .i64 s.nextPod, .int .i64 s.nextNode] 36)) := by go_grown
  have H := hid (h.keep hg)
  have HG := hid hg
  clear h hg
  go_enter Tryz.func14, Tryz.ntmps14
  go_wp2_with fail
  refine (heldPods_row (.slice ap s.pods.length cp0) _ B 1 _ (by omega) (by omega) H.out.P).mono ?_
  rintro e w0 ⟨rfl, rfl⟩
  have n0 : ¬ (1 + 5 * (s.pods.length : Int)) < 0 := by omega
  go_wp2_with fail
  refine (heldNodes_row (.slice an s.nodes.length cn0) _ B (1 + 5 * (s.pods.length : Int)) _ (by omega) (by omega) H.out.N).mono ?_
  rintro e w1 ⟨rfl, rfl⟩
  have n1 : ¬ (1 + 5 * (s.pods.length : Int) + 4 * (s.nodes.length : Int)) < 0 := by omega
  go_wp2_with fail
  refine (heldWorks_row (.slice aw s.works.length cw0) _ B (1 + 5 * (s.pods.length : Int) + 4 * (s.nodes.length : Int)) _ (by omega) (by omega) H.out.W).mono ?_
  rintro e w2 ⟨rfl, rfl⟩
  have n2 : ¬ (1 + 5 * (s.pods.length : Int) + 4 * (s.nodes.length : Int) + 3 * (s.works.length : Int)) < 0 := by omega
  go_wp2_with fail
  refine (heldGroups_row (.slice ag s.groups.length cg0) _ B (1 + 5 * (s.pods.length : Int) + 4 * (s.nodes.length : Int) + 3 * (s.works.length : Int)) _ (by omega) (by omega) H.out.G).mono ?_
  rintro e w3 ⟨rfl, rfl⟩
  have n3 : ¬ (1 + 5 * (s.pods.length : Int) + 4 * (s.nodes.length : Int) + 3 * (s.works.length : Int) + 3 * (s.groups.length : Int)) < 0 := by omega
  go_wp2
  go_ret
  exact ⟨rfl, HG.out⟩

theorem stateR_len {t : List UInt8} {c : St} (h : stateR t = some c) : c.pods.length ≤ 5000 ∧ c.nodes.length ≤ 5000 ∧ c.works.length ≤ 5000 ∧ c.groups.length ≤ 5000 := by
  unfold stateR at h
  split at h
  · rename_i hl
    have hc := cut_length 10 t
    split at h
    · rename_i hd ls e1
      rw [e1] at hc
      simp only [List.length_cons] at hc
      split at h
      · rename_i s0 h0
        split at h
        · rename_i s1 h1
          split at h
          · cases h
            have h2 := linesS_len _ _ _ h1
            unfold headS at h0
            split at h0
            · cases h0
              simp only [st00, List.length_nil, Nat.zero_add] at h2
              omega
            · cases h0
          · cases h
        · cases h
      · cases h
    · cases h
  · cases h
theorem getD_len (t : List UInt8) : ((stateR t).getD s00).pods.length ≤ 5000 ∧ ((stateR t).getD s00).nodes.length ≤ 5000 ∧ ((stateR t).getD s00).works.length ≤ 5000 ∧ ((stateR t).getD s00).groups.length ≤ 5000 := by
  cases h : stateR t with
  | none => simp [s00]
  | some c => exact stateR_len h
theorem stateAt_zero (w : World) : StateAt w (.agg svz) s00 := ⟨none, 0, 0, none, 0, 0, none, 0, 0, none, 0, 0, rfl, ⟨rfl, by omega, .inl rfl⟩, ⟨rfl, by omega, .inl rfl⟩, ⟨rfl, by omega, .inl rfl⟩, rfl, by omega, .inl rfl⟩
theorem sRead (t : List UInt8) (w : World) (hl : t.length ≤ 2000000) :
    Calls Tryz.prog 10 #[str t] w fun e w' => ∃ v, StateAt w' v ((stateR t).getD s00) ∧ e = .returned (.tuple #[v, .bool (stateR t).isSome]) ∧ Below w.heap.size w w' := by
  refine (sStateRead_any t w hl).mono ?_
  rintro e w' ⟨⟨c, v, h1, h2, rfl⟩ | ⟨h1, rfl⟩, hb⟩
  · rw [h1]; exact ⟨v, h2, rfl, hb⟩
  · rw [h1]; exact ⟨_, stateAt_zero _, rfl, hb⟩
theorem pRead (t : List UInt8) (te : TypeId) (pe : Value) (w : World) (G : Gl (.iface te pe) w) (hl : t.length ≤ 2000000) :
    Calls Tryz.prog 11 #[str t] w fun e w' => ∃ vp vn vw vg, OS w' w.heap.size vp vn vw vg ((stateR t).getD s00) ∧ e = .returned (.tuple #[svl vp vn vw vg ((stateR t).getD s00), .bool (stateR t).isSome]) ∧ Below w.heap.size w w' := by
  refine (textStateRead_any t te pe w G hl).mono ?_
  rintro e w' ⟨⟨c, vp, vn, vw, vg, h1, h2, rfl⟩ | ⟨h1, rfl⟩, hb⟩
  · rw [h1]; exact ⟨vp, vn, vw, vg, h2, rfl, hb⟩
  · rw [h1]; exact ⟨_, _, _, _, OS.nil _ _ _ rfl rfl rfl rfl, rfl, hb⟩

set_option maxRecDepth 100000 in
set_option maxHeartbeats 4000000 in
theorem exTextStateRead (t : List UInt8) (te : TypeId) (pe : Value) (w : World) (G : Gl (.iface te pe) w) (ht : t.length ≤ 9223372036854775807) :
    Calls Tryz.prog 4 #[str t] w fun e w' => e = .returned (.bool true) ∧ Below w.heap.size w w' := by
  by_cases hbig : 1048576 < t.length
  · have hb : (1048576 : Int) < (t.length : Int) := by omega
    go_enter Tryz.func4, Tryz.ntmps4
    go_wp2
    go_ret
    exact ⟨rfl, by go_grown⟩
  have hb : ¬ (1048576 : Int) < (t.length : Int) := by omega
  have htl : t.length ≤ 2000000 := by omega
  have hlen := getD_len t
  have HS := sRead t
  have HP := fun w => pRead t te pe w
  obtain ⟨c, hc⟩ : ∃ c, (stateR t).getD s00 = c := ⟨_, rfl⟩
  obtain ⟨ok, hok⟩ : ∃ ok, (stateR t).isSome = ok := ⟨_, rfl⟩
  simp only [hc, hok] at hlen HS HP
  obtain ⟨hl1, hl2, hl3, hl4⟩ := hlen
  have HSR := hid HS
  have HPR := hid HP
  clear HS HP hc hok
  go_enter Tryz.func4, Tryz.ntmps4
  go_wp2_with fail
  refine (HSR.out w htl).mono ?_
  rintro e w1 ⟨v, hcv, rfl, hb1⟩
  have G1 := G.keep hb1
  have HG1 := hid G1
  have HB1 := hid hb1
  have HCV := hid hcv
  obtain ⟨a1, l1, c1, a2, l2, c2, a3, l3, c3, a4, l4, c4, rfl, -⟩ := hcv
  clear hb1 G HSR
  go_wp2_with fail
  refine (HPR.out _ (G1.keep (by go_grown)) htl).mono ?_
  rintro e w2 ⟨vp, vn, vw, vg, hoc, rfl, hb2⟩
  have X2 := (Blk.new w1 #[.slice a1 l1 c1, .slice a2 l2 c2, .slice a3 l3 c3, .slice a4 l4 c4, .int .i64 c.nextPod, .int .i64 c.nextNode] 36).below hb2 (by simp)
  have HB2 : Hid (Below w1.heap.size w1 w2) := Below.trans (by go_grown) (hb2.mono (by simp))
  have hoc := hoc.base (B' := w1.heap.size + 1) (by simp)
  obtain ⟨ap, cp0, rfl, -⟩ := hoc.P.form
  obtain ⟨an, cn0, rfl, -⟩ := hoc.N.form
  obtain ⟨aw, cw0, rfl, -⟩ := hoc.W.form
  obtain ⟨ag, cg0, rfl, -⟩ := hoc.G.form
  have HOC := hid hoc
  have HLT := hid hoc.lt
  have HX2 := hid X2
  have x2c := X2.cell
  have x2l := X2.lt
  clear hb2 hoc X2 G1
  go_wp2_with fail
  have hgr : Below w2.heap.size w2 (w2.alloc (.cells (sva (.slice ap c.pods.length cp0) (.slice an c.nodes.length cn0) (.slice aw c.works.length cw0) (.slice ag c.groups.length cg0) c) 36)) := by go_grown
  refine (eqState_same _ _ c _ ((HOC.out.keep hgr).state (by omega) (by omega) (by omega) (by omega)) (HCV.out.keep (HB2.out.trans (hgr.mono HB2.out.size)))).mono ?_
  rintro e w3 ⟨rfl, hb3⟩
  have Y3 := (Blk.new w2 (sva (.slice ap c.pods.length cp0) (.slice an c.nodes.length cn0) (.slice aw c.works.length cw0) (.slice ag c.groups.length cg0) c) 36).below hb3 (by simp)
  have HB3 : Hid (Below w2.heap.size w2 w3) := hgr.trans (hb3.mono hgr.size)
  have HX3 := hid (HX2.out.below HB3.out x2l)
  have HOC3 := hid (HOC.out.keep HB3.out)
  have HY3 := hid Y3
  have y3c := Y3.cell
  have y3l := Y3.lt
  clear hb3 Y3 x2c hgr
  go_wp2_with fail
  refine (markState_any _ _ _ _ c (w1.heap.size + 1) w3 HOC3.out hl1 hl2 hl3 hl4).mono ?_
  rintro e w4 ⟨rfl, hon4, hm4⟩
  have hs2 := HB2.out.size
  have hs3 := HB3.out.size
  have HB4 : Hid (Below w1.heap.size w1 w4) := Only.below (HB2.out.trans (HB3.out.mono HB2.out.size)) hon4 (Nat.le_trans HB2.out.size HB3.out.size) (fun k hk e => by have := (HLT.out k e).1; omega)
  have HX4 := hid (HX3.out.only hon4 (fun e => by have := (HLT.out _ e).1; omega))
  have HY4 := hid (HY3.out.only hon4 (fun e => by have := (HLT.out _ e).2; omega))
  have y4c := HY4.out.cell
  have hs4 := hon4.size
  have HM4 := hid hm4
  clear hon4 y3c hm4
  go_wp2_with fail
  refine (heldState_any _ _ _ _ c _ w4 HM4.out hl1 hl2 hl3 hl4).mono ?_
  rintro e w5 ⟨rfl, hb5⟩
  have n1 : ¬ (1 + 5 * (c.pods.length : Int) + 4 * (c.nodes.length : Int) + 3 * (c.works.length : Int) + 3 * (c.groups.length : Int)) < 0 := by omega
  have HX5 := hid (HX4.out.below hb5 HX4.out.lt)
  have HY5 := hid (HY4.out.below hb5 HY4.out.lt)
  have HB15 := hid (HB4.out.trans (hb5.mono HB4.out.size))
  have HM5 := hid (HM4.out.keep hb5)
  have x5l := HX5.out.lt
  have y5l := HY5.out.lt
  have G5 := HG1.out.keep HB15.out
  clear hb5 y4c
  go_wp2_with fail
  refine (HPR.out w5 G5 htl).mono ?_
  rintro e w6 ⟨vp, vn, vw, vg, hoc6, rfl, hb6⟩
  obtain ⟨ap2, cp2, rfl, -⟩ := hoc6.P.form
  obtain ⟨an2, cn2, rfl, -⟩ := hoc6.N.form
  obtain ⟨aw2, cw2, rfl, -⟩ := hoc6.W.form
  obtain ⟨ag2, cg2, rfl, -⟩ := hoc6.G.form
  have HOC6 := hid hoc6
  have HX6 := hid (HX5.out.below hb6 x5l)
  have HY6 := hid (HY5.out.below hb6 y5l)
  have HB16 := hid (HB15.out.trans (hb6.mono HB15.out.size))
  have HM6 := hid (HM5.out.keep hb6)
  have x6c := HX6.out.cell
  have x6l := HX6.out.lt
  have y6l := HY6.out.lt
  clear hb6 hoc6 G5
  go_wp2_with fail
  have hgr : Below w6.heap.size w6 (w6.alloc (.cells (sva (.slice ap2 c.pods.length cp2) (.slice an2 c.nodes.length cn2) (.slice aw2 c.works.length cw2) (.slice ag2 c.groups.length cg2) c) 36)) := by go_grown
  refine (eqState_same _ _ c _ ((HOC6.out.keep hgr).state (by omega) (by omega) (by omega) (by omega)) (HCV.out.keep (HB16.out.trans (hgr.mono HB16.out.size)))).mono ?_
  rintro e w7 ⟨rfl, hb7⟩
  have HB7 : Hid (Below w6.heap.size w6 w7) := hgr.trans (hb7.mono hgr.size)
  have HY7 := hid (HY6.out.below HB7.out y6l)
  have y7c := HY7.out.cell
  have HM7 := hid (HM6.out.keep HB7.out)
  have HB17 := hid (HB16.out.trans (HB7.out.mono HB16.out.size))
  clear hb7 x6c hgr
  go_wp2_with fail
  refine (heldState_any _ _ _ _ c _ w7 HM7.out hl1 hl2 hl3 hl4).mono ?_
  rintro e w8 ⟨rfl, hb8⟩
  have HB18 := hid (HB1.out.trans ((HB17.out.trans (hb8.mono HB17.out.size)).mono HB1.out.size))
  clear hb8 y7c
  go_wp2
  go_ret
  exact ⟨rfl, HB18.out⟩
end Go.Proofs.YthdlkpgialmlfaaGreatDoor
