/- Texts: the numbers of one line, as the program reads them. -/
import Derived.Test.YthdlkpgialmlfaaGreatDoorXb
import Derived.Test.YthdlkpgialmlfaaGreatDoorBk
namespace Go.Proofs.YthdlkpgialmlfaaGreatDoor
open Go.RowKit

theorem gl_heap {ev : Value} {w : World} (G : Gl ev w) {w' : World} {r : Nat} (h : w.grownBy w' (some r)) (hr : 9 ≤ r) : Gl ev w' := by
  have hb := G.big
  have hc : ∀ i, i < 9 → ∀ o, w'.cell? ⟨i, o, none⟩ = w.cell? ⟨i, o, none⟩ := fun i hi o => by
    have := h.block i (by omega) (by simp; omega)
    simp only [World.cell?, this]
  refine ⟨?_, ?_, ?_, ?_, ?_, Nat.le_trans hb h.size⟩
  · have ht := G.tab
    unfold Tab Lib.TabIs World.var? at ht ⊢
    rw [show Tryz.prog.globalNamed "internal/strconv.uint64pow10" = some 6 by kernel_rfl] at ht ⊢
    simp only [Option.bind_some] at ht ⊢
    rw [h.block 6 (by omega) (by simp; omega)]
    exact ht
  · obtain ⟨m, hm⟩ := G.maxLen; exact ⟨m, by rw [hc 1 (by omega)]; exact hm⟩
  · obtain ⟨m, p, hm⟩ := G.syn; exact ⟨m, p, by rw [hc 4 (by omega)]; exact hm⟩
  · obtain ⟨m, p, hm⟩ := G.ran; exact ⟨m, p, by rw [hc 5 (by omega)]; exact hm⟩
  · rw [hc 0 (by omega)]; exact G.no
/-- A row of pointers into the block r. -/
def PtrR (w : World) (b r : Nat) (os : List Nat) : Prop := b < w.heap.size ∧ ∀ (i : Nat) (h : i < os.length), w.cell? ⟨b, i, none⟩ = some (.pointer (some ⟨r, os[i], none⟩))
theorem PtrR.grown {w w' : World} {b r : Nat} {os : List Nat} (h : PtrR w b r os) (hg : w.grownBy w' (some r)) (hb : b ≠ r) : PtrR w' b r os := by
  refine ⟨Nat.lt_of_lt_of_le h.1 hg.size, fun i hi => ?_⟩
  have := hg.block b h.1 (by simpa using hb)
  rw [← h.2 i hi]
  simp only [World.cell?, this]
/-- Cells in which some numbers are put. -/
def setN (cs : Array Value) : List Nat → List Int → Array Value
  | o :: os, n :: ns => setN (cs.setIfInBounds o (.int .i64 n)) os ns
  | _, _ => cs
theorem setN_snoc : ∀ (os : List Nat) (ns : List Int) (cs : Array Value) (o : Nat) (n : Int), os.length = ns.length → setN cs (os ++ [o]) (ns ++ [n]) = (setN cs os ns).setIfInBounds o (.int .i64 n)
  | [], [], _, _, _, _ => rfl
  | [], _ :: _, _, _, _, h => by simp at h
  | _ :: _, [], _, _, _, h => by simp at h
  | x :: os, y :: ns, cs, o, n, h => by
    simp only [List.cons_append, setN]
    exact setN_snoc os ns _ o n (by simpa using h)
theorem setN_size : ∀ (os : List Nat) (ns : List Int) (cs : Array Value), (setN cs os ns).size = cs.size
  | [], _, _ => by simp [setN]
  | _ :: _, [], _ => by simp [setN]
  | x :: os, y :: ns, cs => by rw [setN, setN_size]; simp
theorem grown_trans {w w1 w2 : World} {r : Nat} (h1 : w.grownBy w1 (some r)) (h2 : w1.grownBy w2 (some r)) : w.grownBy w2 (some r) :=
  ⟨h2.os.trans h1.os, h2.tape.trans h1.tape, h2.output.trans h1.output, Nat.le_trans h1.size h2.size, fun k hk hr => (h2.block k (Nat.lt_of_lt_of_le hk h1.size) hr).trans (h1.block k hk hr)⟩
theorem grown_of {w w1 : World} {r : Nat} (h1 : Below w.heap.size w w1) : w.grownBy w1 (some r) := ⟨h1.os, h1.tape, h1.output, h1.size, fun k hk _ => h1.block k hk⟩

/-- The library's SplitN at a blank. -/
theorem splitN_any (l : List UInt8) (m : Nat) (w : World) (hl : l.length ≤ 2000000) (hM : ∃ m : Int, w.cell? ⟨1, 0, none⟩ = some (.int .i64 m)) (hm : m ≤ 100) :
    Calls Tryz.prog 82 #[str l, str [32], .int .i64 ((m : Int) + 1)] w fun e w' => ∃ (ps : List (List UInt8)) (c : Nat), ps = Lib.splitK [32] 0 (min (m + 1) (l.length + 1) - 1) l ∧ e = .returned (.slice (some ⟨w.heap.size, 0, none⟩) ps.length c) ∧ w.heap.size < w'.heap.size ∧
      (∀ (i : Nat) (h : i < ps.length), w'.cell? ⟨w.heap.size, i, none⟩ = some (str ps[i])) ∧ Below w.heap.size w w' := by
  obtain ⟨k, hk⟩ := hM
  have hsz : (ByteArray.mk l.toArray).size = l.length := by show l.toArray.size = l.length; simp
  have h := Tryz.strings_SplitN ⟨l.toArray⟩ ⟨#[32]⟩ (m + 1) k w (by rw [hsz]; omega) hk (by decide) (by omega) (by omega)
  rw [hsz] at h
  rw [show ((m : Int) + 1) = ((m + 1 : Nat) : Int) by simp]
  refine Calls.mono h ?_
  rintro e w' ⟨rfl, rfl⟩
  have hd := Lib.splitB_data ⟨#[32]⟩ 0 (min (m + 1) (l.length + 1) - 1) ⟨l.toArray⟩
  obtain ⟨bs, hbs⟩ : ∃ bs, Lib.splitB ⟨#[32]⟩ 0 (min (m + 1) (l.length + 1) - 1) ⟨l.toArray⟩ = bs := ⟨_, rfl⟩
  rw [hbs] at hd ⊢
  have hd2 : bs.map (·.data.toList) = Lib.splitK [32] 0 (min (m + 1) (l.length + 1) - 1) l := by simpa using hd
  rw [← hd2]
  refine ⟨_, _, rfl, by rw [List.length_map], by simp, fun i hi => ?_, by go_grown⟩
  have hi2 : i < bs.length := by simpa using hi
  simp only [go_sem, Lib.cellsOf]
  simp
  rw [List.getElem?_append_left (by simpa using hi2), List.getElem?_map, List.getElem?_eq_getElem hi2]
  rfl

/-- Where the numbers of a record lie: what a line's method 'fields' tells. -/
structure FieldsAt (w : World) (T ff r o : Nat) (os : List Nat) : Prop where
  mf : ∀ w : World, (method 314 T (.pointer (some ⟨r, o, none⟩)) "loop.example/hive/impl.fields").run Tryz.prog w = .ok (ff, .pointer (some ⟨r, o, none⟩)) w
  ef : ∀ args (w : World), (callFunc ff args).run Tryz.prog w = .ok (.enter ff args) w
  cf : Calls Tryz.prog ff #[.pointer (some ⟨r, o, none⟩)] w fun e w2 => ∃ b c, e = .returned (.slice (some ⟨b, 0, none⟩) os.length c) ∧ w.heap.size ≤ b ∧ PtrR w2 b r os ∧ Below w.heap.size w w2

set_option maxRecDepth 100000 in
set_option maxHeartbeats 2000000 in
theorem readNumbers_any {T ff r o ty : Nat} {os : List Nat} {cs : Array Value} (t : List UInt8) (te : TypeId) (pe : Value) (w : World) (G : Gl (.iface te pe) w) (hF : FieldsAt w T ff r o os) (hB : Blk w r cs ty) (hr : 9 ≤ r)
    (ho : ∀ o ∈ os, o < cs.size) (h1 : 1 ≤ os.length) (h2 : os.length ≤ 20) (ht : t.length ≤ 2000000) :
    Calls Tryz.prog 73 #[.iface T (.pointer (some ⟨r, o, none⟩)), str t] w fun e w' => w.grownBy w' (some r) ∧
      ((∃ ns, readB t os.length = some ns ∧ e = .returned (.tuple #[]) ∧ Blk w' r (setN cs os ns) ty) ∨ (readB t os.length = none ∧ e = pan (.iface te pe))) := by
  have hmf := hF.mf
  have hef := hF.ef
  have HBk := hid hB
  have hrl := hB.lt
  go_enter Tryz.func73, Tryz.ntmps73
  go_wp2_with fail
  refine hF.cf.mono ?_
  rintro e w1 ⟨b, c, rfl, hb, hP, hb1⟩
  clear hmf hef hF hB
  have G1 := G.keep hb1
  have HB1 := hid (HBk.out.below hb1 hrl)
  have HP1 := hid hP
  have H1 := hid hb1
  have hs1 := hb1.size
  clear hb1 hP HBk
  go_wp2_with fail
  refine (splitN_any t os.length w1 ht G1.maxLen (by omega)).mono ?_
  rintro e w2 ⟨ps, c2, hps, rfl, hl2, hc2, hb2⟩
  have hsp := splitN_one t os.length
  have hsq := fun h => splitN_eq (l := t) (m := os.length) h
  rw [← hps] at hsp hsq
  have HSP := hid hsp
  have HSQ := hid hsq
  clear hps hsp hsq
  have G2 := G1.keep hb2
  have g2 := G2.no
  have HB2 := hid (HB1.out.below hb2 (by omega))
  have HP2 := hid (HP1.out.grown (grown_of (r := r) hb2) (by omega))
  have H2 := hid (H1.out.trans (hb2.mono hs1))
  have HC2 := hid hc2
  have hbw := HP1.out.1
  have hs2 := hb2.size
  clear hb2 HB1 HP1 H1 hc2 G1
  by_cases hlen : ps.length = os.length
  · obtain ⟨hcl, hpc⟩ := HSP.out.1 hlen
    have e0 : ((ps.length : Int) == (os.length : Int)) = true := by simp [hlen]
    go_wp2_with fail
    refine (must_yes w2).mono ?_
    rintro e w3 ⟨rfl, rfl⟩
    have HPC := hid hpc
    have HCL := hid hcl
    clear hpc hcl HSP HSQ e0
    go_wp2
    go_loopw [23] (fun i w' => ∃ (k : Nat) (ns : List Int), i = .int .i64 k ∧ k ≤ os.length ∧ ns.length = k ∧ Hid (∀ (j : Nat) (h : j < ns.length) (h' : j < ps.length), isNum ps[j] ns[j]) ∧ Hid (w3.grownBy w' (some r)) ∧ Hid (Blk w' r (setN cs (os.take k) ns) ty)) (fun i _ => os.length - (intOf i).toNat)
    case atStart => exact ⟨0, [], rfl, Nat.zero_le _, rfl, fun j h => absurd h (by simp), grown_of (Below.refl _ _), by rw [Hid]; simpa [setN] using HB2.out⟩
    case round =>
      obtain ⟨k, ns, rfl, hk, hnl, HN, HG, HBr⟩ := hrel
      have hk0 : (0 : Int) ≤ (k : Int) := by omega
      by_cases hkl : k < os.length
      · have hkn : (k : Int) < (os.length : Int) := by omega
        have hkp : k < ps.length := by omega
        have hks : (k : Int) < (ps.length : Int) := by omega
        have q1 := (HP2.out.grown HG.out (by omega)).2 k hkl
        have q2 : wr.cell? ⟨w1.heap.size, k, none⟩ = some (str ps[k]) := by
          rw [← HC2.out k hkp]
          have := HG.out.block w1.heap.size (by omega) (by simp; omega)
          simp only [World.cell?, this]
        have hpl : ps[k].length ≤ 2000000 := by
          have : ps[k] ∈ cutB 32 t := by rw [← HPC.out]; exact List.getElem_mem hkp
          have := cut_mem 32 t _ this
          omega
        have GR := gl_heap (gl_heap G2 (grown_of (r := r) (Below.refl _ _)) hr) HG.out hr
        have hgw := HG.out.size
        have hok : os[k] < cs.size := ho _ (List.getElem_mem hkl)
        go_wp2_with fail
        refine (readNumber_any ps[k] te pe wr GR hpl).mono ?_
        rintro e w4 ⟨hres, hb4⟩
        have hB4 := HBr.out.below hb4 (HBr.out.lt)
        have HG4 := hid (grown_trans HG.out (grown_of (r := r) hb4))
        have hu : ∃ u, w4.cell? ⟨r, os[k], none⟩ = some u := ⟨_, (hB4.cell os[k]).trans (Array.getElem?_eq_getElem (by rw [setN_size]; exact hok))⟩
        obtain ⟨u, hu⟩ := hu
        have hf := hB4.frozen os[k]
        rcases hres with ⟨v, hv, rfl⟩ | ⟨hno, rfl⟩
        · have HN2 : Hid (∀ (j : Nat) (h : j < (ns ++ [v]).length) (h' : j < ps.length), isNum ps[j] (ns ++ [v])[j]) := fun j h h' => by
            by_cases hj : j < ns.length
            · rw [List.getElem_append_left hj]; exact HN.out j hj h'
            · have : j = ns.length := by simp at h; omega
              subst this
              rw [List.getElem_append_right (by omega)]
              simp only [Nat.sub_self, List.getElem_cons_zero]
              have e : ns.length = k := hnl
              subst e
              exact hv
          have HB5 : Hid (Blk (w4.setCell ⟨r, os[k], none⟩ (.int .i64 v)) r (setN cs (os.take (k + 1)) (ns ++ [v])) ty) := by
            rw [Hid, List.take_succ_eq_append_getElem hkl, setN_snoc _ _ _ _ _ (by simp; omega)]
            exact hB4.set _ _
          have HG5 : Hid (w3.grownBy (w4.setCell ⟨r, os[k], none⟩ (.int .i64 v)) (some r)) :=
            grown_trans HG4.out ⟨rfl, rfl, rfl, by simp, fun j _ hj => Below.heap_setCell _ _ _ _ (fun e => hj (by rw [e]))⟩
          clear hv hB4 HG4 HN HG HBr GR q1 q2
          go_wp2
          refine ⟨⟨k + 1, ns ++ [v], by simp, by omega, by simp [hnl], HN2, HG5, HB5⟩, ?_⟩
          simp [intOf]
          omega
        · have hnone : Hid (readB t os.length = none) := by
            cases hrd : readB t os.length with
            | none => rfl
            | some xs =>
              exfalso
              obtain ⟨x1, x2, x3⟩ := (readB_pieces (by omega)).1 hrd
              have hxl : xs.length = os.length := by rw [← x1, ← x2, List.length_map]
              apply hno
              refine ⟨xs[k]'(by omega), ?_, by have := x3 (xs[k]'(by omega)) (List.getElem_mem _); simpa [inM] using this⟩
              have e : ps[k] = (xs.map decB)[k]'(by rw [List.length_map]; omega) := by
                have h5 := HPC.out.trans x2.symm
                simp only [h5]
              rw [e, List.getElem_map]
          go_wp2
          refine ⟨rfl, grown_trans (grown_of H2.out) HG4.out, .inr ⟨hnone.out, rfl⟩⟩
      · have hkn : ¬ (k : Int) < (os.length : Int) := by omega
        have hkk : k = os.length := by omega
        have hyes : Hid (readB t os.length = some ns) := by
          refine (readB_pieces (by omega)).2 ⟨HCL.out, ?_, ?_⟩
          · rw [← HPC.out]
            apply List.ext_getElem (by rw [List.length_map]; omega)
            intro j h1 h2
            rw [List.getElem_map]
            exact (HN.out j (by simpa using h1) h2).1
          · intro n hn
            obtain ⟨j, hj, rfl⟩ := List.getElem_of_mem hn
            have := (HN.out j hj (by omega)).2
            simpa [inM] using this
        have HB6 : Hid (Blk wr r (setN cs os ns) ty) := by
          have := HBr.out
          rw [hkk, List.take_length] at this
          exact this
        clear hkk
        go_wp2
        go_end0
        exact ⟨grown_trans (grown_of H2.out) HG.out, .inl ⟨ns, hyes.out, rfl, HB6.out⟩⟩
  · have hno : Hid (readB t os.length = none) := by
      cases hrd : readB t os.length with
      | none => rfl
      | some ns =>
        exfalso
        have h3 := ((readB_pieces (by omega)).1 hrd).1
        exact hlen (by rw [HSQ.out h3, h3])
    have e0 : ((ps.length : Int) == (os.length : Int)) = false := by simp; omega
    go_wp2_with fail
    refine (must_no te pe w2 g2).mono ?_
    rintro e w3 ⟨rfl, rfl⟩
    go_wp2
    refine ⟨rfl, grown_of H2.out, .inr ⟨hno.out, rfl⟩⟩
end Go.Proofs.YthdlkpgialmlfaaGreatDoor
