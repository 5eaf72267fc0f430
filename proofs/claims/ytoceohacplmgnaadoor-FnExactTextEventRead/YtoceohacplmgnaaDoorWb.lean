/- Texts: one line, as the program writes it. -/
import Derived.Test.YtoceohacplmgnaaDoorWa
namespace Go.Proofs.YtoceohacplmgnaaDoor
open Go.RowKit

/-- A row of pointers to numbers that lie below B. -/
def PtrsAt (B : Nat) (w : World) (b : Nat) (ns : List Int) : Prop :=
  b < w.heap.size ∧ ∀ (i : Nat) (h : i < ns.length), ∃ q : Addr, q.block < B ∧ w.cell? ⟨b, i, none⟩ = some (.pointer (some q)) ∧ w.cell? q = some (.int .i64 ns[i])
theorem PtrsAt.keep {B : Nat} {w w' : World} {b : Nat} {ns : List Int} (h : PtrsAt B w b ns) (hb : Below w.heap.size w w') (hB : B ≤ w.heap.size) : PtrsAt B w' b ns := by
  refine ⟨Nat.lt_of_lt_of_le h.1 hb.size, fun i hi => ?_⟩
  obtain ⟨q, h1, h2, h3⟩ := h.2 i hi
  exact ⟨q, h1, by rw [hb.cell (p := ⟨b, i, none⟩) h.1]; exact h2, by rw [hb.cell (Nat.lt_of_lt_of_le h1 hB)]; exact h3⟩
theorem PtrsAt.grown {B g : Nat} {w w' : World} {b : Nat} {ns : List Int} (h : PtrsAt B w b ns) (hb : w.grownBy w' (some g)) (hB : B ≤ w.heap.size) (h1 : B ≤ g) (h2 : g ≠ b) : PtrsAt B w' b ns := by
  refine ⟨Nat.lt_of_lt_of_le h.1 hb.size, fun i hi => ?_⟩
  obtain ⟨q, q1, q2, q3⟩ := h.2 i hi
  have e1 := hb.block b h.1 (by simp; exact fun e => h2 e.symm)
  have e2 := hb.block q.block (Nat.lt_of_lt_of_le q1 hB) (by simp; omega)
  refine ⟨q, q1, ?_, ?_⟩
  · rw [← q2]; simp only [World.cell?, e1]
  · rw [← q3]; simp only [World.cell?, e2]
/-- A line: a word, and numbers behind it. -/
def lineP (wd : List UInt8) (ns : List Int) : List (List UInt8) := wd :: ns.map decB
def lineB (wd : List UInt8) (ns : List Int) : List UInt8 := [32].intercalate (lineP wd ns)
theorem inter_length (s : Nat) : ∀ (l : List (List UInt8)), (∀ x ∈ l, x.length ≤ s) → ([32].intercalate l).length ≤ (s + 1) * l.length
  | [], _ => by simp [List.intercalate]
  | [x], h => by have := h x (by simp); simp [List.intercalate]; omega
  | x :: y :: r, h => by
    have h1 := inter_length s (y :: r) (fun z hz => h z (by simp [hz]))
    have h2 := h x (by simp)
    have e : [32].intercalate (x :: y :: r) = x ++ 32 :: [32].intercalate (y :: r) := by simp [List.intercalate, List.intersperse]
    rw [e]
    simp only [List.length_append, List.length_cons] at h1 ⊢
    rw [Nat.mul_add _ (r.length + 1) 1]
    omega
/-- What stands behind an interface value: it tells its word and where its numbers lie. -/
structure LineAt (w : World) (T fw ff : Nat) (p : Value) (wd : List UInt8) (ns : List Int) : Prop where
  mw : ∀ w : World, (method 355 T p "loop.example/hive/impl.word").run Tryd.prog w = .ok (fw, p) w
  mf : ∀ w : World, (method 355 T p "loop.example/hive/impl.fields").run Tryd.prog w = .ok (ff, p) w
  ew : ∀ args (w : World), (callFunc fw args).run Tryd.prog w = .ok (.enter fw args) w
  ef : ∀ args (w : World), (callFunc ff args).run Tryd.prog w = .ok (.enter ff args) w
  cw : ∀ w1, Below w.heap.size w w1 → Calls Tryd.prog fw #[p] w1 fun e w2 => e = .returned (str wd) ∧ Below w1.heap.size w1 w2
  cf : ∀ w1, Below w.heap.size w w1 → Calls Tryd.prog ff #[p] w1 fun e w2 => ∃ b c, e = .returned (.slice (some ⟨b, 0, none⟩) ns.length c) ∧ w1.heap.size ≤ b ∧ PtrsAt w.heap.size w2 b ns ∧ Below w1.heap.size w1 w2

theorem bel_grn {w w' : World} (hb : Below w.heap.size w w') : w.grownBy w' none := ⟨hb.os, hb.tape, hb.output, hb.size, fun k hk _ => hb.block k hk⟩
/-- A row of one text, laid by a call, behind what goes on above it. -/
theorem sr_one {B : Nat} (w1 : World) {w2 : World} (wd : List UInt8) (h : B ≤ w1.heap.size) (hb : Below (w1.alloc (.cells #[str wd] 9)).heap.size (w1.alloc (.cells #[str wd] 9)) w2) :
    SR w2 B (.slice (some ⟨w1.heap.size, 0, none⟩) 1 1) [wd] := by
  refine ⟨by simp, .inr ⟨w1.heap.size, 1, #[str wd], rfl, h, ?_, Nat.le_refl _, by unfold maxLen; omega, by simp, by simp⟩⟩
  rw [hb.block w1.heap.size (by simp)]
  exact heap_alloc_new w1 _
theorem SR.row {W : World} {base g n c : Nat} {ks : List (List UInt8)} (h : SR W base (.slice (some ⟨g, 0, none⟩) n c) ks) :
    ks.length ≤ c ∧ ∀ (j : Nat) (x : ByteArray), (ks.map fun k => (⟨k.toArray⟩ : ByteArray))[j]? = some x → W.cell? ⟨g, 0 + j, none⟩ = some (.string x) := by
  refine ⟨?_, fun j x hx => ?_⟩
  · rcases h.2 with ⟨h1, _⟩ | ⟨g', cap, cur, h1, _, _, h2, _⟩
    · simp at h1
    · simp at h1
      omega
  · rw [List.getElem?_map] at hx
    obtain ⟨k, hk, rfl⟩ : ∃ k, ks[j]? = some k ∧ (⟨k.toArray⟩ : ByteArray) = x := by simpa using hx
    have hj : j < ks.length := (List.getElem?_eq_some_iff.1 hk).1
    have hn : n = ks.length := by
      rcases h.2 with ⟨h1, _⟩ | ⟨g', cap, cur, h1, _⟩
      · simp at h1
      · simp at h1
        exact h1.2.1
    subst hn
    rw [Nat.zero_add, World.ownsRow.cellAt h j (by omega), List.getElem?_map, hk]
    rfl
theorem map_back (ks : List (List UInt8)) : (ks.map fun k => (⟨k.toArray⟩ : ByteArray)).map (·.data.toList) = ks := by
  rw [List.map_map]; exact List.map_id' ks
/-- The library's Join of a row of texts of one's own. -/
theorem join_any (g c n base : Nat) (ks : List (List UInt8)) (sep : List UInt8) (w : World) (h : SR w base (.slice (some ⟨g, 0, none⟩) n c) ks) (hn : n = ks.length)
    (h1 : ks.length ≤ 100000000) (h2 : (sep.intercalate ks).length ≤ 140737488355328) :
    Calls Tryd.prog 68 #[.slice (some ⟨g, 0, none⟩) n c, str sep] w fun e w' => e = .returned (str (sep.intercalate ks)) ∧ Below w.heap.size w w' := by
  obtain ⟨r1, r2⟩ := h.row
  have hlt := h.lt.2
  subst hn
  have := Tryd.strings_Join g 0 c (ks.map fun k => (⟨k.toArray⟩ : ByteArray)) ⟨sep.toArray⟩ w r2 hlt (by simp; omega) (by simpa using r1) (by rw [map_back]; exact h2)
  rw [map_back] at this
  simpa [Lib.join] using this

set_option maxRecDepth 100000 in
set_option maxHeartbeats 2000000 in
theorem line_any {T fw ff : Nat} {p : Value} {wd : List UInt8} {ns : List Int} (w : World) (h : LineAt w T fw ff p wd ns) (hT : Tab w)
    (hI : ∀ n ∈ ns, I64 n) (hn : ns.length ≤ 20) (hwd : wd.length ≤ 100) :
    Calls Tryd.prog 52 #[.iface T p] w fun e w' => e = .returned (str (lineB wd ns)) ∧ Below w.heap.size w w' := by
  obtain ⟨inf9, i1, i2, i3, i4⟩ := info_parts info9
  have I1 := hid i1
  have I2 := hid i2
  have I3 := hid i3
  have I4 := hid i4
  clear i1 i2 i3 i4
  have hmw := h.mw
  have hmf := h.mf
  have HI := hid hI
  clear hI
  go_enter Tryd.func52, Tryd.ntmps52
  have hew := h.ew
  have hef := h.ef
  go_wp2_with fail
  refine (h.cw w (Below.refl _ _)).mono ?_
  rintro e w1 ⟨rfl, hb1⟩
  go_wp2_with fail
  refine (h.cf _ (hb1.alloc hb1.size _)).mono ?_
  rintro e w2 ⟨b, c, rfl, hbn, hP, hb2⟩
  clear hmw hmf hew hef
  have HP := hid hP
  have hb3 : Below w.heap.size w w2 := (hb1.alloc hb1.size _).trans (hb2.mono (by have := hb1.size; simp; omega))
  have hO : SR w2 w.heap.size (.slice (some ⟨w1.heap.size, 0, none⟩) 1 1) [wd] := sr_one w1 wd hb1.size hb2
  have HO := hid hO
  have hbn2 : w1.heap.size ≠ b := by simp at hbn; omega
  have hb1s := hb1.size
  clear hP hb1 hb2 hbn hO
  go_wp2
  go_loopw [3, 12] (fun o i w' => ∃ (g cp k : Nat), o = .slice (some ⟨g, 0, none⟩) (k + 1) cp ∧ i = .int .i64 k ∧ k ≤ ns.length ∧ g ≠ b ∧ SR w' w.heap.size (.slice (some ⟨g, 0, none⟩) (k + 1) cp) (lineP wd (ns.take k)) ∧ Hid (PtrsAt w.heap.size w' b ns) ∧ Below w.heap.size w w') (fun _ i _ => ns.length - (intOf i).toNat)
  case atStart => exact ⟨w1.heap.size, 1, 0, rfl, rfl, by omega, hbn2, HO.out, HP, hb3⟩
  case round =>
    obtain ⟨g, cp, k, rfl, rfl, hk, hgb, hO, HP, hb⟩ := hrel
    have HO := hid hO
    have HB := hid hb
    have hgl := hO.lt
    have hsz : w.heap.size ≤ wr.heap.size := hb.size
    have hTr := hT.keep hb
    clear hO hb
    have hk0 : (0 : Int) ≤ (k : Int) := by omega
    by_cases hkl : k < ns.length
    · have hkn : (k : Int) < (ns.length : Int) := by omega
      obtain ⟨q, q1, q2, q3⟩ := HP.out.2 k hkl
      have hbs := HP.out.1
      go_wp2_with fail
      refine (itoa_any ns[k] _ (HI.out _ (List.getElem_mem hkl)) hTr).mono ?_
      rintro e w4 ⟨rfl, hb4⟩
      have hb4s := hb4.size
      have hO4 : SR w4 w.heap.size (.slice (some ⟨g, 0, none⟩) (k + 1) cp) (lineP wd (ns.take k)) := World.ownsRow.kept HO.out (bel_grn hb4) (by simp [Value.ownBlock])
      have HO4 := hid hO4
      have HP4 := hid (HP.out.keep hb4 hsz)
      have HB4 := hid (HB.out.trans (hb4.mono hsz))
      have hlen : (lineP wd (ns.take k)).length = k + 1 := by simp [lineP]; omega
      have hE : Hid (lineP wd (ns.take (k + 1)) = lineP wd (ns.take k) ++ [decB ns[k]]) := by
        rw [Hid, lineP, lineP, List.take_succ_eq_append_getElem hkl, List.map_append]; rfl
      clear hO4 HO HP HB hb4 hTr q2 q3
      go_wp2_with (refine wpList_append_own_at _ (by rfl) _ _ _ (by rfl) w.heap.size 9 inf9 _ 1 16 Tryd.underlying113 I1.out I2.out I3.out I4.out (by rfl) (by omega) (.slice (some ⟨g, 0, none⟩) (k + 1) cp) (k + 1) ((lineP wd (ns.take k)).map str) (by rfl) (World.ownsRow.alloc (by have := HO4.out; rw [SR, hlen] at this; exact this) _) _ 1 1 [str (decB ns[k])] (by rfl) (by rfl) (cell_one_new _ _ _) (by intro u hu; simp at hu; subst hu; rfl) (by unfold maxLen; omega) (by omega) (by simp; omega) ?_; intro vd W5 hown' hgrow hnil hfr; obtain ⟨g2, c2, rfl⟩ := row_form hown')
      have hO5 : SR W5 w.heap.size (.slice (some ⟨g2, 0, none⟩) (k + 1 + 1) c2) (lineP wd (ns.take (k + 1))) := by
        rw [SR, hE.out, List.length_append, hlen, List.map_append]
        exact hown'
      have hb6 : Below w.heap.size w W5 := below_grown2 (HB4.out.alloc HB4.out.size _) hgrow (by have := HB4.out.size; simp; omega) (fun g' e => by simp [Value.ownBlock] at e; omega)
      have hs4 : w.heap.size ≤ w4.heap.size := HB4.out.size
      have hs5 : (w4.alloc (.cells #[str (decB ns[k])] 9)).heap.size = w4.heap.size + 1 := by simp
      have hP5 : Hid (PtrsAt w.heap.size W5 b ns) := (HP4.out.keep (w' := w4.alloc (.cells #[str (decB ns[k])] 9)) (by go_grown) (by omega)).grown hgrow (by omega) hgl.1 hgb
      have hg2 : g2 ≠ b := by
        simp only [Value.ownBlock] at hfr
        have := HP4.out.1
        rcases hfr with e | e <;> simp at e <;> omega
      refine ⟨⟨g2, c2, k + 1, rfl, by simp, by omega, hg2, hO5, hP5, hb6⟩, ?_⟩
      simp [intOf]
      omega
    · have hkk : k = ns.length := by omega
      have hkn : ¬ (k : Int) < (ns.length : Int) := by omega
      clear HP
      have HE : Hid (lineP wd (ns.take k) = lineP wd ns) := by rw [Hid, hkk, List.take_length]
      have hlen : (lineP wd (ns.take k)).length = k + 1 := by simp [lineP]; omega
      clear hkk
      go_wp2_with fail
      refine (join_any g cp (k + 1) w.heap.size (lineP wd (ns.take k)) [32] wr HO.out hlen.symm (by omega) ?_).mono ?_
      · have := inter_length 100 (lineP wd (ns.take k)) (fun x hx => by
          simp only [lineP, List.mem_cons, List.mem_map] at hx
          rcases hx with rfl | ⟨n, hn, rfl⟩
          · exact hwd
          · have := decB_length (HI.out n (List.mem_of_mem_take hn))
            omega)
        rw [hlen] at this
        omega
      rintro e w5 ⟨rfl, hb5⟩
      go_wp2
      go_ret
      exact ⟨by rw [HE.out]; rfl, HB.out.trans (hb5.mono hsz)⟩
end Go.Proofs.YtoceohacplmgnaaDoor
