/- Texts: several lines, as the program writes them. -/
import Derived.Test.YtoceohacplmgnaaDoorWb
import Derived.Test.YtoceohacplmgnaaDoorBk
import Derived.Test.YtoceohacplmgnaaDoorLa
namespace Go.Proofs.YtoceohacplmgnaaDoor
open Go.RowKit

/-- A line behind an interface value: a record in a block of its own. -/
structure Ln where
  T : Nat
  fw : Nat
  ff : Nat
  r : Nat
  ty : Nat
  cs : Array Value
  wd : List UInt8
  ns : List Int
def Ln.val (l : Ln) : Value := .iface l.T (.pointer (some ⟨l.r, 0, none⟩))
def Ln.text (l : Ln) : List UInt8 := lineB l.wd l.ns
structure LnOk (l : Ln) : Prop where
  line : ∀ w, Blk w l.r l.cs l.ty → LineAt w l.T l.fw l.ff (.pointer (some ⟨l.r, 0, none⟩)) l.wd l.ns
  ints : ∀ n ∈ l.ns, I64 n
  few : l.ns.length ≤ 20
  short : l.wd.length ≤ 100
/-- A row of lines, of one's own; each record lies elsewhere. -/
def LinesAt (W : World) (base : Nat) (v : Value) (ls : List Ln) : Prop :=
  W.ownsRow base 140 1 v ls.length (ls.map Ln.val) ∧ ∀ l ∈ ls, LnOk l ∧ Blk W l.r l.cs l.ty ∧ v.ownBlock ≠ some l.r
def linesB (ls : List Ln) : List UInt8 := [10].intercalate (ls.map Ln.text)
theorem LinesAt.keep {W W' : World} {base : Nat} {v : Value} {ls : List Ln} (h : LinesAt W base v ls) (hb : Below W.heap.size W W') : LinesAt W' base v ls :=
  ⟨World.ownsRow.kept h.1 (bel_grn hb) (by cases h' : v.ownBlock <;> simp), fun l hl => ⟨(h.2 l hl).1, (h.2 l hl).2.1.below hb (h.2 l hl).2.1.lt, (h.2 l hl).2.2⟩⟩
theorem lineB_length {l : Ln} (h : LnOk l) : l.text.length ≤ 3000 := by
  have h1 := inter_length 100 (lineP l.wd l.ns) (fun x hx => by
    simp only [lineP, List.mem_cons, List.mem_map] at hx
    rcases hx with rfl | ⟨n, hn, rfl⟩
    · exact h.short
    · have := decB_length (h.ints n hn)
      omega)
  have h2 := h.few
  have h3 : (lineP l.wd l.ns).length = l.ns.length + 1 := by simp [lineP]
  rw [h3] at h1
  have h4 : l.text = [32].intercalate (lineP l.wd l.ns) := rfl
  rw [h4]
  omega
theorem inter10_length (s : Nat) : ∀ (l : List (List UInt8)), (∀ x ∈ l, x.length ≤ s) → ([10].intercalate l).length ≤ (s + 1) * l.length
  | [], _ => by simp [List.intercalate]
  | [x], h => by have := h x (by simp); simp [List.intercalate]; omega
  | x :: y :: r, h => by
    have h1 := inter10_length s (y :: r) (fun z hz => h z (by simp [hz]))
    have h2 := h x (by simp)
    have e : [10].intercalate (x :: y :: r) = x ++ 10 :: [10].intercalate (y :: r) := by simp [List.intercalate, List.intersperse]
    rw [e]
    simp only [List.length_append, List.length_cons] at h1 ⊢
    rw [Nat.mul_add _ (r.length + 1) 1]
    omega
theorem SR.set {W : World} {base g n c : Nat} {ks : List (List UInt8)} (h : SR W base (.slice (some ⟨g, 0, none⟩) n c) ks) (hn : n = ks.length) (k : Nat) (t : List UInt8) : SR (W.setCell ⟨g, k, none⟩ (str t)) base (.slice (some ⟨g, 0, none⟩) n c) (ks.set k t) := by
  subst hn
  have := World.ownsRow.stored h k (str t)
  unfold SR
  rw [List.length_set, List.map_set]
  exact this.1
def textsP (ls : List Ln) (k : Nat) : List (List UInt8) := (ls.take k).map Ln.text ++ List.replicate (ls.length - k) []
theorem textsP_length (ls : List Ln) (k : Nat) (h : k ≤ ls.length) : (textsP ls k).length = ls.length := by simp [textsP]; omega
theorem textsP_set (ls : List Ln) (k : Nat) (h : k < ls.length) : (textsP ls k).set k ls[k].text = textsP ls (k + 1) := by
  have e : ls.length - k = (ls.length - (k + 1)) + 1 := by omega
  have h1 : ((ls.take k).map Ln.text).length = k := by simp; omega
  rw [textsP, e, List.replicate_succ, List.set_append_right _ _ (by omega), h1, Nat.sub_self, List.set_cons_zero, textsP, List.take_succ_eq_append_getElem h, List.map_append]
  simp
set_option maxRecDepth 100000 in
set_option maxHeartbeats 2000000 in
/-- The program's lines, one behind the other. -/
theorem lines_any (g c n base : Nat) (ls : List Ln) (w : World) (h : LinesAt w base (.slice (some ⟨g, 0, none⟩) n c) ls) (hn : n = ls.length) (hT : Tab w) (hl : ls.length ≤ 20000000) :
    Calls Tryd.prog 34 #[.slice (some ⟨g, 0, none⟩) n c] w fun e w' => e = .returned (str (linesB ls)) ∧ Below w.heap.size w w' := by
  obtain ⟨inf9, i1, i2, i3, i4⟩ := info_parts info9
  obtain ⟨w0, hrun, hown, hgrow⟩ := run_make_full (P := Tryd.prog) w w.heap.size 113 9 inf9 _ 1 Tryd.underlying113 i1 i2 i3 .i64 .i64 n (by rw [i4]; omega) (by unfold maxLen; omega) (Nat.le_refl _)
  have HN := hid hn
  have HH := hid h
  have HG := hid (grown_bel hgrow)
  have hsz : w.heap.size < w0.heap.size := (hown.lt _ rfl).2
  have hgl : g < w.heap.size := (h.1.lt _ rfl).2
  have HS : Hid (SR w0 w.heap.size (.slice (some ⟨w.heap.size, 0, none⟩) n n) (textsP ls 0)) := by
    have e : (textsP ls 0).length = n := by rw [textsP_length ls 0 (by omega)]; exact hn.symm
    rw [Hid, SR, e]
    have e2 : (textsP ls 0).map str = List.replicate n (.string ⟨#[]⟩) := by
      rw [textsP, hn]
      simp
    rw [e2]
    rw [show (Value.string ⟨#[]⟩).cells = #[Value.string ⟨#[]⟩] from rfl, Nat.mul_one, toList_madeCells_one] at hown
    exact hown
  clear h hn hown hgrow i1 i2 i3 i4
  go_enter Tryd.func34, Tryd.ntmps34
  go_wp2
  go_loopw [11] (fun i w' => ∃ k : Nat, i = .int .i64 k ∧ k ≤ n ∧ Hid (SR w' w.heap.size (.slice (some ⟨w.heap.size, 0, none⟩) n n) (textsP ls k)) ∧ Hid (Below w.heap.size w w')) (fun i _ => n - (intOf i).toNat)
  case atStart => exact ⟨0, rfl, Nat.zero_le _, HS, HG⟩
  case round =>
    obtain ⟨k, rfl, hk, HO, HB⟩ := hrel
    have hk0 : (0 : Int) ≤ (k : Int) := by omega
    have hsz2 : w.heap.size < wr.heap.size := (HO.out.lt).2
    by_cases hkl : k < n
    · have hkn : (k : Int) < (n : Int) := by omega
      have hkls : k < ls.length := by rw [← HN.out]; exact hkl
      have hmem := List.getElem_mem hkls
      obtain ⟨hok, hblk, hdum⟩ := HH.out.2 _ hmem
      have hcell : wr.cell? ⟨g, k, none⟩ = some (.iface ls[k].T (.pointer (some ⟨ls[k].r, 0, none⟩))) := by
        rw [HB.out.cell (p := ⟨g, k, none⟩) hgl]
        have h1 := HH.out.1
        rw [HN.out] at h1
        rw [World.ownsRow.cellAt h1 k (by simpa using hkls)]
        simp [hkls, Ln.val]
      have HL := hid (line_any wr (hok.line wr (hblk.below HB.out hblk.lt)) (hT.keep HB.out) hok.ints hok.few hok.short)
      have htx : Hid (str (lineB ls[k].wd ls[k].ns) = str ls[k].text) := rfl
      clear hmem hok hblk hdum
      go_wp2_with fail
      refine HL.out.mono ?_
      rintro e w4 ⟨rfl, hb4⟩
      have hs4 := hb4.size
      have hO4 : SR w4 w.heap.size (.slice (some ⟨w.heap.size, 0, none⟩) n n) (textsP ls k) := World.ownsRow.kept HO.out (bel_grn hb4) (by simp [Value.ownBlock])
      have htl : n = (textsP ls k).length := by rw [textsP_length ls k (by omega)]; exact HN.out
      have hc4 : ∃ u, w4.cell? ⟨w.heap.size, k, none⟩ = some u := by
        have h1 := hO4
        rw [SR, ← htl] at h1
        exact ⟨_, (World.ownsRow.cellAt h1 k (by omega)).trans (List.getElem?_eq_getElem (by rw [List.length_map, ← htl]; exact hkl))⟩
      obtain ⟨u, hu⟩ := hc4
      have hf4 : w4.frozen? ⟨w.heap.size, k, none⟩ = false := by
        have h1 := hO4
        rw [SR, ← htl] at h1
        exact World.ownsRow.frozenAt h1 k
      have HO5 : Hid (SR (w4.setCell ⟨w.heap.size, k, none⟩ (str (lineB ls[k].wd ls[k].ns))) w.heap.size (.slice (some ⟨w.heap.size, 0, none⟩) n n) (textsP ls (k + 1))) := by
        rw [Hid, ← textsP_set ls k hkls]
        exact SR.set hO4 htl k _
      have HB5 : Hid (Below w.heap.size w (w4.setCell ⟨w.heap.size, k, none⟩ (str (lineB ls[k].wd ls[k].ns)))) := hid ((HB.out.trans (hb4.mono (by omega))).setCell (p := ⟨w.heap.size, k, none⟩) (Nat.le_refl _) _)
      clear hO4 HO HB hb4 HL htl hcell
      go_wp2
      refine ⟨⟨k + 1, by simp, by omega, HO5, HB5⟩, ?_⟩
      simp [intOf]
      omega
    · have hkn : ¬ (k : Int) < (n : Int) := by omega
      have hkk : k = n := by omega
      have he : textsP ls k = ls.map Ln.text := by rw [textsP, hkk, HN.out, List.take_length, Nat.sub_self]; simp
      have HO6 : Hid (SR wr w.heap.size (.slice (some ⟨w.heap.size, 0, none⟩) n n) (ls.map Ln.text)) := by rw [Hid, ← he]; exact HO.out
      clear hkk he HO
      go_wp2_with fail
      refine (join_any w.heap.size n n w.heap.size (ls.map Ln.text) [10] wr HO6.out (by rw [List.length_map]; exact HN.out) (by simpa using (by omega : ls.length ≤ 100000000)) ?_).mono ?_
      · have := inter10_length 3000 (ls.map Ln.text) (fun x hx => by
          simp only [List.mem_map] at hx
          obtain ⟨l, hl, rfl⟩ := hx
          exact lineB_length (HH.out.2 l hl).1)
        rw [List.length_map] at this
        have h2 : (3000 + 1) * ls.length ≤ (3000 + 1) * 20000000 := Nat.mul_le_mul_left _ hl
        omega
      rintro e w5 ⟨rfl, hb5⟩
      go_wp2
      go_ret
      exact ⟨rfl, HB.out.trans (hb5.mono (by omega))⟩
end Go.Proofs.YtoceohacplmgnaaDoor
