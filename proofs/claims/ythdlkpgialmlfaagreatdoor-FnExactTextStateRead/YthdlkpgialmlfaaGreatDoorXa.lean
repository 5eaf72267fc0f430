/- Texts: one number, as the program reads it. -/
import Derived.Test.YthdlkpgialmlfaaGreatDoorWz
import Derived.Test.YthdlkpgialmlfaaGreatDoorSi
import Derived.Shelf.Strconv.AtoiAll
namespace Go.Proofs.YthdlkpgialmlfaaGreatDoor
open Go.RowKit

theorem digs_head (n : Nat) : ∃ c r, digsN n = c :: r ∧ 48 ≤ c.toNat ∧ c.toNat ≤ 57 := by
  induction n using Nat.strongRecOn with
  | _ n ih =>
    rw [digsN]
    split
    · rename_i h
      refine ⟨_, [], rfl, ?_⟩
      simp
      omega
    · obtain ⟨c, r, h1, h2⟩ := ih (n / 10) (by omega)
      exact ⟨c, r ++ [UInt8.ofNat (48 + n % 10)], by rw [h1]; rfl, h2⟩
theorem parse_digs (n : Nat) (h : n < 100000000000000000) : ∀ r, Lib.parseUint10 0 (digsN n ++ r) = Lib.parseUint10 n r := by
  induction n using Nat.strongRecOn with
  | _ n ih =>
    intro r
    rw [digsN]
    split
    · rename_i h1
      have e : (UInt8.ofNat (48 + n)).toNat = 48 + n := by simp; omega
      simp only [List.cons_append, List.nil_append, Lib.parseUint10, e]
      rw [if_pos (by omega), if_neg (by omega), if_neg (by omega)]
      congr 1
      omega
    · have e : (UInt8.ofNat (48 + n % 10)).toNat = 48 + n % 10 := by simp; omega
      rw [List.append_assoc, ih (n / 10) (by omega) (by omega)]
      simp only [List.cons_append, List.nil_append, Lib.parseUint10, e]
      rw [if_pos (by omega), if_neg (by omega), if_neg (by omega)]
      congr 1
      omega
theorem mag_digs (n : Nat) (h : n < 100000000000000000) : Lib.parseMag (digsN n) = .ok n := by
  obtain ⟨c, r, h1, _⟩ := digs_head n
  have h2 := parse_digs n h []
  rw [List.append_nil] at h2
  rw [Lib.parseMag, if_neg (by rw [h1]; simp), h2]
  rfl
theorem atoi_dec (v : Int) (h1 : -1000000 ≤ v) (h2 : v ≤ 1000000) : Lib.atoiAll (decB v) = .ok v := by
  by_cases hv : v < 0
  · obtain ⟨m, rfl⟩ : ∃ m : Nat, v = -(m : Int) := ⟨(-v).toNat, by omega⟩
    have e : decB (-(m : Int)) = 45 :: digsN m := by rw [decB, if_pos hv]; simp
    rw [e, Lib.atoiAll]
    have e2 : Lib.parseMag (if (45 : UInt8).toNat = 43 ∨ (45 : UInt8).toNat = 45 then digsN m else 45 :: digsN m) = .ok m := by
      rw [if_pos (by decide)]
      exact mag_digs m (by omega)
    rw [e2]
    simp
    omega
  · obtain ⟨m, rfl⟩ : ∃ m : Nat, v = (m : Int) := ⟨v.toNat, by omega⟩
    have e : decB (m : Int) = digsN m := by rw [decB, if_neg hv]; rfl
    obtain ⟨c, r, h3, h4, h5⟩ := digs_head m
    have h6 := mag_digs m (by omega)
    rw [e]
    rw [h3] at h6 ⊢
    rw [Lib.atoiAll]
    have e2 : Lib.parseMag (if c.toNat = 43 ∨ c.toNat = 45 then r else c :: r) = .ok m := by
      rw [if_neg (by omega)]
      exact h6
    rw [e2]
    simp [show ¬ c.toNat = 45 by omega]
    try omega

/-- What stands before all blocks of the call: the library's variables, and the program's own error. -/
structure Gl (ev : Value) (w : World) : Prop where
  tab : Tab w
  maxLen : ∃ m : Int, w.cell? ⟨1, 0, none⟩ = some (.int .i64 m)
  syn : ∃ tp p, w.cell? ⟨4, 0, none⟩ = some (.iface tp p)
  ran : ∃ tp p, w.cell? ⟨5, 0, none⟩ = some (.iface tp p)
  no : w.cell? ⟨0, 0, none⟩ = some ev
  big : 9 ≤ w.heap.size
theorem Gl.keep {ev : Value} {w w' : World} (h : Gl ev w) (hb : Below w.heap.size w w') : Gl ev w' := by
  have hb' := h.big
  refine ⟨h.tab.keep hb, ?_, ?_, ?_, ?_, Nat.le_trans h.big hb.size⟩
  · obtain ⟨m, hm⟩ := h.maxLen; exact ⟨m, by rw [below_cell hb (by omega)]; exact hm⟩
  · obtain ⟨m, p, hm⟩ := h.syn; exact ⟨m, p, by rw [below_cell hb (by omega)]; exact hm⟩
  · obtain ⟨m, p, hm⟩ := h.ran; exact ⟨m, p, by rw [below_cell hb (by omega)]; exact hm⟩
  · rw [below_cell hb (by omega)]; exact h.no

theorem must_yes (w : World) : Calls Tryz.prog 52 #[.bool true] w fun e w' => e = .returned (.tuple #[]) ∧ w' = w := by
  go_enter Tryz.func52, Tryz.ntmps52
  go_wp2
  go_end0
  exact ⟨rfl, rfl⟩
/-- The panic of a line that is none. -/
abbrev pan (ev : Value) : Ending := .panicked [{ v := ev, recovered := false }]
theorem must_no (te : TypeId) (pe : Value) (w : World) (h : w.cell? ⟨0, 0, none⟩ = some (.iface te pe)) : Calls Tryz.prog 52 #[.bool false] w fun e w' => e = pan (.iface te pe) ∧ w' = w := by
  go_enter Tryz.func52, Tryz.ntmps52
  go_wp2
  exact ⟨rfl, rfl, rfl⟩

theorem atoi_i64 {l : List UInt8} {v : Int} (h : Lib.atoiAll l = .ok v) : I64 v := by
  have := Lib.atoiAll_bounds h
  exact this
/-- A text that is a number just as it is written. -/
def isNum (l : List UInt8) (v : Int) : Prop := decB v = l ∧ -1000000 ≤ v ∧ v ≤ 1000000
set_option maxRecDepth 100000 in
set_option maxHeartbeats 2000000 in
theorem readNumber_any (l : List UInt8) (te : TypeId) (pe : Value) (w : World) (G : Gl (.iface te pe) w) (hl : l.length ≤ 2000000) :
    Calls Tryz.prog 83 #[str l] w fun e w' => ((∃ v, isNum l v ∧ e = .returned (.int .i64 v)) ∨ ((¬ ∃ v, isNum l v) ∧ e = pan (.iface te pe))) ∧ Below w.heap.size w w' := by
  have hsz : (ByteArray.mk l.toArray).size = l.length := by show l.toArray.size = l.length; simp
  cases ha : Lib.atoiAll l with
  | ok v =>
    have hv := atoi_i64 ha
    have HN : Hid (∀ u, isNum l u → u = v) := fun u ⟨h1, h2, h3⟩ => by
      have := atoi_dec u h2 h3
      rw [h1, ha] at this
      injection this with h4
      exact h4.symm
    go_enter Tryz.func83, Tryz.ntmps83
    go_wp2_with fail
    refine (Tryz.strconv_Atoi_ok ⟨l.toArray⟩ (by rw [hsz]; omega) v (by simpa using ha) w).mono ?_
    rintro e w1 ⟨rfl, hw1⟩
    have hb1 : Below w.heap.size w w1 := by
      rcases hw1 with rfl | ⟨t, rfl⟩
      · exact Below.refl _ _
      · exact Lib.bytesWorld_below ..
    have G1 := G.keep hb1
    have g0 := G1.no
    have HB := hid hb1
    clear hw1 hb1 ha G
    go_wp2_with fail
    refine (itoa_any v w1 hv G1.tab).mono ?_
    rintro e w2 ⟨rfl, hb2⟩
    have g1 := (G1.keep hb2).no
    have HB2 := hid (HB.out.trans (hb2.mono HB.out.size))
    clear hb2 HB g0
    by_cases he : decB v = l
    · subst he
      go_wp2_with fail
      refine (canBeRead_any v w2).mono ?_
      rintro e w3 ⟨rfl, rfl⟩
      cases hi : inId v
      · have hno : Hid (¬ ∃ u, isNum (decB v) u) := fun ⟨u, hu⟩ => by
          have e1 := HN.out u hu
          subst e1
          simp only [inId, decide_eq_false_iff_not] at hi
          exact hi hu.2
        go_wp2_with fail
        refine (must_no te pe w3 g1).mono ?_
        rintro e w4 ⟨rfl, rfl⟩
        go_wp2
        refine ⟨rfl, ?_⟩
        exact ⟨.inr ⟨hno.out, rfl⟩, HB2.out⟩
      · have hyes : Hid (isNum (decB v) v) := ⟨rfl, by simpa [inId] using hi⟩
        go_wp2_with fail
        refine (must_yes w3).mono ?_
        rintro e w4 ⟨rfl, rfl⟩
        go_wp2
        go_ret
        exact ⟨.inl ⟨v, hyes.out, rfl⟩, HB2.out⟩
    · have e1 : (decB v == l) = false := by simp [he]
      have hno : Hid (¬ ∃ u, isNum l u) := fun ⟨u, hu⟩ => by
        have e1 := HN.out u hu
        subst e1
        exact he hu.1
      go_wp2_with fail
      refine (must_no te pe w2 g1).mono ?_
      rintro e w4 ⟨rfl, rfl⟩
      go_wp2
      refine ⟨rfl, ?_⟩
      exact ⟨.inr ⟨hno.out, rfl⟩, HB2.out⟩
  | «syntax» =>
    have hno : Hid (¬ ∃ u, isNum l u) := fun ⟨u, h1, h2, h3⟩ => by
      have := atoi_dec u h2 h3
      rw [h1, ha] at this
      cases this
    obtain ⟨tp, p, hs⟩ := G.syn
    go_enter Tryz.func83, Tryz.ntmps83
    go_wp2_with fail
    refine (Tryz.strconv_Atoi_syntax ⟨l.toArray⟩ (by rw [hsz]; omega) (by simpa using ha) _ w hs (.inr ⟨_, _, rfl⟩)).mono ?_
    rintro e w1 ⟨N, rfl, _, _, hb1⟩
    have g1 := (G.keep hb1).no
    have HB := hid hb1
    clear hb1 ha G hs
    go_wp2_with fail
    refine (must_no te pe w1 g1).mono ?_
    rintro e w4 ⟨rfl, rfl⟩
    go_wp2
    refine ⟨rfl, ?_⟩
    exact ⟨.inr ⟨hno.out, rfl⟩, HB.out⟩
  | range =>
    have hno : Hid (¬ ∃ u, isNum l u) := fun ⟨u, h1, h2, h3⟩ => by
      have := atoi_dec u h2 h3
      rw [h1, ha] at this
      cases this
    obtain ⟨tp, p, hs⟩ := G.ran
    go_enter Tryz.func83, Tryz.ntmps83
    go_wp2_with fail
    refine (Tryz.strconv_Atoi_range ⟨l.toArray⟩ (by rw [hsz]; omega) (by simpa using ha) _ w hs (.inr ⟨_, _, rfl⟩)).mono ?_
    rintro e w1 ⟨N, rfl, _, _, hb1⟩
    have g1 := (G.keep hb1).no
    have HB := hid hb1
    clear hb1 ha G hs
    go_wp2_with fail
    refine (must_no te pe w1 g1).mono ?_
    rintro e w4 ⟨rfl, rfl⟩
    go_wp2
    refine ⟨rfl, ?_⟩
    exact ⟨.inr ⟨hno.out, rfl⟩, HB.out⟩
end Go.Proofs.YthdlkpgialmlfaaGreatDoor
