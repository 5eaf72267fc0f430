/- The drawn sizes: two sizes out of a row of bytes. -/
import Derived.Test.YthpjejnnagamiaaK
namespace Go.Proofs.Ythpjejnnagamiaa
open Go.RowKit

theorem bel_two {W w' : World} (h : Below W.heap.size W w') {b : Nat} {x y : Value} (hl : b < W.heap.size) (h0 : W.cell? ⟨b, 0, none⟩ = some x) (h1 : W.cell? ⟨b, 1, none⟩ = some y) (f0 : W.frozen? ⟨b, 0, none⟩ = false) (f1 : W.frozen? ⟨b, 1, none⟩ = false) :
    w'.cell? ⟨b, 0, none⟩ = some x ∧ w'.cell? ⟨b, 1, none⟩ = some y ∧ w'.frozen? ⟨b, 0, none⟩ = false ∧ w'.frozen? ⟨b, 1, none⟩ = false :=
  ⟨by rw [(bcell h).1 _ _ hl]; exact h0, by rw [(bcell h).1 _ _ hl]; exact h1, by rw [(bcell h).2 _ _ hl]; exact f0, by rw [(bcell h).2 _ _ hl]; exact f1⟩

/-- A row of bytes that came in. -/
def Bytes (w : World) (xa : Option Addr) (len cap : Nat) (f : Nat → Int) : Prop :=
  len ≤ cap ∧ cap ≤ maxLen ∧ (∀ i, 0 ≤ f i ∧ f i ≤ 255) ∧ (len = 0 ∨ ∃ xb xo, xa = some ⟨xb, xo, none⟩ ∧ xb < w.heap.size ∧ ∀ i, i < len → w.cell? ⟨xb, xo + i, none⟩ = some (.int .u8 (f i)))

theorem Bytes.keep {W w' : World} {xa : Option Addr} {len cap : Nat} {f : Nat → Int} (h : Bytes W xa len cap f) (hb : Below W.heap.size W w') : Bytes w' xa len cap f := by
  obtain ⟨h1, h2, h3, h4⟩ := h
  refine ⟨h1, h2, h3, ?_⟩
  rcases h4 with h4 | ⟨xb, xo, e, hx, hr⟩
  · exact .inl h4
  · exact .inr ⟨xb, xo, e, Nat.lt_of_lt_of_le hx hb.size, fun i hi => by rw [(bcell hb).1 _ _ hx]; exact hr i hi⟩

theorem Bytes.reader {W : World} {xa : Option Addr} {len cap : Nat} {f : Nat → Int} (h : Bytes W xa len cap f) (c : Nat) : Reader (W.alloc (.cells #[.slice xa (min len 2000) c, .int .i64 0] 47)) W.heap.size xa (min len 2000) c f 0 := by
  have hb : Below W.heap.size W (W.alloc (.cells #[.slice xa (min len 2000) c, .int .i64 0] 47)) := by go_grown
  obtain ⟨h1, h2, h3, h4⟩ := h
  refine ⟨by simp [go_sem], by simp [go_sem], by simp [go_sem], by omega, h3, by simp, ?_⟩
  rcases h4 with h4 | ⟨xb, xo, e, hx, hr⟩
  · exact .inl (by omega)
  · exact .inr ⟨xb, xo, e, hx, fun i hi => by rw [(bcell hb).1 _ _ hx]; exact hr i (by omega)⟩

theorem add_at {w : World} {b off i : Nat} {v : Value} (h : w.cell? ((⟨b, off, none⟩ : Addr).add i) = some v) : w.cell? ⟨b, off + i, none⟩ = some v := by
  by_cases hi : i = 0
  · subst hi; simpa [Addr.add] using h
  · simpa [Addr.add, hi] using h

theorem IsRow.bytes {w : World} {a : Option Addr} {len cap : Nat} {zs : List Int} (h : IsRow w a len cap zs) : ∃ f, Bytes w a len cap f := by
  rcases h with ⟨rfl, rfl, rfl, rfl⟩ | ⟨x, rfl, hl, hm, hz, hcell, hwz⟩
  · exact ⟨fun _ => 0, Nat.le_refl _, Nat.zero_le _, fun _ => ⟨by simp, by simp⟩, .inl rfl⟩
  · refine ⟨fun i => zs.getD i 0, hl, hm, fun i => ?_, ?_⟩
    · by_cases hi : i < zs.length
      · have := hwz (zs.getD i 0) (by rw [List.getD_eq_getElem?_getD, List.getElem?_eq_getElem hi]; exact List.getElem_mem hi)
        simpa [Lit.wf, IntKind.min, IntKind.max, IntKind.signed, IntKind.bits] using this
      · show 0 ≤ zs.getD i 0 ∧ zs.getD i 0 ≤ 255
        rw [List.getD_eq_getElem?_getD, List.getElem?_eq_none (by omega)]; simp
    · by_cases h0 : len = 0
      · exact .inl h0
      · obtain ⟨b, off, spot⟩ := x
        have hc := hcell 0 (by omega)
        have hspot : spot = none := by simpa [Addr.add] using World.cell?_spot hc
        subst hspot
        exact .inr ⟨b, off, rfl, by simpa [Addr.add] using World.block_lt_of_cell? w _ hc, fun i hi => add_at (hcell i (by omega))⟩

set_option maxHeartbeats 2000000 in
theorem l1Two_any (xa : Option Addr) (len cap : Nat) (f : Nat → Int) (w : World) (hb : Bytes w xa len cap f) :
    Calls Try.prog 30 #[.slice xa len cap] w fun e w' => ∃ a b c d : Int, e = .returned (.tuple #[.agg #[.int .i64 a, .int .i64 b], .agg #[.int .i64 c, .int .i64 d]]) ∧ Below w.heap.size w w' := by
  have hb2 : Bytes ((w.alloc (.cells #[.int .i64 0, .int .i64 0] 24)).alloc (.cells #[.int .i64 0, .int .i64 0] 24)) xa len cap f := hb.keep (by go_grown)
  have hR0 := hb2.reader
  obtain ⟨hl, hc, _, _⟩ := hb
  go_enter Try.func30, Try.ntmps30
  go_wp2_with fail
  refine (open_any _ _ _ _ hl hc).mono ?_
  rintro e w1 ⟨rfl, cp, rfl⟩
  replace hR0 := hR0 cp
  clear hb2
  simp only [World.size_alloc] at hR0
  go_wp2_with fail
  refine (l1Size_any _ _ xa _ _ f _ hR0 (by omega) (by omega)).mono ?_
  rintro e w1 ⟨c1, m1, rfl, ⟨q1, hq0, hq1, hR1⟩, hB1⟩
  have hs1 := hB1.size
  have hr1 := hR1.lt
  simp only [World.size_alloc] at hs1
  obtain ⟨x0, x1, x2, x3⟩ := hB1.two (b := w.heap.size) (x := .int .i64 0) (y := .int .i64 0) (by omega) (by simp; omega) (by simp [go_sem]) (by simp [go_sem]) (by simp [go_sem]) (by simp [go_sem])
  obtain ⟨y0, y1, y2, y3⟩ := hB1.two (b := w.heap.size + 1) (x := .int .i64 0) (y := .int .i64 0) (by omega) (by simp) (by simp [go_sem]) (by simp [go_sem]) (by simp [go_sem]) (by simp [go_sem])
  have hb1 : Below w.heap.size w w1 := (by go_grown : Below w.heap.size w _).trans (hB1.below (by omega) (by simp; omega))
  clear hR0 hB1
  have n1 : w.heap.size < w1.heap.size := by omega
  have n2 : w.heap.size + 1 < w1.heap.size := by omega
  have n3 : w.heap.size ≠ w1.heap.size := by omega
  have n4 : w.heap.size + 1 ≠ w1.heap.size := by omega
  go_wp2_with fail
  go_region_held3 (fun w' => w'.cell? ⟨w1.heap.size, 0, none⟩ = some (.int .i64 c1) ∧ w'.cell? ⟨w1.heap.size, 1, none⟩ = some (.int .i64 m1))
    (first | (simp [go_sem, *]; done) | (go_keep; done))
    (first | (go_at_call 42; refine (l1Size_any _ _ xa _ _ f _ (Reader.keep hR1 (by go_grown)) (by omega) (by omega)).mono ?_; rintro e w2 ⟨c2, m2, rfl, ⟨q2, hq2, hq3, hR2⟩, hB2⟩; obtain ⟨x0, x1, x2, x3⟩ := hB2.two (b := w.heap.size) (x := .int .i64 0) (y := .int .i64 0) (by omega) (by simp; omega) (by simp [go_sem, *]) (by simp [go_sem, *]) (by simp [go_sem, *]) (by simp [go_sem, *]); obtain ⟨y0, y1, y2, y3⟩ := hB2.two (b := w.heap.size + 1) (x := .int .i64 0) (y := .int .i64 0) (by omega) (by simp; omega) (by simp [go_sem, *]) (by simp [go_sem, *]) (by simp [go_sem, *]) (by simp [go_sem, *]); obtain ⟨z0, z1, z2, z3⟩ := hB2.two (b := w1.heap.size) (x := .int .i64 c1) (y := .int .i64 m1) (by omega) (by simp) (by simp [go_sem, *]) (by simp [go_sem, *]) (by simp [go_sem, *]) (by simp [go_sem, *])))
  go_wp2
  refine bodyPost_ret (v := .tuple #[.agg #[.int .i64 c1, .int .i64 m1], .agg #[.int .i64 c2, .int .i64 m2]]) (by simp [results, Try.results30, go_sem, *]) rfl ⟨c1, m1, c2, m2, rfl, ?_⟩
  have hb2 : Below w.heap.size w w2 := (hb1.alloc (by omega) _).drew.trans (hB2.below (by omega) (by simp; omega))
  exact (((hb2.setCell (by simp) _).setCell (by simp) _).setCell (by simp) _).setCell (by simp) _

set_option maxHeartbeats 1000000 in
theorem draw12_any (xa : Option Addr) (len cap : Nat) (f : Nat → Int) (w : World) (hb : Bytes w xa len cap f) :
    Calls Try.prog 12 #[.slice xa len cap] w fun e w' => ∃ a b c d : Int, e = .returned (.tuple #[.agg #[.int .i64 a, .int .i64 b], .agg #[.int .i64 c, .int .i64 d]]) ∧ Below w.heap.size w w' := by
  have hb2 : Bytes ((w.alloc (.cells #[.int .i64 0, .int .i64 0] 24)).alloc (.cells #[.int .i64 0, .int .i64 0] 24)) xa len cap f := hb.keep (by go_grown)
  clear hb
  go_enter Try.func12, Try.ntmps12
  go_wp2_with fail
  refine (l1Two_any xa len cap f _ hb2).mono ?_
  rintro e w1 ⟨a, b, c, d, rfl, hB⟩
  obtain ⟨x0, x1, x2, x3⟩ := bel_two hB (b := w.heap.size) (x := .int .i64 0) (y := .int .i64 0) (by simp; omega) (by simp [go_sem]) (by simp [go_sem]) (by simp [go_sem]) (by simp [go_sem])
  obtain ⟨y0, y1, y2, y3⟩ := bel_two hB (b := w.heap.size + 1) (x := .int .i64 0) (y := .int .i64 0) (by simp) (by simp [go_sem]) (by simp [go_sem]) (by simp [go_sem]) (by simp [go_sem])
  go_wp2_with fail
  refine bodyPost_ret (v := .tuple #[.agg #[.int .i64 a, .int .i64 b], .agg #[.int .i64 c, .int .i64 d]]) (by simp [results, Try.results12, go_sem, *]) rfl ⟨a, b, c, d, rfl, ?_⟩
  have hb2 : Below w.heap.size w w1 := bel_trans (by go_grown) hB
  exact (((hb2.setCell (by simp) _).setCell (by simp) _).setCell (by simp) _).setCell (by simp) _

set_option maxHeartbeats 1000000 in
theorem draw21_any (xa : Option Addr) (len cap : Nat) (f : Nat → Int) (w : World) (hb : Bytes w xa len cap f) :
    Calls Try.prog 21 #[.slice xa len cap] w fun e w' => ∃ a b c d : Int, e = .returned (.tuple #[.agg #[.int .i64 a, .int .i64 b], .agg #[.int .i64 c, .int .i64 d]]) ∧ Below w.heap.size w w' := by
  have hb2 : Bytes ((w.alloc (.cells #[.int .i64 0, .int .i64 0] 24)).alloc (.cells #[.int .i64 0, .int .i64 0] 24)) xa len cap f := hb.keep (by go_grown)
  clear hb
  go_enter Try.func21, Try.ntmps21
  go_wp2_with fail
  refine (l1Two_any xa len cap f _ hb2).mono ?_
  rintro e w1 ⟨a, b, c, d, rfl, hB⟩
  obtain ⟨x0, x1, x2, x3⟩ := bel_two hB (b := w.heap.size) (x := .int .i64 0) (y := .int .i64 0) (by simp; omega) (by simp [go_sem]) (by simp [go_sem]) (by simp [go_sem]) (by simp [go_sem])
  obtain ⟨y0, y1, y2, y3⟩ := bel_two hB (b := w.heap.size + 1) (x := .int .i64 0) (y := .int .i64 0) (by simp) (by simp [go_sem]) (by simp [go_sem]) (by simp [go_sem]) (by simp [go_sem])
  go_wp2_with fail
  refine bodyPost_ret (v := .tuple #[.agg #[.int .i64 a, .int .i64 b], .agg #[.int .i64 c, .int .i64 d]]) (by simp [results, Try.results21, go_sem, *]) rfl ⟨a, b, c, d, rfl, ?_⟩
  have hb2 : Below w.heap.size w w1 := bel_trans (by go_grown) hB
  exact (((hb2.setCell (by simp) _).setCell (by simp) _).setCell (by simp) _).setCell (by simp) _

set_option maxHeartbeats 1000000 in
theorem draw22_any (xa : Option Addr) (len cap : Nat) (f : Nat → Int) (w : World) (hb : Bytes w xa len cap f) :
    Calls Try.prog 22 #[.slice xa len cap] w fun e w' => ∃ a b c d : Int, e = .returned (.tuple #[.agg #[.int .i64 a, .int .i64 b], .agg #[.int .i64 c, .int .i64 d]]) ∧ Below w.heap.size w w' := by
  have hb2 : Bytes ((w.alloc (.cells #[.int .i64 0, .int .i64 0] 24)).alloc (.cells #[.int .i64 0, .int .i64 0] 24)) xa len cap f := hb.keep (by go_grown)
  clear hb
  go_enter Try.func22, Try.ntmps22
  go_wp2_with fail
  refine (l1Two_any xa len cap f _ hb2).mono ?_
  rintro e w1 ⟨a, b, c, d, rfl, hB⟩
  obtain ⟨x0, x1, x2, x3⟩ := bel_two hB (b := w.heap.size) (x := .int .i64 0) (y := .int .i64 0) (by simp; omega) (by simp [go_sem]) (by simp [go_sem]) (by simp [go_sem]) (by simp [go_sem])
  obtain ⟨y0, y1, y2, y3⟩ := bel_two hB (b := w.heap.size + 1) (x := .int .i64 0) (y := .int .i64 0) (by simp) (by simp [go_sem]) (by simp [go_sem]) (by simp [go_sem]) (by simp [go_sem])
  go_wp2_with fail
  refine bodyPost_ret (v := .tuple #[.agg #[.int .i64 a, .int .i64 b], .agg #[.int .i64 c, .int .i64 d]]) (by simp [results, Try.results22, go_sem, *]) rfl ⟨a, b, c, d, rfl, ?_⟩
  have hb2 : Below w.heap.size w w1 := bel_trans (by go_grown) hB
  exact (((hb2.setCell (by simp) _).setCell (by simp) _).setCell (by simp) _).setCell (by simp) _

set_option maxHeartbeats 1000000 in
theorem draw24_any (xa : Option Addr) (len cap : Nat) (f : Nat → Int) (w : World) (hb : Bytes w xa len cap f) :
    Calls Try.prog 24 #[.slice xa len cap] w fun e w' => ∃ a b c d : Int, e = .returned (.tuple #[.agg #[.int .i64 a, .int .i64 b], .agg #[.int .i64 c, .int .i64 d]]) ∧ Below w.heap.size w w' := by
  have hb2 : Bytes ((w.alloc (.cells #[.int .i64 0, .int .i64 0] 24)).alloc (.cells #[.int .i64 0, .int .i64 0] 24)) xa len cap f := hb.keep (by go_grown)
  clear hb
  go_enter Try.func24, Try.ntmps24
  go_wp2_with fail
  refine (l1Two_any xa len cap f _ hb2).mono ?_
  rintro e w1 ⟨a, b, c, d, rfl, hB⟩
  obtain ⟨x0, x1, x2, x3⟩ := bel_two hB (b := w.heap.size) (x := .int .i64 0) (y := .int .i64 0) (by simp; omega) (by simp [go_sem]) (by simp [go_sem]) (by simp [go_sem]) (by simp [go_sem])
  obtain ⟨y0, y1, y2, y3⟩ := bel_two hB (b := w.heap.size + 1) (x := .int .i64 0) (y := .int .i64 0) (by simp) (by simp [go_sem]) (by simp [go_sem]) (by simp [go_sem]) (by simp [go_sem])
  go_wp2_with fail
  refine bodyPost_ret (v := .tuple #[.agg #[.int .i64 a, .int .i64 b], .agg #[.int .i64 c, .int .i64 d]]) (by simp [results, Try.results24, go_sem, *]) rfl ⟨a, b, c, d, rfl, ?_⟩
  have hb2 : Below w.heap.size w w1 := bel_trans (by go_grown) hB
  exact (((hb2.setCell (by simp) _).setCell (by simp) _).setCell (by simp) _).setCell (by simp) _

end Go.Proofs.Ythpjejnnagamiaa
