/- Texts: a change and an event, as the document writes them. -/
import Derived.Test.YtoceohacplmgnaaDoorWd
import Derived.Test.YtoceohacplmgnaaDoorTc
namespace Go.Proofs.YtoceohacplmgnaaDoor
open Go.RowKit

theorem line_one (wd : List UInt8) (x : Int) : lineB wd [x] = wd ++ [32] ++ decB x := by simp [lineB, lineP, List.intercalate, List.intersperse]
theorem line_two (wd : List UInt8) (x y : Int) : lineB wd [x, y] = wd ++ [32] ++ decB x ++ [32] ++ decB y := by simp [lineB, lineP, List.intercalate, List.intersperse]
theorem textW_two {k x y z : Int} (h : 1 ≤ k ∧ k ≤ 10) : textW k x y z = lineB (pickB wordsW k) (numsW k x y z) := by
  have h1 : pickB wordsW k ≠ [] := by
    have : ∀ j, j < 10 → wordsW.getD (j + 1) [] ≠ [] := by decide
    rw [pickB, if_pos (by simp [wordsW]; omega)]
    have h2 := this (k.toNat - 1) (by omega)
    rw [show k.toNat - 1 + 1 = k.toNat by omega] at h2
    exact h2
  rw [textW, if_neg h1]
theorem three (x y z : List UInt8) : (ByteArray.mk x.toArray ++ ⟨y.toArray⟩) ++ ⟨z.toArray⟩ = ⟨(x ++ y ++ z).toArray⟩ := by rw [str_app, str_app]
set_option maxRecDepth 100000 in
set_option maxHeartbeats 1000000 in
/-- TextWrite, the document's. -/
theorem sTextWrite_any (k x y z : Int) (w : World) (hx : I64 x) (hy : I64 y) (hz : I64 z) :
    Calls Tryd.prog 24 #[.agg #[.int .i64 k, .int .i64 x, .int .i64 y, .int .i64 z]] w fun e w' => e = .returned (str (textW k x y z)) ∧ Below w.heap.size w w' := by
  have hp := pickW_length k
  by_cases h1 : k < 1
  · have E : Hid (textW k x y z = noneB) := by
      rw [Hid, textW, if_pos]
      simp only [pickB]
      split
      · have : k = 0 := by omega
        subst this
        rfl
      · rfl
    go_enter Tryd.func24, Tryd.ntmps24
    go_wp2
    go_ret
    exact ⟨by rw [E.out]; rfl, by go_grown⟩
  by_cases h10 : 10 < k
  · have E : Hid (textW k x y z = noneB) := by
      rw [Hid, textW, if_pos]
      rw [pickB, if_neg (by simp [wordsW]; omega)]
    go_enter Tryd.func24, Tryd.ntmps24
    go_wp2
    go_ret
    exact ⟨by rw [E.out]; rfl, by go_grown⟩
  have E := hid (textW_two (k := k) (x := x) (y := y) (z := z) ⟨by omega, by omega⟩)
  have hD := decB_length hx
  have hDy := decB_length hy
  have hDz := decB_length hz
  obtain ⟨j, rfl⟩ : ∃ j : Nat, k = (j : Int) + 1 := ⟨(k - 1).toNat, by omega⟩
  have hj : j < 10 := by omega
  have hj1 : ¬ (j : Int) + 1 < 1 := h1
  have hj2 : ¬ 10 < (j : Int) + 1 := h10
  obtain ⟨wd, hwd⟩ : ∃ wd, pickB wordsW ((j : Int) + 1) = wd := ⟨_, rfl⟩
  have hcell : Hid (#[str [119, 97, 110, 116], str [108, 111, 119], str [109, 97, 107, 101], str [107, 105, 108, 108], str [98, 105, 110, 100], str [111, 117, 115, 116], str [110, 111, 109], str [97, 115, 107], str [105, 100, 108, 101], str [100, 114, 111, 112]][j]? = some (str wd)) := by
    rw [← hwd]
    rcases (by omega : j = 0 ∨ j = 1 ∨ j = 2 ∨ j = 3 ∨ j = 4 ∨ j = 5 ∨ j = 6 ∨ j = 7 ∨ j = 8 ∨ j = 9) with rfl | rfl | rfl | rfl | rfl | rfl | rfl | rfl | rfl | rfl <;> rfl
  rw [hwd] at hp E
  clear hwd h1 h10
  have hj0 : (0 : Int) ≤ (j : Int) := by omega
  have hj3 : (j : Int) < 10 := by omega
  have hw1 : IntKind.i64.wrap ((j : Int) + 1 - 1) = (j : Int) := by rw [show (j : Int) + 1 - 1 = j by omega]; exact IntWalk.i64_in _ (by omega)
  have hw2 : IntKind.i64.wrap (j : Int) = (j : Int) := IntWalk.i64_in _ (by omega)
  go_enter Tryd.func24, Tryd.ntmps24
  go_wp2_with fail
  refine wp_gen (fun W => Hid (Below w.heap.size w W) ∧ W.cell? ⟨w.heap.size, 0, none⟩ = some (.int .i64 ((j : Int) + 1)) ∧ W.cell? ⟨w.heap.size, 1, none⟩ = some (.int .i64 x) ∧ W.cell? ⟨w.heap.size, 2, none⟩ = some (.int .i64 y) ∧ W.cell? ⟨w.heap.size, 3, none⟩ = some (.int .i64 z) ∧ W.cell? ⟨w.heap.size + 1, j, none⟩ = some (str wd) ∧ w.heap.size + 1 < W.heap.size)
    ⟨by rw [Hid]; go_grown, by simp [go_sem], by simp [go_sem], by simp [go_sem], by simp [go_sem], by have := hcell.out; simpa [go_sem] using this, by simp⟩ ?_
  clear hcell
  rintro W ⟨HB, c0, c1, c2, c3, c4, hs⟩
  go_cut [4] (fun p wx => p = str (wd ++ [32] ++ decB x) ∧ Hid (Below w.heap.size w wx) ∧ w.heap.size + 1 < wx.heap.size ∧ wx.cell? ⟨w.heap.size, 0, none⟩ = some (.int .i64 ((j : Int) + 1)) ∧ wx.cell? ⟨w.heap.size, 2, none⟩ = some (.int .i64 y) ∧ wx.cell? ⟨w.heap.size, 3, none⟩ = some (.int .i64 z))
  case first =>
    go_region_with (go_at_call 57; refine (dec_any x _ hx.1 hx.2).mono ?_; rintro e w4 ⟨rfl, hb4⟩; have d0 : w4.cell? ⟨w.heap.size, 0, none⟩ = some (.int .i64 ((j : Int) + 1)) := (by rw [hb4.cell (p := ⟨w.heap.size, 0, none⟩) (by simp; omega)]; simpa [go_sem] using c0); have d2 : w4.cell? ⟨w.heap.size, 2, none⟩ = some (.int .i64 y) := (by rw [hb4.cell (p := ⟨w.heap.size, 2, none⟩) (by simp; omega)]; simpa [go_sem] using c2); have d3 : w4.cell? ⟨w.heap.size, 3, none⟩ = some (.int .i64 z) := (by rw [hb4.cell (p := ⟨w.heap.size, 3, none⟩) (by simp; omega)]; simpa [go_sem] using c3); have d1 : w4.cell? ⟨w.heap.size, 1, none⟩ = some (.int .i64 x) := (by rw [hb4.cell (p := ⟨w.heap.size, 1, none⟩) (by simp; omega)]; simpa [go_sem] using c1); have d4 : w4.cell? ⟨w.heap.size + 1, j, none⟩ = some (str wd) := (by rw [hb4.cell (p := ⟨w.heap.size + 1, j, none⟩) (by simp; omega)]; simpa [go_sem] using c4); have HB4 := hid (HB.out.drew.trans (hb4.mono (by have := HB.out.size; simpa using this))); have hs4 : w.heap.size + 1 < w4.heap.size := (by have h5 := hb4.size; simp at h5; omega))
    all_goals go_wp2_with fail
    all_goals go_meet
    all_goals exact ⟨congrArg Value.string (three wd [32] (decB x)), by first | exact HB4 | exact hid HB4.out.drew, by assumption, by assumption, by assumption, by assumption⟩
  case rest =>
    obtain ⟨rfl, HB5, hs5, e0, e2, e3⟩ := hcut
    have hlt5 : w.heap.size < wc.heap.size := by omega
    have hlen : (wd ++ [32] ++ decB x).length ≤ 40 := by simp; omega
    clear c0 c1 c2 c3 c4 hs HB hw1 hw2
    obtain ⟨k, hjk⟩ : ∃ k : Int, (j : Int) + 1 = k := ⟨_, rfl⟩
    have hk : (k = 5 ∨ k = 7) ∨ ((¬ (k = 5 ∨ k = 7)) ∧ (k = 1 ∨ k = 2 ∨ k = 9)) ∨ (¬ (k = 5 ∨ k = 7) ∧ ¬ (k = 1 ∨ k = 2 ∨ k = 9)) := by omega
    rw [hjk] at e0
    have hE := E.out
    have hjk2 : Hid (textW ((j : Int) + 1) x y z = textW k x y z) := by rw [Hid, hjk]
    rw [hjk] at hE
    clear E hjk hj1 hj2
    generalize HP : wd ++ [32] ++ decB x = pre at *
    rcases hk with h | ⟨h, h'⟩ | ⟨h, h'⟩
    · have e1 : Hid (textW k x y z = pre ++ [32] ++ decB y) := by rw [Hid, hE, numsW, if_pos h, line_two, ← HP]
      clear hE HP
      rcases h with rfl | rfl
      all_goals
        go_wp2_with fail
        refine (dec_any y _ hy.1 hy.2).mono ?_
        rintro e w6 ⟨rfl, hb6⟩
        go_wp2
        go_ret
        exact ⟨by rw [hjk2.out, e1.out]; exact ret_str (three pre [32] (decB y)), HB5.out.trans (hb6.mono HB5.out.size)⟩
    · have e1 : Hid (textW k x y z = pre ++ [32] ++ decB z) := by rw [Hid, hE, numsW, if_neg h, if_pos h', line_two, ← HP]
      clear hE HP h
      rcases h' with rfl | rfl | rfl
      all_goals
        go_wp2_with fail
        refine (dec_any z _ hz.1 hz.2).mono ?_
        rintro e w6 ⟨rfl, hb6⟩
        go_wp2
        go_ret
        exact ⟨by rw [hjk2.out, e1.out]; exact ret_str (three pre [32] (decB z)), HB5.out.trans (hb6.mono HB5.out.size)⟩
    · have e1 : Hid (textW k x y z = pre) := by rw [Hid, hE, numsW, if_neg h, if_neg h', line_one, ← HP]
      have d5 : (k == 5) = false := by simp; omega
      have d7 : (k == 7) = false := by simp; omega
      have d1 : (k == 1) = false := by simp; omega
      have d2 : (k == 2) = false := by simp; omega
      have d9 : (k == 9) = false := by simp; omega
      clear hE HP h h'
      go_wp2
      go_ret
      exact ⟨by rw [hjk2.out, e1.out]; rfl, HB5.out⟩
end Go.Proofs.YtoceohacplmgnaaDoor
