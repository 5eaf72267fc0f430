/- Texts: a change and an event, as the program writes them. -/
import Derived.Test.YtoceohacplmgnaaDoorWc
namespace Go.Proofs.YtoceohacplmgnaaDoor
open Go.RowKit

theorem writeLine (w : World) (r : Nat) (k x y z : Int) (hr : r < w.heap.size) (c0 : w.cell? ⟨r, 0, none⟩ = some (.int .i64 k)) (c1 : w.cell? ⟨r, 1, none⟩ = some (.int .i64 x))
    (c2 : w.cell? ⟨r, 2, none⟩ = some (.int .i64 y)) (c3 : w.cell? ⟨r, 3, none⟩ = some (.int .i64 z)) :
    LineAt w 126 58 198 (.pointer (some ⟨r, 0, none⟩)) (pickB wordsW k) (numsW k x y z) where
  mw := fun _ => by kernel_rfl
  mf := fun _ => by kernel_rfl
  ew := fun args w => by kernel_rfl
  ef := fun args w => by kernel_rfl
  cw := fun w1 hb => writeWord_any r k w1 (Nat.lt_of_lt_of_le hr hb.size) (by rw [below_cell hb hr]; exact c0)
  cf := fun w1 hb => writeFields_any w.heap.size r k x y z w1 hr hb.size (by rw [below_cell hb hr]; exact c0) (by rw [below_cell hb hr]; exact c1) (by rw [below_cell hb hr]; exact c2) (by rw [below_cell hb hr]; exact c3)
theorem eventLine (w : World) (r : Nat) (k x y : Int) (hr : r < w.heap.size) (c0 : w.cell? ⟨r, 0, none⟩ = some (.int .i64 k)) (c1 : w.cell? ⟨r, 1, none⟩ = some (.int .i64 x))
    (c2 : w.cell? ⟨r, 2, none⟩ = some (.int .i64 y)) :
    LineAt w 118 50 197 (.pointer (some ⟨r, 0, none⟩)) (pickB wordsE k) [x, y] where
  mw := fun _ => by kernel_rfl
  mf := fun _ => by kernel_rfl
  ew := fun args w => by kernel_rfl
  ef := fun args w => by kernel_rfl
  cw := fun w1 hb => eventWord_any r k w1 (Nat.lt_of_lt_of_le hr hb.size) (by rw [below_cell hb hr]; exact c0)
  cf := fun w1 hb => eventFields_any w.heap.size r x y w1 hr hb.size (by rw [below_cell hb hr]; exact c1) (by rw [below_cell hb hr]; exact c2)

theorem numsW_i64 {k x y z : Int} (h1 : I64 x) (h2 : I64 y) (h3 : I64 z) : ∀ n ∈ numsW k x y z, I64 n := by
  intro n hn
  simp only [numsW] at hn
  split at hn
  · simp at hn; rcases hn with rfl | rfl <;> assumption
  · split at hn
    · simp at hn; rcases hn with rfl | rfl <;> assumption
    · simp at hn; subst hn; assumption
theorem numsW_length (k x y z : Int) : (numsW k x y z).length ≤ 2 := by
  simp only [numsW]
  split
  · simp
  · split <;> simp
def noneB : List UInt8 := [110, 111, 110, 101]
def textW (k x y z : Int) : List UInt8 := if pickB wordsW k = [] then noneB else lineB (pickB wordsW k) (numsW k x y z)
set_option maxRecDepth 100000 in
set_option maxHeartbeats 1000000 in
/-- TextWrite, the program's. -/
theorem textWrite_any (k x y z : Int) (w : World) (hx : I64 x) (hy : I64 y) (hz : I64 z) (hT : Tab w) :
    Calls Tryd.prog 26 #[.agg #[.int .i64 k, .int .i64 x, .int .i64 y, .int .i64 z]] w fun e w' => e = .returned (str (textW k x y z)) ∧ Below w.heap.size w w' := by
  have hl := pickW_length k
  go_enter Tryd.func26, Tryd.ntmps26
  go_wp2_with fail
  refine (writeWord_any w.heap.size k _ (by simp) (by simp [go_sem])).mono ?_
  rintro e w1 ⟨rfl, hb1⟩
  have hs1 := hb1.size
  have hB1 : Below w.heap.size w w1 := (by go_grown : Below w.heap.size w (w.alloc (.cells #[.int .i64 k, .int .i64 x, .int .i64 y, .int .i64 z] 65))).trans (hb1.mono (by simp))
  have hlt : w.heap.size < w1.heap.size := by simp at hs1; omega
  have c0 : w1.cell? ⟨w.heap.size, 0, none⟩ = some (.int .i64 k) := by rw [hb1.cell (p := ⟨w.heap.size, 0, none⟩) (by simp)]; simp [go_sem]
  have c1 : w1.cell? ⟨w.heap.size, 1, none⟩ = some (.int .i64 x) := by rw [hb1.cell (p := ⟨w.heap.size, 1, none⟩) (by simp)]; simp [go_sem]
  have c2 : w1.cell? ⟨w.heap.size, 2, none⟩ = some (.int .i64 y) := by rw [hb1.cell (p := ⟨w.heap.size, 2, none⟩) (by simp)]; simp [go_sem]
  have c3 : w1.cell? ⟨w.heap.size, 3, none⟩ = some (.int .i64 z) := by rw [hb1.cell (p := ⟨w.heap.size, 3, none⟩) (by simp)]; simp [go_sem]
  have HB := hid hB1
  have HL := hid (writeLine w1 w.heap.size k x y z hlt c0 c1 c2 c3)
  have HT := hid (hT.keep hB1)
  clear hb1 hs1 hB1 c0 c1 c2 c3 hT
  by_cases h0 : pickB wordsW k = []
  · have e1 : Hid (textW k x y z = noneB) := by rw [Hid, textW, if_pos h0]
    rw [h0]
    clear HL
    go_wp2
    go_ret
    exact ⟨by rw [e1.out]; rfl, HB.out⟩
  · have e1 : Hid (textW k x y z = lineB (pickB wordsW k) (numsW k x y z)) := by rw [Hid, textW, if_neg h0]
    have e2 : (pickB wordsW k).isEmpty = false := by simpa [List.isEmpty_iff] using h0
    clear h0
    go_wp2_with fail
    refine (line_any w1 HL.out HT.out (numsW_i64 hx hy hz) (by have := numsW_length k x y z; omega) (by omega)).mono ?_
    rintro e w2 ⟨rfl, hb2⟩
    go_wp2
    go_ret
    exact ⟨by rw [e1.out]; rfl, HB.out.trans (hb2.mono HB.out.size)⟩

def inId (n : Int) : Bool := decide (-1000000 ≤ n ∧ n ≤ 1000000)
theorem canBeRead_any (n : Int) (w : World) : Calls Tryd.prog 51 #[.int .i64 n] w fun e w' => e = .returned (.bool (inId n)) ∧ w' = w := by
  by_cases h1 : -1000000 ≤ n
  · by_cases h2 : n ≤ 1000000
    · have e1 : Hid (inId n = true) := by simp [Hid, inId, h1, h2]
      go_enter Tryd.func51, Tryd.ntmps51
      go_wp2
      go_ret
      exact ⟨by rw [e1.out]; rfl, rfl⟩
    · have e1 : Hid (inId n = false) := by simp [Hid, inId, h2]
      go_enter Tryd.func51, Tryd.ntmps51
      go_wp2
      go_ret
      exact ⟨by rw [e1.out]; rfl, rfl⟩
  · have e1 : Hid (inId n = false) := by simp [Hid, inId, h1]
    go_enter Tryd.func51, Tryd.ntmps51
    go_wp2
    go_ret
    exact ⟨by rw [e1.out]; rfl, rfl⟩
def textE (k x y : Int) : List UInt8 := if (pickB wordsE k).isEmpty || !inId x || !inId y then [] else lineB (pickB wordsE k) [x, y]
set_option maxRecDepth 100000 in
set_option maxHeartbeats 1000000 in
/-- TextEvent, the program's. -/
theorem textEvent_any (k x y : Int) (w : World) (hx : I64 x) (hy : I64 y) (hT : Tab w) :
    Calls Tryd.prog 20 #[.agg #[.int .i64 k, .int .i64 x, .int .i64 y]] w fun e w' => e = .returned (str (textE k x y)) ∧ Below w.heap.size w w' := by
  have hl := pickE_length k
  go_enter Tryd.func20, Tryd.ntmps20
  go_wp2_with fail
  refine (eventWord_any w.heap.size k _ (by simp) (by simp [go_sem])).mono ?_
  rintro e w1 ⟨rfl, hb1⟩
  have hs1 := hb1.size
  have hB1 : Below w.heap.size w w1 := (by go_grown : Below w.heap.size w (w.alloc (.cells #[.int .i64 k, .int .i64 x, .int .i64 y] 55))).trans (hb1.mono (by simp))
  have hlt : w.heap.size < w1.heap.size := by simp at hs1; omega
  have c0 : w1.cell? ⟨w.heap.size, 0, none⟩ = some (.int .i64 k) := by rw [hb1.cell (p := ⟨w.heap.size, 0, none⟩) (by simp)]; simp [go_sem]
  have c1 : w1.cell? ⟨w.heap.size, 1, none⟩ = some (.int .i64 x) := by rw [hb1.cell (p := ⟨w.heap.size, 1, none⟩) (by simp)]; simp [go_sem]
  have c2 : w1.cell? ⟨w.heap.size, 2, none⟩ = some (.int .i64 y) := by rw [hb1.cell (p := ⟨w.heap.size, 2, none⟩) (by simp)]; simp [go_sem]
  have HB := hid hB1
  have HL := hid (eventLine w1 w.heap.size k x y hlt c0 c1 c2)
  have HT := hid (hT.keep hB1)
  clear hb1 hs1 hB1 hT
  have E : Hid (textE k x y = if (pickB wordsE k).isEmpty || !inId x || !inId y then [] else lineB (pickB wordsE k) [x, y]) := rfl
  cases h0 : (pickB wordsE k).isEmpty
  · go_wp2_with fail
    refine (canBeRead_any x w1).mono ?_
    rintro e w2 ⟨rfl, rfl⟩
    cases h1 : inId x
    · go_wp2
      go_ret
      exact ⟨by rw [E.out, h0, h1]; rfl, HB.out⟩
    · go_wp2_with fail
      refine (canBeRead_any y w2).mono ?_
      rintro e w3 ⟨rfl, rfl⟩
      cases h2 : inId y
      · go_wp2
        go_ret
        exact ⟨by rw [E.out, h0, h1, h2]; rfl, HB.out⟩
      · clear c0 c1 c2
        go_wp2_with fail
        refine (line_any w3 HL.out HT.out (by intro n hn; simp at hn; rcases hn with rfl | rfl <;> assumption) (by simp) (by omega)).mono ?_
        rintro e w4 ⟨rfl, hb4⟩
        go_wp2
        go_ret
        exact ⟨by rw [E.out, h0, h1, h2]; rfl, HB.out.trans (hb4.mono HB.out.size)⟩
  · go_wp2
    go_ret
    exact ⟨by rw [E.out, h0]; rfl, HB.out⟩
end Go.Proofs.YtoceohacplmgnaaDoor
