/- Texts: words looked up in a list; the words of events and of changes. -/
import Derived.Test.YtoceohacplmgnaaDoorWb
import Derived.BigRegion
namespace Go.Proofs.YtoceohacplmgnaaDoor
open Go.RowKit

def pickB (ws : List (List UInt8)) (k : Int) : List UInt8 := if 0 ≤ k ∧ k < (ws.length : Int) then ws.getD k.toNat [] else []
/-- The word at a place of a list of words; the empty text, if there is no such place. -/
theorem wordAt_any (g : Nat) (ws : List (List UInt8)) (k : Int) (w : World)
    (hc : ∀ (j : Nat) (h : j < ws.length), w.cell? ⟨g, j, none⟩ = some (str ws[j])) (n : Nat) (hw : n = ws.length) :
    Calls Tryd.prog 80 #[.slice (some ⟨g, 0, none⟩) n n, .int .i64 k] w fun e w' => e = .returned (str (pickB ws k)) ∧ Below w.heap.size w w' := by
  subst hw
  have HC := hid hc
  clear hc
  by_cases h0 : 0 ≤ k
  · by_cases h1 : k < (ws.length : Int)
    · obtain ⟨j, rfl⟩ : ∃ j : Nat, k = j := ⟨k.toNat, by omega⟩
      have hj : j < ws.length := by omega
      have c0 := HC.out j hj
      have e1 : Hid (pickB ws (j : Int) = ws[j]) := by simp [Hid, pickB, hj]
      go_enter Tryd.func80, Tryd.ntmps80
      go_wp2
      go_ret
      exact ⟨by rw [e1.out]; rfl, by go_grown⟩
    · have e1 : Hid (pickB ws k = []) := by simp [Hid, pickB, h1]
      go_enter Tryd.func80, Tryd.ntmps80
      go_wp2
      go_ret
      exact ⟨by rw [e1.out]; rfl, by go_grown⟩
  · have e1 : Hid (pickB ws k = []) := by simp [Hid, pickB, h0]
    go_enter Tryd.func80, Tryd.ntmps80
    go_wp2
    go_ret
    exact ⟨by rw [e1.out]; rfl, by go_grown⟩

def wordsW : List (List UInt8) := [[], [119, 97, 110, 116], [108, 111, 119], [109, 97, 107, 101], [107, 105, 108, 108], [98, 105, 110, 100], [111, 117, 115, 116], [110, 111, 109], [97, 115, 107], [105, 100, 108, 101], [100, 114, 111, 112]]
def wordsE : List (List UInt8) := [[], [119, 97, 110, 116], [109, 97, 107, 101], [98, 105, 110, 100], [111, 117, 115, 116], [103, 114, 111, 119], [115, 104, 114, 105, 110, 107], [116, 105, 99, 107], [99, 111, 109, 101], [108, 111, 97, 100], [100, 105, 101]]
theorem cells_words (w : World) (ws : List (List UInt8)) (T : TypeId) : ∀ (j : Nat) (h : j < ws.length), (w.alloc (.cells (ws.map str).toArray T)).drew.cell? ⟨w.heap.size, j, none⟩ = some (str ws[j]) := by
  intro j h
  simp [go_sem, h]
theorem pickW_length (k : Int) : (pickB wordsW k).length ≤ 10 := by
  simp only [pickB]
  split
  · rename_i h
    have h1 : k.toNat < 11 := by simp [wordsW] at h; omega
    have : ∀ j, j < 11 → (wordsW.getD j []).length ≤ 10 := by decide
    exact this _ h1
  · simp
theorem pickE_length (k : Int) : (pickB wordsE k).length ≤ 10 := by
  simp only [pickB]
  split
  · rename_i h
    have h1 : k.toNat < 11 := by simp [wordsE] at h; omega
    have : ∀ j, j < 11 → (wordsE.getD j []).length ≤ 10 := by decide
    exact this _ h1
  · simp
/-- The word of a change. -/
theorem writeWord_any (b : Nat) (k : Int) (w : World) (hb : b < w.heap.size) (hc : w.cell? ⟨b, 0, none⟩ = some (.int .i64 k)) :
    Calls Tryd.prog 58 #[.pointer (some ⟨b, 0, none⟩)] w fun e w' => e = .returned (str (pickB wordsW k)) ∧ Below w.heap.size w w' := by
  go_enter Tryd.func58, Tryd.ntmps58
  go_wp2_with fail
  go_region_with (go_at_call 80; refine (wordAt_any _ wordsW k _ (cells_words w wordsW 156) 11 rfl).mono ?_; rintro e w4 ⟨rfl, hb4⟩)
  go_wp2
  go_ret
  exact ⟨rfl, (by go_grown : Below w.heap.size w _).trans (hb4.mono (by simp))⟩
/-- The words of events, by kind. -/
theorem eventWords_any (w : World) : Calls Tryd.prog 79 #[] w fun e w' => e = .returned (.agg #[.string ⟨#[]⟩, .string ⟨#[119, 97, 110, 116]⟩, .string ⟨#[109, 97, 107, 101]⟩, .string ⟨#[98, 105, 110, 100]⟩, .string ⟨#[111, 117, 115, 116]⟩, .string ⟨#[103, 114, 111, 119]⟩, .string ⟨#[115, 104, 114, 105, 110, 107]⟩, .string ⟨#[116, 105, 99, 107]⟩, .string ⟨#[99, 111, 109, 101]⟩, .string ⟨#[108, 111, 97, 100]⟩, .string ⟨#[100, 105, 101]⟩]) ∧ Below w.heap.size w w' := by
  go_enter Tryd.func79, Tryd.ntmps79
  go_wp2
  refine bodyPost_ret (v := .agg #[.string ⟨#[]⟩, .string ⟨#[119, 97, 110, 116]⟩, .string ⟨#[109, 97, 107, 101]⟩, .string ⟨#[98, 105, 110, 100]⟩, .string ⟨#[111, 117, 115, 116]⟩, .string ⟨#[103, 114, 111, 119]⟩, .string ⟨#[115, 104, 114, 105, 110, 107]⟩, .string ⟨#[116, 105, 99, 107]⟩, .string ⟨#[99, 111, 109, 101]⟩, .string ⟨#[108, 111, 97, 100]⟩, .string ⟨#[100, 105, 101]⟩]) (by simp [results, Tryd.results79, go_sem]) rfl ⟨rfl, by go_grown⟩
/-- The word of an event. -/
theorem eventWord_any (b : Nat) (k : Int) (w : World) (hb : b < w.heap.size) (hc : w.cell? ⟨b, 0, none⟩ = some (.int .i64 k)) :
    Calls Tryd.prog 50 #[.pointer (some ⟨b, 0, none⟩)] w fun e w' => e = .returned (str (pickB wordsE k)) ∧ Below w.heap.size w w' := by
  go_enter Tryd.func50, Tryd.ntmps50
  go_wp2_with fail
  refine (eventWords_any w).mono ?_
  rintro e w1 ⟨rfl, hb1⟩
  have hc1 : w1.cell? ⟨b, 0, none⟩ = some (.int .i64 k) := by rw [below_cell hb1 hb]; exact hc
  have hbs := hb1.size
  have HB1 := hid hb1
  have hb' : b < w1.heap.size := by omega
  have HS := hid hbs
  clear hc hb1 hb hbs
  go_wp2_with fail
  go_region_with (go_at_call 80; refine (wordAt_any _ wordsE k _ (cells_words w1 wordsE 156) 11 rfl).mono ?_; rintro e w4 ⟨rfl, hb4⟩)
  go_wp2
  go_ret
  exact ⟨rfl, (HB1.out.trans ((by go_grown : Below w1.heap.size w1 _).mono HS.out)).trans (hb4.mono (by have := HS.out; simp; omega))⟩
def numsW (k a b n : Int) : List Int := if k = 5 ∨ k = 7 then [a, b] else if k = 1 ∨ k = 2 ∨ k = 9 then [a, n] else [a]
/-- A new row of two pointers, or of one. -/
theorem ptrs_two {B b i j : Nat} {w : World} {x y : Int} (T : TypeId) (hb : b < B) (hB : B ≤ w.heap.size) (h1 : w.cell? ⟨b, i, none⟩ = some (.int .i64 x)) (h2 : w.cell? ⟨b, j, none⟩ = some (.int .i64 y)) :
    PtrsAt B (w.alloc (.cells #[.pointer (some ⟨b, i, none⟩), .pointer (some ⟨b, j, none⟩)] T)).drew w.heap.size [x, y] := by
  have hg : Below w.heap.size w (w.alloc (.cells #[.pointer (some ⟨b, i, none⟩), .pointer (some ⟨b, j, none⟩)] T)).drew := by go_grown
  refine ⟨by simp, fun k hk => ?_⟩
  match k, hk with
  | 0, _ => exact ⟨⟨b, i, none⟩, hb, by simp [go_sem], by rw [hg.cell (p := ⟨b, i, none⟩) (by simp; omega)]; exact h1⟩
  | 1, _ => exact ⟨⟨b, j, none⟩, hb, by simp [go_sem], by rw [hg.cell (p := ⟨b, j, none⟩) (by simp; omega)]; exact h2⟩
theorem ptrs_one {B b i : Nat} {w : World} {x : Int} (T : TypeId) (hb : b < B) (hB : B ≤ w.heap.size) (h1 : w.cell? ⟨b, i, none⟩ = some (.int .i64 x)) :
    PtrsAt B (w.alloc (.cells #[.pointer (some ⟨b, i, none⟩)] T)) w.heap.size [x] := by
  have hg : Below w.heap.size w (w.alloc (.cells #[.pointer (some ⟨b, i, none⟩)] T)) := by go_grown
  refine ⟨by simp, fun k hk => ?_⟩
  match k, hk with
  | 0, _ => exact ⟨⟨b, i, none⟩, hb, by simp [go_sem], by rw [hg.cell (p := ⟨b, i, none⟩) (by simp; omega)]; exact h1⟩
/-- Where the numbers of a change lie. -/
theorem writeFields_any (B b : Nat) (k x y z : Int) (w : World) (hb : b < B) (hB : B ≤ w.heap.size) (c0 : w.cell? ⟨b, 0, none⟩ = some (.int .i64 k)) (c1 : w.cell? ⟨b, 1, none⟩ = some (.int .i64 x))
    (c2 : w.cell? ⟨b, 2, none⟩ = some (.int .i64 y)) (c3 : w.cell? ⟨b, 3, none⟩ = some (.int .i64 z)) :
    Calls Tryd.prog 198 #[.pointer (some ⟨b, 0, none⟩)] w fun e w' => ∃ g c, e = .returned (.slice (some ⟨g, 0, none⟩) (numsW k x y z).length c) ∧ w.heap.size ≤ g ∧ PtrsAt B w' g (numsW k x y z) ∧ Below w.heap.size w w' := by
  have two : (k = 5 ∨ k = 7) ∨ ((¬ (k = 5 ∨ k = 7)) ∧ (k = 1 ∨ k = 2 ∨ k = 9)) ∨ (¬ (k = 5 ∨ k = 7) ∧ ¬ (k = 1 ∨ k = 2 ∨ k = 9)) := by omega
  rcases two with h | ⟨h, h'⟩ | ⟨h, h'⟩
  · have e1 : numsW k x y z = [x, y] := by rw [numsW, if_pos h]
    rw [e1]
    rcases h with rfl | rfl
    all_goals
      go_enter Tryd.func198, Tryd.ntmps198
      go_wp2
      go_region
      repeat (first | go_values | go_skip | go_guarded | go_step | go_upon)
      go_ret
      exact ⟨w.heap.size, 2, rfl, Nat.le_refl _, ptrs_two 162 hb hB c1 c2, by go_grown⟩
  · have e1 : numsW k x y z = [x, z] := by rw [numsW, if_neg h, if_pos h']
    rw [e1]
    rcases h' with rfl | rfl | rfl
    all_goals
      go_enter Tryd.func198, Tryd.ntmps198
      go_wp2
      go_region
      repeat (first | go_values | go_skip | go_guarded | go_step | go_upon)
      go_ret
      exact ⟨w.heap.size, 2, rfl, Nat.le_refl _, ptrs_two 162 hb hB c1 c3, by go_grown⟩
  · have e1 : numsW k x y z = [x] := by rw [numsW, if_neg h, if_neg h']
    rw [e1]
    have d5 : (k == 5) = false := by simp; omega
    have d7 : (k == 7) = false := by simp; omega
    have d1 : (k == 1) = false := by simp; omega
    have d2 : (k == 2) = false := by simp; omega
    have d9 : (k == 9) = false := by simp; omega
    clear h h' e1
    go_enter Tryd.func198, Tryd.ntmps198
    go_wp2
    go_ret
    exact ⟨w.heap.size, 1, rfl, Nat.le_refl _, ptrs_one 162 hb hB c1, by go_grown⟩
/-- Where the numbers of an event lie. -/
theorem eventFields_any (B b : Nat) (x y : Int) (w : World) (hb : b < B) (hB : B ≤ w.heap.size) (c1 : w.cell? ⟨b, 1, none⟩ = some (.int .i64 x)) (c2 : w.cell? ⟨b, 2, none⟩ = some (.int .i64 y)) :
    Calls Tryd.prog 197 #[.pointer (some ⟨b, 0, none⟩)] w fun e w' => ∃ g c, e = .returned (.slice (some ⟨g, 0, none⟩) 2 c) ∧ w.heap.size ≤ g ∧ PtrsAt B w' g [x, y] ∧ Below w.heap.size w w' := by
  go_enter Tryd.func197, Tryd.ntmps197
  go_wp2
  go_region
  repeat (first | go_values | go_skip | go_guarded | go_step | go_upon)
  go_ret
  exact ⟨w.heap.size, 2, rfl, Nat.le_refl _, ptrs_two 162 hb hB c1 c2, by go_grown⟩
end Go.Proofs.YtoceohacplmgnaaDoor
