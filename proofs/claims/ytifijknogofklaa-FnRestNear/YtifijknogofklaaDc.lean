/- What is drawn to be asked, read as what is asked. -/
import Derived.Test.YtifijknogofklaaDb
namespace Go.Proofs.Ytifijknogofklaa
open Go.RowKit

def zOf (xs : List Value) (j : Nat) : Int := match xs[j]? with | some (.int .i64 z) => z | _ => 0
theorem Ints.at {xs : List Value} (h : Ints xs) (j : Nat) (hj : j < xs.length) : xs[j]? = some (.int .i64 (zOf xs j)) := by
  obtain ⟨z, hz⟩ := h xs[j] (List.getElem_mem hj)
  simp only [zOf, List.getElem?_eq_getElem hj, hz]
def wkOf (xs : List Value) (i : Nat) : Wk := ⟨zOf xs (i * 8), zOf xs (i * 8 + 1), zOf xs (i * 8 + 2), zOf xs (i * 8 + 3), zOf xs (i * 8 + 4), zOf xs (i * 8 + 5), zOf xs (i * 8 + 6), zOf xs (i * 8 + 7)⟩
def gpOf (xs : List Value) (i : Nat) : Gp := ⟨zOf xs (i * 5), zOf xs (i * 5 + 1), zOf xs (i * 5 + 2), zOf xs (i * 5 + 3), zOf xs (i * 5 + 4)⟩
def wksOf (xs : List Value) (n : Nat) : List Wk := (List.range n).map (wkOf xs)
def gpsOf (xs : List Value) (n : Nat) : List Gp := (List.range n).map (gpOf xs)

theorem works_of {w : World} {base g n c : Nat} {xs : List Value} (h : w.ownsRow base 34 8 (.slice (some ⟨g, 0, none⟩) n c) n xs) (hi : Ints xs) : WorksAt w (some ⟨g, 0, none⟩) (wksOf xs n) := by
  refine .inr ⟨g, 0, rfl, (h.lt g rfl).2, fun i hi' j hj => ?_⟩
  have hin : i < n := by simpa [wksOf] using hi'
  have hb : i * 8 + j < n * 8 := by have := Nat.mul_le_mul_right 8 (show i + 1 ≤ n from hin); omega
  rw [Nat.zero_add, h.cellAt _ hb, hi.at _ (by rw [h.1]; exact hb)]
  have hj' : j = 0 ∨ j = 1 ∨ j = 2 ∨ j = 3 ∨ j = 4 ∨ j = 5 ∨ j = 6 ∨ j = 7 := by omega
  rcases hj' with rfl | rfl | rfl | rfl | rfl | rfl | rfl | rfl <;> simp [wksOf, wkOf, Wk.cell]
theorem groups_of {w : World} {base g n c : Nat} {xs : List Value} (h : w.ownsRow base 113 5 (.slice (some ⟨g, 0, none⟩) n c) n xs) (hi : Ints xs) : GroupsAt w (some ⟨g, 0, none⟩) (gpsOf xs n) := by
  refine .inr ⟨g, 0, rfl, (h.lt g rfl).2, fun i hi' j hj => ?_⟩
  have hin : i < n := by simpa [gpsOf] using hi'
  have hb : i * 5 + j < n * 5 := by have := Nat.mul_le_mul_right 5 (show i + 1 ≤ n from hin); omega
  rw [Nat.zero_add, h.cellAt _ hb, hi.at _ (by rw [h.1]; exact hb)]
  have hj' : j = 0 ∨ j = 1 ∨ j = 2 ∨ j = 3 ∨ j = 4 := by omega
  rcases hj' with rfl | rfl | rfl | rfl | rfl <;> simp [gpsOf, gpOf, Gp.cell]

/-- What the box of a drawn one holds: the two lists, and all in its own memory. -/
def Mine (r : Nat) (w w' : World) (base N C g1 n1 c1 g2 n2 c2 : Nat) (s k i b : Int) (xs1 xs2 : List Value) (cN : Array Value) (bd : Int) : Prop :=
  But r w w' ∧ Rd w' r bd ∧ Blk w' N cN 26 ∧ Blk w' C #[.slice (some ⟨g1, 0, none⟩) n1 c1, .slice (some ⟨g2, 0, none⟩) n2 c2, .int .i64 s, .int .i64 k, .int .i64 i, .int .i64 b] 26 ∧
    w'.ownsRow base 34 8 (.slice (some ⟨g1, 0, none⟩) n1 c1) n1 xs1 ∧ Ints xs1 ∧ w'.ownsRow base 113 5 (.slice (some ⟨g2, 0, none⟩) n2 c2) n2 xs2 ∧ Ints xs2

theorem Mine.cfg {r : Nat} {w w' : World} {base N C g1 n1 c1 g2 n2 c2 : Nat} {s k i b : Int} {xs1 xs2 : List Value} {cN : Array Value} {bd : Int} (h : Mine r w w' base N C g1 n1 c1 g2 n2 c2 s k i b xs1 xs2 cN bd) (h1 : n1 ≤ 3) (h2 : n2 ≤ 3) :
    CfgAt w' (.agg #[.slice (some ⟨g1, 0, none⟩) n1 c1, .slice (some ⟨g2, 0, none⟩) n2 c2, .int .i64 s, .int .i64 k, .int .i64 i, .int .i64 b]) ⟨wksOf xs1 n1, gpsOf xs2 n2, s, k, i, b⟩ :=
  ⟨_, _, _, _, _, _, rfl, ⟨by simp [wksOf], by omega, works_of h.2.2.2.2.1 h.2.2.2.2.2.1⟩, ⟨by simp [gpsOf], by omega, groups_of h.2.2.2.2.2.2.1 h.2.2.2.2.2.2.2⟩⟩

theorem Mine.alloc {r : Nat} {w w' : World} {base N C g1 n1 c1 g2 n2 c2 : Nat} {s k i b : Int} {xs1 xs2 : List Value} {cN : Array Value} {bd : Int} (h : Mine r w w' base N C g1 n1 c1 g2 n2 c2 s k i b xs1 xs2 cN bd) (o : Obj) : Mine r w (w'.alloc o) base N C g1 n1 c1 g2 n2 c2 s k i b xs1 xs2 cN bd :=
  ⟨h.1.alloc o, h.2.1.keep ((Below.refl _ _).alloc (Nat.le_refl _) o), h.2.2.1.alloc o, h.2.2.2.1.alloc o, h.2.2.2.2.1.alloc o, h.2.2.2.2.2.1, h.2.2.2.2.2.2.1.alloc o, h.2.2.2.2.2.2.2⟩
theorem Mine.but {r : Nat} {w w' w'' : World} {base N C g1 n1 c1 g2 n2 c2 : Nat} {s k i b : Int} {xs1 xs2 : List Value} {cN : Array Value} {bd bd' : Int} (h : Mine r w w' base N C g1 n1 c1 g2 n2 c2 s k i b xs1 xs2 cN bd) (hB : But r w' w'') (hR : Rd w'' r bd') (hN : N ≠ r) (hC : C ≠ r) (hr : r < base) : Mine r w w'' base N C g1 n1 c1 g2 n2 c2 s k i b xs1 xs2 cN bd' :=
  ⟨h.1.trans hB, hR, h.2.2.1.but hB hN, h.2.2.2.1.but hB hC, owns_but h.2.2.2.2.1 hB hr, h.2.2.2.2.2.1, owns_but h.2.2.2.2.2.2.1 hB hr, h.2.2.2.2.2.2.2⟩
theorem Mine.bel {r : Nat} {w w' w'' : World} {base N C g1 n1 c1 g2 n2 c2 : Nat} {s k i b : Int} {xs1 xs2 : List Value} {cN : Array Value} {bd : Int} (h : Mine r w w' base N C g1 n1 c1 g2 n2 c2 s k i b xs1 xs2 cN bd) (hB : Below w'.heap.size w' w'') : Mine r w w'' base N C g1 n1 c1 g2 n2 c2 s k i b xs1 xs2 cN bd :=
  ⟨h.1.trans (But.of_below hB), h.2.1.keep hB, h.2.2.1.below hB h.2.2.1.lt, h.2.2.2.1.below hB h.2.2.2.1.lt, h.2.2.2.2.1.kept (bel_grown hB) (.inr (by simp [Value.ownBlock])), h.2.2.2.2.2.1, h.2.2.2.2.2.2.1.kept (bel_grown hB) (.inr (by simp [Value.ownBlock])), h.2.2.2.2.2.2.2⟩
theorem Mine.mono {r : Nat} {w w' : World} {base N C g1 n1 c1 g2 n2 c2 : Nat} {s k i b : Int} {xs1 xs2 : List Value} {cN : Array Value} {bd bd' : Int} (h : Mine r w w' base N C g1 n1 c1 g2 n2 c2 s k i b xs1 xs2 cN bd) (hb : bd ≤ bd') : Mine r w w' base N C g1 n1 c1 g2 n2 c2 s k i b xs1 xs2 cN bd' := ⟨h.1, h.2.1.mono hb, h.2.2⟩
/-- A number written into the list of works. -/
theorem Mine.work {r : Nat} {w w' : World} {base N C g1 n1 c1 g2 n2 c2 : Nat} {s k i b : Int} {xs1 xs2 : List Value} {cN : Array Value} {bd : Int} (h : Mine r w w' base N C g1 n1 c1 g2 n2 c2 s k i b xs1 xs2 cN bd) (hw : w.heap.size ≤ base) (hr : r < base) (hN : N < base) (hC : C ≠ g1) (hg : g1 ≠ g2) (j : Nat) (z : Int) :
    Mine r w (w'.setCell ⟨g1, j, none⟩ (.int .i64 z)) base N C g1 n1 c1 g2 n2 c2 s k i b (xs1.set j (.int .i64 z)) xs2 cN bd := by
  have hb := (h.2.2.2.2.1.lt g1 rfl).1
  exact ⟨h.1.setCell (.inr (by simp; omega)) _, h.2.1.far ((Below.refl _ _).setCell (by simp; omega) _), h.2.2.1.far (by simp; omega) _, h.2.2.2.1.far (by simpa using hC) _, (h.2.2.2.2.1.stored j _).1, Ints.sets [.int .i64 z] xs1 j h.2.2.2.2.2.1 (fun u hu => by simp at hu; exact ⟨z, hu⟩), owns_far h.2.2.2.2.2.2.1 _ (fun k hk => by simp [Value.ownBlock] at hk; simp; omega), h.2.2.2.2.2.2.2⟩
theorem Mine.group {r : Nat} {w w' : World} {base N C g1 n1 c1 g2 n2 c2 : Nat} {s k i b : Int} {xs1 xs2 : List Value} {cN : Array Value} {bd : Int} (h : Mine r w w' base N C g1 n1 c1 g2 n2 c2 s k i b xs1 xs2 cN bd) (hw : w.heap.size ≤ base) (hr : r < base) (hN : N < base) (hC : C ≠ g2) (hg : g1 ≠ g2) (j : Nat) (z : Int) :
    Mine r w (w'.setCell ⟨g2, j, none⟩ (.int .i64 z)) base N C g1 n1 c1 g2 n2 c2 s k i b xs1 (xs2.set j (.int .i64 z)) cN bd := by
  have hb := (h.2.2.2.2.2.2.1.lt g2 rfl).1
  exact ⟨h.1.setCell (.inr (by simp; omega)) _, h.2.1.far ((Below.refl _ _).setCell (by simp; omega) _), h.2.2.1.far (by simp; omega) _, h.2.2.2.1.far (by simpa using hC) _, owns_far h.2.2.2.2.1 _ (fun k hk => by simp [Value.ownBlock] at hk; simp; omega), h.2.2.2.2.2.1, (h.2.2.2.2.2.2.1.stored j _).1, Ints.sets [.int .i64 z] xs2 j h.2.2.2.2.2.2.2 (fun u hu => by simp at hu; exact ⟨z, hu⟩)⟩
/-- A cell of the lists. -/
theorem Mine.wcell {r : Nat} {w w' : World} {base N C g1 n1 c1 g2 n2 c2 : Nat} {s k i b : Int} {xs1 xs2 : List Value} {cN : Array Value} {bd : Int} (h : Mine r w w' base N C g1 n1 c1 g2 n2 c2 s k i b xs1 xs2 cN bd) (j : Nat) (hj : j < n1 * 8) : w'.cell? ⟨g1, j, none⟩ = some (.int .i64 (zOf xs1 j)) ∧ w'.frozen? ⟨g1, j, none⟩ = false :=
  ⟨(h.2.2.2.2.1.cellAt j hj).trans (h.2.2.2.2.2.1.at j (by rw [h.2.2.2.2.1.1]; exact hj)), h.2.2.2.2.1.frozenAt j⟩
theorem Mine.gcell {r : Nat} {w w' : World} {base N C g1 n1 c1 g2 n2 c2 : Nat} {s k i b : Int} {xs1 xs2 : List Value} {cN : Array Value} {bd : Int} (h : Mine r w w' base N C g1 n1 c1 g2 n2 c2 s k i b xs1 xs2 cN bd) (j : Nat) (hj : j < n2 * 5) : w'.cell? ⟨g2, j, none⟩ = some (.int .i64 (zOf xs2 j)) ∧ w'.frozen? ⟨g2, j, none⟩ = false :=
  ⟨(h.2.2.2.2.2.2.1.cellAt j hj).trans (h.2.2.2.2.2.2.2.at j (by rw [h.2.2.2.2.2.2.1.1]; exact hj)), h.2.2.2.2.2.2.1.frozenAt j⟩
end Go.Proofs.Ytifijknogofklaa
