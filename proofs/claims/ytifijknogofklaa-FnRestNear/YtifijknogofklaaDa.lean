/- The reader of codes, its place behind a bound; blocks that are known whole. -/
import Derived.Test.YtifijknogofklaaK
import Derived.Test.YtifijknogofklaaLc
namespace Go.Proofs.Ytifijknogofklaa
open Go.RowKit

/-- A reader at block r whose place is at most b. -/
def Rd (w : World) (r : Nat) (b : Int) : Prop := ∃ xa len cap f p, Reader w r xa len cap f p ∧ 0 ≤ p ∧ p ≤ b
theorem Rd.keep {w w' : World} {r : Nat} {b : Int} (h : Rd w r b) (hb : Below w.heap.size w w') : Rd w' r b := by
  obtain ⟨xa, len, cap, f, p, hR, h0, h1⟩ := h
  exact ⟨xa, len, cap, f, p, hR.keep hb, h0, h1⟩
theorem Rd.lt {w : World} {r : Nat} {b : Int} (h : Rd w r b) : r < w.heap.size := by
  obtain ⟨xa, len, cap, f, p, hR, _⟩ := h
  exact hR.lt
theorem Rd.mono {w : World} {r : Nat} {b b' : Int} (h : Rd w r b) (hb : b ≤ b') : Rd w r b' := by
  obtain ⟨xa, len, cap, f, p, hR, h0, h1⟩ := h
  exact ⟨xa, len, cap, f, p, hR, h0, by omega⟩
/-- The reader stays where blocks from r on alone, and not r, are written. -/
theorem Rd.far {w w' : World} {r : Nat} {b : Int} (h : Rd w r b) (hb : Below (r + 1) w w') : Rd w' r b := by
  obtain ⟨xa, len, cap, f, p, ⟨h1, h2, h3, h4, h5, h6, h7⟩, h0, hp⟩ := h
  refine ⟨xa, len, cap, f, p, ⟨(hb.cell (p := ⟨r, 0, none⟩) (Nat.lt_succ_self _)).trans h1, (hb.cell (p := ⟨r, 1, none⟩) (Nat.lt_succ_self _)).trans h2, (hb.frozen (p := ⟨r, 1, none⟩) (Nat.lt_succ_self _)).trans h3, h4, h5, Nat.lt_of_lt_of_le h6 hb.size, ?_⟩, h0, hp⟩
  rcases h7 with h7 | ⟨xb, xo, e, hx, hr⟩
  · exact .inl h7
  · exact .inr ⟨xb, xo, e, hx, fun i hi => (hb.cell (p := ⟨xb, _, none⟩) (Nat.lt_succ_of_lt hx)).trans (hr i hi)⟩

theorem pickR (r : Nat) (n b : Int) (w : World) (h : Rd w r b) (hb : b ≤ 100000) (hn0 : 1 ≤ n) (hn1 : n ≤ 10000) :
    Calls Try.prog 22 #[.pointer (some ⟨r, 0, none⟩), .int .i64 n] w fun e w' => ∃ k, e = .returned (.int .i64 k) ∧ 0 ≤ k ∧ k < n ∧ Rd w' r (b + 1) ∧ But r w w' := by
  obtain ⟨xa, len, cap, f, p, hR, h0, h1⟩ := h
  refine (pick_any r p n xa len cap f w hR h0 (by omega) hn0 hn1).mono ?_
  rintro e w' ⟨k, rfl, k0, k1, hR', hB⟩
  exact ⟨k, rfl, k0, k1, ⟨xa, len, cap, f, p + 1, hR', by omega, by omega⟩, hB⟩

theorem numR (r s ll cc : Nat) (b lo hi : Int) (W : World) (cs : Array Value) (h : Rd W r b) (hb : b ≤ 100000) (hl0 : 0 < ll) (hl1 : ll ≤ 10000) (hs : s = W.heap.size) (hcs : ∀ i, i < ll → ∃ v, cs[i]? = some (.int .i64 v) ∧ lo ≤ v ∧ v ≤ hi) :
    Calls Try.prog 54 #[.pointer (some ⟨r, 0, none⟩), .slice (some ⟨s, 0, none⟩) ll cc] (W.alloc (.cells cs 3)) fun e w' => ∃ v, e = .returned (.int .i64 v) ∧ lo ≤ v ∧ v ≤ hi ∧ Rd w' r (b + 1) ∧ But r W w' := by
  obtain ⟨xa, len, cap, f, p, hR, h0, h1⟩ := h
  subst hs
  have hbb : Below W.heap.size W (W.alloc (.cells cs 3)) := by go_grown
  have hg : ∀ i, i < ll → (W.alloc (.cells cs 3)).cell? ⟨W.heap.size, 0 + i, none⟩ = some (.int .i64 (match cs[i]? with | some (.int .i64 v) => v | _ => 0)) := fun i hi => by
    obtain ⟨v, hv, _⟩ := hcs i hi
    rw [hv, Nat.zero_add]
    simp [go_sem, hv]
  refine (num_any r W.heap.size 0 ll cc p xa len cap f _ _ (hR.keep hbb) h0 (by omega) hl0 hl1 (by have := hR.lt; omega) (by simp) hg).mono ?_
  rintro e w' ⟨i, hi, rfl, hR', hB⟩
  obtain ⟨v, hv, v0, v1⟩ := hcs i hi
  rw [hv]
  exact ⟨v, rfl, v0, v1, ⟨xa, len, cap, f, p + 1, hR', by omega, by omega⟩, (But.of_below hbb).trans hB⟩

/-- Block b holds these cells, none frozen. -/
def Blk (w : World) (b : Nat) (cs : Array Value) (T : TypeId) : Prop := w.heap[b]? = some (.cells cs T (0, 0))
theorem Blk.lt {w : World} {b : Nat} {cs : Array Value} {T : TypeId} (h : Blk w b cs T) : b < w.heap.size := by
  unfold Blk at h
  rcases Nat.lt_or_ge b w.heap.size with h' | h'
  · exact h'
  · rw [Array.getElem?_eq_none h'] at h; cases h
theorem Blk.but {w w' : World} {r b : Nat} {cs : Array Value} {T : TypeId} (h : Blk w b cs T) (hB : But r w w') (hr : b ≠ r) : Blk w' b cs T := (hB.block b hr h.lt).trans h
theorem Blk.below {w w' : World} {b B : Nat} {cs : Array Value} {T : TypeId} (h : Blk w b cs T) (hB : Below B w w') (hr : b < B) : Blk w' b cs T := (hB.block b hr).trans h
theorem Blk.cell {w : World} {b : Nat} {cs : Array Value} {T : TypeId} (h : Blk w b cs T) : ∀ k, w.cell? ⟨b, k, none⟩ = cs[k]? := (block_cells h).1
theorem Blk.frozen {w : World} {b : Nat} {cs : Array Value} {T : TypeId} (h : Blk w b cs T) : ∀ k, w.frozen? ⟨b, k, none⟩ = false := (block_cells h).2
theorem Blk.new (w : World) (cs : Array Value) (T : TypeId) : Blk (w.alloc (.cells cs T)) w.heap.size cs T := heap_alloc_new w _
theorem Blk.alloc {w : World} {b : Nat} {cs : Array Value} {T : TypeId} (h : Blk w b cs T) (o : Obj) : Blk (w.alloc o) b cs T := (Below.heap_alloc w o b h.lt).trans h
theorem Blk.far {w : World} {b : Nat} {cs : Array Value} {T : TypeId} (h : Blk w b cs T) {p : Addr} (hp : b ≠ p.block) (u : Value) : Blk (w.setCell p u) b cs T := (Below.heap_setCell w p u b hp).trans h
theorem Blk.set {w : World} {b : Nat} {cs : Array Value} {T : TypeId} (h : Blk w b cs T) (o : Nat) (u : Value) : Blk (w.setCell ⟨b, o, none⟩ u) b (cs.setIfInBounds o u) T := heap_setCell_same w b o cs T u h
theorem Blk.drew {w : World} {b : Nat} {cs : Array Value} {T : TypeId} (h : Blk w b cs T) : Blk w.drew b cs T := h
theorem Blk.grown {w w' : World} {row : Option Nat} {b : Nat} {cs : Array Value} {T : TypeId} (h : Blk w b cs T) (hg : w.grownBy w' row) (hr : some b ≠ row) : Blk w' b cs T := (hg.block b h.lt hr).trans h

/-- All of them numbers. -/
def Ints (xs : List Value) : Prop := ∀ u ∈ xs, ∃ z : Int, u = .int .i64 z
theorem Ints.append {xs ys : List Value} (h : Ints xs) (k : Ints ys) : Ints (xs ++ ys) := fun u hu => by
  rcases List.mem_append.1 hu with hu | hu
  · exact h u hu
  · exact k u hu
theorem Ints.one {xs : List Value} (h : Ints xs) : ∀ u ∈ xs, u.oneCell' = true := fun u hu => by
  obtain ⟨z, rfl⟩ := h u hu
  rfl
theorem Ints.sets : ∀ (vs xs : List Value) (j : Nat), Ints xs → Ints vs → Ints (setsAt xs j vs)
  | [], _, _, h, _ => h
  | v :: r, xs, j, h, k => Ints.sets r (xs.set j v) (j + 1) (fun u hu => by
      rcases List.mem_or_eq_of_mem_set hu with hu | rfl
      · exact h u hu
      · exact k _ List.mem_cons_self) (fun u hu => k u (List.mem_cons_of_mem _ hu))
end Go.Proofs.Ytifijknogofklaa
