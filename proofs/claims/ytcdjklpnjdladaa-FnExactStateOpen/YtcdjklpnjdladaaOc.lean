/- Marks that are laid into lists, and looked for again. -/
import Derived.Test.YtcdjklpnjdladaaOw
namespace Go.Proofs.Ytcdjklpnjdladaa
open Go.RowKit

/-- Nothing that there was has turned, but blocks of S. -/
structure Only (S : Nat → Prop) (w w' : World) : Prop where
  os : w'.os = w.os
  tape : w'.tape = w.tape
  output : w'.output = w.output
  size : w.heap.size ≤ w'.heap.size
  block : ∀ k, k < w.heap.size → ¬ S k → w'.heap[k]? = w.heap[k]?
theorem Only.refl (S : Nat → Prop) (w : World) : Only S w w := ⟨rfl, rfl, rfl, Nat.le_refl _, fun _ _ _ => rfl⟩
theorem Only.trans {S : Nat → Prop} {w w' w'' : World} (h : Only S w w') (h' : Only S w' w'') : Only S w w'' :=
  ⟨h'.os.trans h.os, h'.tape.trans h.tape, h'.output.trans h.output, Nat.le_trans h.size h'.size, fun k hk hS => (h'.block k (Nat.lt_of_lt_of_le hk h.size) hS).trans (h.block k hk hS)⟩
theorem Only.mono {S S' : Nat → Prop} {w w' : World} (h : Only S w w') (hS : ∀ k, S k → S' k) : Only S' w w' := ⟨h.os, h.tape, h.output, h.size, fun k hk h' => h.block k hk (fun e => h' (hS k e))⟩
theorem Only.set {S : Nat → Prop} {w w' : World} (h : Only S w w') {p : Addr} (hp : S p.block) (u : Value) : Only S w (w'.setCell p u) :=
  ⟨h.os, h.tape, h.output, by simpa using h.size, fun k hk hS => (Below.heap_setCell _ _ _ _ (fun e => hS (by rw [e]; exact hp))).trans (h.block k hk hS)⟩
theorem Only.of_below {S : Nat → Prop} {w w' : World} (h : Below w.heap.size w w') : Only S w w' := ⟨h.os, h.tape, h.output, h.size, fun k hk _ => h.block k hk⟩
theorem Only.below {S : Nat → Prop} {w w' : World} {B : Nat} (h : Only S w w') (hB : ∀ k, k < B → k < w.heap.size ∧ ¬ S k) : Below B w w' := ⟨h.os, h.tape, h.output, h.size, fun k hk => h.block k (hB k hk).1 (hB k hk).2⟩
theorem Blk.only {S : Nat → Prop} {w w' : World} {b : Nat} {cs : Array Value} {T : TypeId} (h : Blk w b cs T) (ho : Only S w w') (hb : ¬ S b) : Blk w' b cs T := (ho.block b h.lt hb).trans h
theorem owns_only {S : Nat → Prop} {w w' : World} {base size n : Nat} {e : TypeId} {v : Value} {xs : List Value} (h : w.ownsRow base e size v n xs) (ho : Only S w w') (hb : ∀ k, v.ownBlock = some k → ¬ S k) : w'.ownsRow base e size v n xs := by
  refine ⟨h.1, ?_⟩
  rcases h.2 with h2 | ⟨g, cap, cur, h1, h2, h3, h4⟩
  · exact .inl h2
  · refine .inr ⟨g, cap, cur, h1, h2, ?_, h4⟩
    have hk := (h.lt g (by rw [h1]; rfl)).2
    rw [ho.block g hk (hb g (by rw [h1]; rfl))]
    exact h3
theorem Owns.only {α : Type} {m : Nat} {cell : α → Nat → Int} {T : TypeId} {S : Nat → Prop} {w w' : World} {base : Nat} {v : Value} {l : List α} (h : Owns m cell T base w v l) (ho : Only S w w') (hb : ∀ k, v.ownBlock = some k → ¬ S k) : Owns m cell T base w' v l := owns_only h ho hb

/-- The marks of a list of n records of three numbers, from k on. -/
def markW (k : Int) (n : Nat) : List Ws := (List.range n).map fun (i : Nat) => ⟨k + 3 * (i : Int), k + 3 * (i : Int) + 1, k + 3 * (i : Int) + 2⟩
def markG (k : Int) (n : Nat) : List Gs := (List.range n).map fun (i : Nat) => ⟨k + 3 * (i : Int), k + 3 * (i : Int) + 1, k + 3 * (i : Int) + 2⟩
theorem markW_length (k : Int) (n : Nat) : (markW k n).length = n := by simp [markW]
theorem markG_length (k : Int) (n : Nat) : (markG k n).length = n := by simp [markG]
theorem markW_at (k : Int) (n i : Nat) (h : i < (markW k n).length) : (markW k n)[i] = ⟨k + 3 * (i : Int), k + 3 * (i : Int) + 1, k + 3 * (i : Int) + 2⟩ := by simp [markW]
theorem markG_at (k : Int) (n i : Nat) (h : i < (markG k n).length) : (markG k n)[i] = ⟨k + 3 * (i : Int), k + 3 * (i : Int) + 1, k + 3 * (i : Int) + 2⟩ := by simp [markG]

set_option maxRecDepth 100000 in
set_option maxHeartbeats 2000000 in
theorem markWorks_any (p len cap base : Nat) (xs : List Value) (k0 : Int) (w : World) (hk : 0 ≤ k0 ∧ k0 ≤ 100000000) (hn : len ≤ 2000000) (h : w.ownsRow base 60 8 (.slice (some ⟨p, 0, none⟩) len cap) len xs) :
    Calls Try.prog 33 #[.slice (some ⟨p, 0, none⟩) len cap, .int .i64 k0] w fun e w' => e = .returned (.int .i64 (k0 + 8 * len)) ∧ Only (· = p) w w' := by
  have H := hide h
  clear h
  go_enter Try.func33, Try.ntmps33
  go_wp2
  go_loopw [1, 5] (fun s i w' => ∃ k : Nat, k ≤ len ∧ i = .int .i64 k ∧ s = .int .i64 (k0 + 8 * k) ∧ ∃ ys, Hid (w'.ownsRow base 60 8 (.slice (some ⟨p, 0, none⟩) len cap) len ys ∧ Only (· = p) w w')) (fun _ i _ => len - (intOf i).toNat)
  case atStart => exact ⟨0, Nat.zero_le _, rfl, by simp, _, H.out, Only.refl _ _⟩
  case round =>
    obtain ⟨k, hk, rfl, rfl, ys, hF⟩ := hrel
    by_cases hlt : k < len
    · have hl : ys.length = len * 8 := hF.out.1.1
      have hmul : k * 8 + 8 ≤ len * 8 := by have := Nat.mul_le_mul_right 8 (show k + 1 ≤ len from hlt); omega
      have hc : ∀ j, j < 8 → ∃ y, wr.cell? ⟨p, k * 8 + j, none⟩ = some y := fun j hj => ⟨ys[k * 8 + j]'(by omega), by rw [hF.out.1.cellAt _ (by omega), List.getElem?_eq_getElem (by omega)]⟩
      have hf : ∀ j, wr.frozen? ⟨p, j, none⟩ = false := fun j => hF.out.1.frozenAt j
      obtain ⟨y0, d0⟩ := hc 0 (by omega)
      obtain ⟨y1, d1⟩ := hc 1 (by omega)
      obtain ⟨y2, d2⟩ := hc 2 (by omega)
      obtain ⟨y3, d3⟩ := hc 3 (by omega)
      obtain ⟨y4, d4⟩ := hc 4 (by omega)
      obtain ⟨y5, d5⟩ := hc 5 (by omega)
      obtain ⟨y6, d6⟩ := hc 6 (by omega)
      obtain ⟨y7, d7⟩ := hc 7 (by omega)
      rw [Nat.add_zero] at d0
      have hk0 : (0 : Int) ≤ (k : Int) := by omega
      have hkn : (k : Int) < (len : Int) := by omega
      have hpl : p < wr.heap.size := (hF.out.1.lt p rfl).2
      clear hc hl
      go_wp2
      go_roundw
      case rel => exact ⟨k + 1, by omega, by go_num, congrArg _ (by omega), _, ((((((((hF.out.1.stored (k * 8) _).1.stored (k * 8 + 1) _).1.stored (k * 8 + 2) _).1.stored (k * 8 + 3) _).1.stored (k * 8 + 4) _).1.stored (k * 8 + 5) _).1.stored (k * 8 + 6) _).1.stored (k * 8 + 7) _).1, ((((((((hF.out.2.set (p := ⟨p, k * 8, none⟩) rfl _).set (p := ⟨p, k * 8 + 1, none⟩) rfl _).set (p := ⟨p, k * 8 + 2, none⟩) rfl _).set (p := ⟨p, k * 8 + 3, none⟩) rfl _).set (p := ⟨p, k * 8 + 4, none⟩) rfl _).set (p := ⟨p, k * 8 + 5, none⟩) rfl _).set (p := ⟨p, k * 8 + 6, none⟩) rfl _).set (p := ⟨p, k * 8 + 7, none⟩) rfl _)⟩
      case measure => simp [intOf]; omega
    · have : k = len := by omega
      subst this
      go_wp2
      go_ret
      exact ⟨rfl, hF.out.2⟩

set_option maxRecDepth 100000 in
set_option maxHeartbeats 2000000 in
theorem markGroups_any (p len cap base : Nat) (xs : List Value) (k0 : Int) (w : World) (hk : 0 ≤ k0 ∧ k0 ≤ 100000000) (hn : len ≤ 2000000) (h : w.ownsRow base 96 5 (.slice (some ⟨p, 0, none⟩) len cap) len xs) :
    Calls Try.prog 34 #[.slice (some ⟨p, 0, none⟩) len cap, .int .i64 k0] w fun e w' => e = .returned (.int .i64 (k0 + 5 * len)) ∧ Only (· = p) w w' := by
  have H := hide h
  clear h
  go_enter Try.func34, Try.ntmps34
  go_wp2
  go_loopw [1, 5] (fun s i w' => ∃ k : Nat, k ≤ len ∧ i = .int .i64 k ∧ s = .int .i64 (k0 + 5 * k) ∧ ∃ ys, Hid (w'.ownsRow base 96 5 (.slice (some ⟨p, 0, none⟩) len cap) len ys ∧ Only (· = p) w w')) (fun _ i _ => len - (intOf i).toNat)
  case atStart => exact ⟨0, Nat.zero_le _, rfl, by simp, _, H.out, Only.refl _ _⟩
  case round =>
    obtain ⟨k, hk, rfl, rfl, ys, hF⟩ := hrel
    by_cases hlt : k < len
    · have hl : ys.length = len * 5 := hF.out.1.1
      have hmul : k * 5 + 5 ≤ len * 5 := by have := Nat.mul_le_mul_right 5 (show k + 1 ≤ len from hlt); omega
      have hc : ∀ j, j < 5 → ∃ y, wr.cell? ⟨p, k * 5 + j, none⟩ = some y := fun j hj => ⟨ys[k * 5 + j]'(by omega), by rw [hF.out.1.cellAt _ (by omega), List.getElem?_eq_getElem (by omega)]⟩
      have hf : ∀ j, wr.frozen? ⟨p, j, none⟩ = false := fun j => hF.out.1.frozenAt j
      obtain ⟨y0, d0⟩ := hc 0 (by omega)
      obtain ⟨y1, d1⟩ := hc 1 (by omega)
      obtain ⟨y2, d2⟩ := hc 2 (by omega)
      obtain ⟨y3, d3⟩ := hc 3 (by omega)
      obtain ⟨y4, d4⟩ := hc 4 (by omega)
      rw [Nat.add_zero] at d0
      have hk0 : (0 : Int) ≤ (k : Int) := by omega
      have hkn : (k : Int) < (len : Int) := by omega
      have hpl : p < wr.heap.size := (hF.out.1.lt p rfl).2
      clear hc hl
      go_wp2
      go_roundw
      case rel => exact ⟨k + 1, by omega, by go_num, congrArg _ (by omega), _, (((((hF.out.1.stored (k * 5) _).1.stored (k * 5 + 1) _).1.stored (k * 5 + 2) _).1.stored (k * 5 + 3) _).1.stored (k * 5 + 4) _).1, (((((hF.out.2.set (p := ⟨p, k * 5, none⟩) rfl _).set (p := ⟨p, k * 5 + 1, none⟩) rfl _).set (p := ⟨p, k * 5 + 2, none⟩) rfl _).set (p := ⟨p, k * 5 + 3, none⟩) rfl _).set (p := ⟨p, k * 5 + 4, none⟩) rfl _)⟩
      case measure => simp [intOf]; omega
    · have : k = len := by omega
      subst this
      go_wp2
      go_ret
      exact ⟨rfl, hF.out.2⟩

set_option maxRecDepth 100000 in
set_option maxHeartbeats 2000000 in
theorem markWs_any (p len cap base : Nat) (l : List Ws) (k0 : Int) (w : World) (hk : 0 ≤ k0 ∧ k0 ≤ 100000000) (hn : len ≤ 2000000) (hlen : l.length = len) (h : Owns 3 Ws.cell 62 base w (.slice (some ⟨p, 0, none⟩) len cap) l) :
    Calls Try.prog 37 #[.slice (some ⟨p, 0, none⟩) len cap, .int .i64 k0] w fun e w' => e = .returned (.int .i64 (k0 + 3 * len)) ∧ Only (· = p) w w' ∧ Owns 3 Ws.cell 62 base w' (.slice (some ⟨p, 0, none⟩) len cap) (markW k0 len) := by
  have H := hide h
  have HL := hide hlen
  clear h hlen
  go_enter Try.func37, Try.ntmps37
  go_wp2
  go_loopw [1, 5] (fun s i w' => ∃ k : Nat, k ≤ len ∧ i = .int .i64 k ∧ s = .int .i64 (k0 + 3 * k) ∧ ∃ L : List Ws, Hid (L.length = len ∧ (∀ i (h : i < L.length), i < k → L[i] = ⟨k0 + 3 * (i : Int), k0 + 3 * (i : Int) + 1, k0 + 3 * (i : Int) + 2⟩) ∧ Owns 3 Ws.cell 62 base w' (.slice (some ⟨p, 0, none⟩) len cap) L ∧ Only (· = p) w w')) (fun _ i _ => len - (intOf i).toNat)
  case atStart => exact ⟨0, Nat.zero_le _, rfl, by simp, l, HL.out, fun i _ hi => absurd hi (by omega), H.out, Only.refl _ _⟩
  case round =>
    obtain ⟨k, hk, rfl, rfl, L, hF⟩ := hrel
    by_cases hlt : k < len
    · have hkL : k < L.length := by rw [hF.out.1]; exact hlt
      obtain ⟨d0, f0⟩ := hF.out.2.2.1.cellAt hF.out.1.symm k hkL 0 (by omega)
      obtain ⟨d1, f1⟩ := hF.out.2.2.1.cellAt hF.out.1.symm k hkL 1 (by omega)
      obtain ⟨d2, f2⟩ := hF.out.2.2.1.cellAt hF.out.1.symm k hkL 2 (by omega)
      rw [Nat.add_zero] at d0 f0
      generalize Ws.cell L[k] 0 = q0 at d0
      generalize Ws.cell L[k] 1 = q1 at d1
      generalize Ws.cell L[k] 2 = q2 at d2
      have hk0 : (0 : Int) ≤ (k : Int) := by omega
      have hkn : (k : Int) < (len : Int) := by omega
      have hpl : p < wr.heap.size := (hF.out.2.2.1.lt p rfl).2
      have HKL := hide hkL
      clear hkL
      go_wp2
      go_roundw
      case rel =>
        have hkL := HKL.out
        obtain ⟨g1, g2, g3, g4⟩ := hF.out
        have o1 := g3.set g1.symm k hkL 0 (by omega) ⟨k0 + 3 * (k : Int), L[k].load, L[k].low⟩ (k0 + 3 * (k : Int)) (by intro j hj; have hj' : j = 0 ∨ j = 1 ∨ j = 2 := (by omega); rcases hj' with rfl | rfl | rfl <;> rfl)
        have o2 := o1.set (by simpa using g1.symm) k (by simpa using hkL) 1 (by omega) ⟨k0 + 3 * (k : Int), k0 + 3 * (k : Int) + 1, L[k].low⟩ (k0 + 3 * (k : Int) + 1) (by intro j hj; have hj' : j = 0 ∨ j = 1 ∨ j = 2 := (by omega); rcases hj' with rfl | rfl | rfl <;> simp [Ws.cell])
        have o3 := o2.set (by simpa using g1.symm) k (by simpa using hkL) 2 (by omega) ⟨k0 + 3 * (k : Int), k0 + 3 * (k : Int) + 1, k0 + 3 * (k : Int) + 2⟩ (k0 + 3 * (k : Int) + 2) (by intro j hj; have hj' : j = 0 ∨ j = 1 ∨ j = 2 := (by omega); rcases hj' with rfl | rfl | rfl <;> simp [Ws.cell])
        rw [show k0 + 3 * (k : Int) + 2 = k0 + 3 * (k : Int) + 1 + 1 by omega] at o3
        refine ⟨k + 1, by omega, by go_num, congrArg _ (by omega), _, ?_, ?_, o3, ((g4.set (p := ⟨p, k * 3, none⟩) rfl _).set (p := ⟨p, k * 3 + 1, none⟩) rfl _).set (p := ⟨p, k * 3 + 2, none⟩) rfl _⟩
        · simpa using g1
        · intro i hi hik
          by_cases e : i = k
          · subst e; simp; omega
          · simp only [List.length_set] at hi
            rw [List.getElem_set_ne (by omega), List.getElem_set_ne (by omega), List.getElem_set_ne (by omega)]
            exact g2 i hi (by omega)
      case measure => simp [intOf]; omega
    · have : k = len := by omega
      subst this
      go_wp2
      go_ret
      refine ⟨rfl, hF.out.2.2.2, ?_⟩
      have e : L = markW k0 k := List.ext_getElem (by rw [hF.out.1, markW_length]) (fun i h1 h2 => by rw [hF.out.2.1 i h1 (by rw [← hF.out.1]; exact h1), markW_at])
      rw [← e]
      exact hF.out.2.2.1

set_option maxRecDepth 100000 in
set_option maxHeartbeats 2000000 in
theorem markGs_any (p len cap base : Nat) (l : List Gs) (k0 : Int) (w : World) (hk : 0 ≤ k0 ∧ k0 ≤ 100000000) (hn : len ≤ 2000000) (hlen : l.length = len) (h : Owns 3 Gs.cell 86 base w (.slice (some ⟨p, 0, none⟩) len cap) l) :
    Calls Try.prog 38 #[.slice (some ⟨p, 0, none⟩) len cap, .int .i64 k0] w fun e w' => e = .returned (.int .i64 (k0 + 3 * len)) ∧ Only (· = p) w w' ∧ Owns 3 Gs.cell 86 base w' (.slice (some ⟨p, 0, none⟩) len cap) (markG k0 len) := by
  have H := hide h
  have HL := hide hlen
  clear h hlen
  go_enter Try.func38, Try.ntmps38
  go_wp2
  go_loopw [1, 5] (fun s i w' => ∃ k : Nat, k ≤ len ∧ i = .int .i64 k ∧ s = .int .i64 (k0 + 3 * k) ∧ ∃ L : List Gs, Hid (L.length = len ∧ (∀ i (h : i < L.length), i < k → L[i] = ⟨k0 + 3 * (i : Int), k0 + 3 * (i : Int) + 1, k0 + 3 * (i : Int) + 2⟩) ∧ Owns 3 Gs.cell 86 base w' (.slice (some ⟨p, 0, none⟩) len cap) L ∧ Only (· = p) w w')) (fun _ i _ => len - (intOf i).toNat)
  case atStart => exact ⟨0, Nat.zero_le _, rfl, by simp, l, HL.out, fun i _ hi => absurd hi (by omega), H.out, Only.refl _ _⟩
  case round =>
    obtain ⟨k, hk, rfl, rfl, L, hF⟩ := hrel
    by_cases hlt : k < len
    · have hkL : k < L.length := by rw [hF.out.1]; exact hlt
      obtain ⟨d0, f0⟩ := hF.out.2.2.1.cellAt hF.out.1.symm k hkL 0 (by omega)
      obtain ⟨d1, f1⟩ := hF.out.2.2.1.cellAt hF.out.1.symm k hkL 1 (by omega)
      obtain ⟨d2, f2⟩ := hF.out.2.2.1.cellAt hF.out.1.symm k hkL 2 (by omega)
      rw [Nat.add_zero] at d0 f0
      generalize Gs.cell L[k] 0 = q0 at d0
      generalize Gs.cell L[k] 1 = q1 at d1
      generalize Gs.cell L[k] 2 = q2 at d2
      have hk0 : (0 : Int) ≤ (k : Int) := by omega
      have hkn : (k : Int) < (len : Int) := by omega
      have hpl : p < wr.heap.size := (hF.out.2.2.1.lt p rfl).2
      have HKL := hide hkL
      clear hkL
      go_wp2
      go_roundw
      case rel =>
        have hkL := HKL.out
        obtain ⟨g1, g2, g3, g4⟩ := hF.out
        have o1 := g3.set g1.symm k hkL 0 (by omega) ⟨k0 + 3 * (k : Int), L[k].rest, L[k].fails⟩ (k0 + 3 * (k : Int)) (by intro j hj; have hj' : j = 0 ∨ j = 1 ∨ j = 2 := (by omega); rcases hj' with rfl | rfl | rfl <;> rfl)
        have o2 := o1.set (by simpa using g1.symm) k (by simpa using hkL) 1 (by omega) ⟨k0 + 3 * (k : Int), k0 + 3 * (k : Int) + 1, L[k].fails⟩ (k0 + 3 * (k : Int) + 1) (by intro j hj; have hj' : j = 0 ∨ j = 1 ∨ j = 2 := (by omega); rcases hj' with rfl | rfl | rfl <;> simp [Gs.cell])
        have o3 := o2.set (by simpa using g1.symm) k (by simpa using hkL) 2 (by omega) ⟨k0 + 3 * (k : Int), k0 + 3 * (k : Int) + 1, k0 + 3 * (k : Int) + 2⟩ (k0 + 3 * (k : Int) + 2) (by intro j hj; have hj' : j = 0 ∨ j = 1 ∨ j = 2 := (by omega); rcases hj' with rfl | rfl | rfl <;> simp [Gs.cell])
        rw [show k0 + 3 * (k : Int) + 2 = k0 + 3 * (k : Int) + 1 + 1 by omega] at o3
        refine ⟨k + 1, by omega, by go_num, congrArg _ (by omega), _, ?_, ?_, o3, ((g4.set (p := ⟨p, k * 3, none⟩) rfl _).set (p := ⟨p, k * 3 + 1, none⟩) rfl _).set (p := ⟨p, k * 3 + 2, none⟩) rfl _⟩
        · simpa using g1
        · intro i hi hik
          by_cases e : i = k
          · subst e; simp; omega
          · simp only [List.length_set] at hi
            rw [List.getElem_set_ne (by omega), List.getElem_set_ne (by omega), List.getElem_set_ne (by omega)]
            exact g2 i hi (by omega)
      case measure => simp [intOf]; omega
    · have : k = len := by omega
      subst this
      go_wp2
      go_ret
      refine ⟨rfl, hF.out.2.2.2, ?_⟩
      have e : L = markG k0 k := List.ext_getElem (by rw [hF.out.1, markG_length]) (fun i h1 h2 => by rw [hF.out.2.1 i h1 (by rw [← hF.out.1]; exact h1), markG_at])
      rw [← e]
      exact hF.out.2.2.1

set_option maxRecDepth 100000 in
set_option maxHeartbeats 2000000 in
theorem heldWs_any (a : Option Addr) (len cap : Nat) (k0 : Int) (w : World) (hk : 0 ≤ k0 ∧ k0 ≤ 100000000) (hn : len ≤ 2000000) (h : WssAt w a (markW k0 len)) :
    Calls Try.prog 41 #[.slice a len cap, .int .i64 k0] w fun e w' => e = .returned (.int .i64 (k0 + 3 * len)) ∧ w' = w := by
  have H := hide h
  clear h
  go_enter Try.func41, Try.ntmps41
  go_wp2
  go_loopw [1, 5] (fun s i w' => ∃ k : Nat, k ≤ len ∧ i = .int .i64 k ∧ s = .int .i64 (k0 + 3 * k) ∧ w' = w) (fun _ i _ => len - (intOf i).toNat)
  case atStart => exact ⟨0, Nat.zero_le _, rfl, by simp, rfl⟩
  case round =>
    obtain ⟨k, hk, rfl, rfl, rfl⟩ := hrel
    by_cases hlt : k < len
    · obtain ⟨b, o, ha, hbl, d0, d1, d2⟩ := H.out.at k (by rw [markW_length]; exact hlt)
      subst ha
      rw [markW_at] at d0 d1 d2
      rw [show k0 + 3 * (k : Int) + 2 = k0 + 3 * (k : Int) + 1 + 1 by omega] at d2
      have hk0 : (0 : Int) ≤ (k : Int) := by omega
      have hkn : (k : Int) < (len : Int) := by omega
      go_wp2
      go_roundw
      case rel => exact ⟨k + 1, by omega, by go_num, congrArg _ (by omega), by trivial⟩
      case measure => simp [intOf]; omega
    · have : k = len := by omega
      subst this
      go_wp2
      go_ret
      exact ⟨rfl, rfl⟩

set_option maxRecDepth 100000 in
set_option maxHeartbeats 2000000 in
theorem heldGs_any (a : Option Addr) (len cap : Nat) (k0 : Int) (w : World) (hk : 0 ≤ k0 ∧ k0 ≤ 100000000) (hn : len ≤ 2000000) (h : GssAt w a (markG k0 len)) :
    Calls Try.prog 42 #[.slice a len cap, .int .i64 k0] w fun e w' => e = .returned (.int .i64 (k0 + 3 * len)) ∧ w' = w := by
  have H := hide h
  clear h
  go_enter Try.func42, Try.ntmps42
  go_wp2
  go_loopw [1, 5] (fun s i w' => ∃ k : Nat, k ≤ len ∧ i = .int .i64 k ∧ s = .int .i64 (k0 + 3 * k) ∧ w' = w) (fun _ i _ => len - (intOf i).toNat)
  case atStart => exact ⟨0, Nat.zero_le _, rfl, by simp, rfl⟩
  case round =>
    obtain ⟨k, hk, rfl, rfl, rfl⟩ := hrel
    by_cases hlt : k < len
    · obtain ⟨b, o, ha, hbl, d0, d1, d2⟩ := H.out.at k (by rw [markG_length]; exact hlt)
      subst ha
      rw [markG_at] at d0 d1 d2
      rw [show k0 + 3 * (k : Int) + 2 = k0 + 3 * (k : Int) + 1 + 1 by omega] at d2
      have hk0 : (0 : Int) ≤ (k : Int) := by omega
      have hkn : (k : Int) < (len : Int) := by omega
      go_wp2
      go_roundw
      case rel => exact ⟨k + 1, by omega, by go_num, congrArg _ (by omega), by trivial⟩
      case measure => simp [intOf]; omega
    · have : k = len := by omega
      subst this
      go_wp2
      go_ret
      exact ⟨rfl, rfl⟩

set_option maxRecDepth 100000 in
set_option maxHeartbeats 2000000 in
theorem markPods_none (k0 : Int) (w : World) :
    Calls Try.prog 35 #[.slice none 0 0, .int .i64 k0] w fun e w' => e = .returned (.int .i64 k0) ∧ w' = w := by
  go_enter Try.func35, Try.ntmps35
  go_wp2
  go_loopw [1, 5] (fun s i w' => i = .int .i64 0 ∧ s = .int .i64 k0 ∧ w' = w) (fun _ _ _ => 0)
  case atStart => exact ⟨rfl, rfl, rfl⟩
  case round =>
    obtain ⟨rfl, rfl, rfl⟩ := hrel
    go_wp2
    go_ret
    exact ⟨rfl, rfl⟩

set_option maxRecDepth 100000 in
set_option maxHeartbeats 2000000 in
theorem markNodes_none (k0 : Int) (w : World) :
    Calls Try.prog 36 #[.slice none 0 0, .int .i64 k0] w fun e w' => e = .returned (.int .i64 k0) ∧ w' = w := by
  go_enter Try.func36, Try.ntmps36
  go_wp2
  go_loopw [1, 5] (fun s i w' => i = .int .i64 0 ∧ s = .int .i64 k0 ∧ w' = w) (fun _ _ _ => 0)
  case atStart => exact ⟨rfl, rfl, rfl⟩
  case round =>
    obtain ⟨rfl, rfl, rfl⟩ := hrel
    go_wp2
    go_ret
    exact ⟨rfl, rfl⟩

set_option maxRecDepth 100000 in
set_option maxHeartbeats 2000000 in
theorem heldPods_none (k0 : Int) (w : World) :
    Calls Try.prog 39 #[.slice none 0 0, .int .i64 k0] w fun e w' => e = .returned (.int .i64 k0) ∧ w' = w := by
  go_enter Try.func39, Try.ntmps39
  go_wp2
  go_loopw [1, 5] (fun s i w' => i = .int .i64 0 ∧ s = .int .i64 k0 ∧ w' = w) (fun _ _ _ => 0)
  case atStart => exact ⟨rfl, rfl, rfl⟩
  case round =>
    obtain ⟨rfl, rfl, rfl⟩ := hrel
    go_wp2
    go_ret
    exact ⟨rfl, rfl⟩

set_option maxRecDepth 100000 in
set_option maxHeartbeats 2000000 in
theorem heldNodes_none (k0 : Int) (w : World) :
    Calls Try.prog 40 #[.slice none 0 0, .int .i64 k0] w fun e w' => e = .returned (.int .i64 k0) ∧ w' = w := by
  go_enter Try.func40, Try.ntmps40
  go_wp2
  go_loopw [1, 5] (fun s i w' => i = .int .i64 0 ∧ s = .int .i64 k0 ∧ w' = w) (fun _ _ _ => 0)
  case atStart => exact ⟨rfl, rfl, rfl⟩
  case round =>
    obtain ⟨rfl, rfl, rfl⟩ := hrel
    go_wp2
    go_ret
    exact ⟨rfl, rfl⟩

end Go.Proofs.Ytcdjklpnjdladaa
