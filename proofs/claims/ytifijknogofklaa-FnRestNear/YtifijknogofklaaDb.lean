/- What is drawn to be asked. -/
import Derived.Test.YtifijknogofklaaDa
namespace Go.Proofs.Ytifijknogofklaa
open Go.RowKit

theorem lit6a : ∀ i, i < 6 → ∃ v, (#[Value.int .i64 4, .int .i64 6, .int .i64 8, .int .i64 8, .int .i64 12, .int .i64 2] : Array Value)[i]? = some (.int .i64 v) ∧ 2 ≤ v ∧ v ≤ 12 := by
  intro i hi
  match i, hi with
  | 0, _ => exact ⟨_, rfl, by omega, by omega⟩
  | 1, _ => exact ⟨_, rfl, by omega, by omega⟩
  | 2, _ => exact ⟨_, rfl, by omega, by omega⟩
  | 3, _ => exact ⟨_, rfl, by omega, by omega⟩
  | 4, _ => exact ⟨_, rfl, by omega, by omega⟩
  | 5, _ => exact ⟨_, rfl, by omega, by omega⟩
theorem lit6b : ∀ i, i < 6 → ∃ v, (#[Value.int .i64 4, .int .i64 5, .int .i64 8, .int .i64 8, .int .i64 12, .int .i64 3] : Array Value)[i]? = some (.int .i64 v) ∧ 3 ≤ v ∧ v ≤ 12 := by
  intro i hi
  match i, hi with
  | 0, _ => exact ⟨_, rfl, by omega, by omega⟩
  | 1, _ => exact ⟨_, rfl, by omega, by omega⟩
  | 2, _ => exact ⟨_, rfl, by omega, by omega⟩
  | 3, _ => exact ⟨_, rfl, by omega, by omega⟩
  | 4, _ => exact ⟨_, rfl, by omega, by omega⟩
  | 5, _ => exact ⟨_, rfl, by omega, by omega⟩
theorem lit5c : ∀ i, i < 5 → ∃ v, (#[Value.int .i64 0, .int .i64 1, .int .i64 3, .int .i64 5, .int .i64 7] : Array Value)[i]? = some (.int .i64 v) ∧ 0 ≤ v ∧ v ≤ 7 := by
  intro i hi
  match i, hi with
  | 0, _ => exact ⟨_, rfl, by omega, by omega⟩
  | 1, _ => exact ⟨_, rfl, by omega, by omega⟩
  | 2, _ => exact ⟨_, rfl, by omega, by omega⟩
  | 3, _ => exact ⟨_, rfl, by omega, by omega⟩
  | 4, _ => exact ⟨_, rfl, by omega, by omega⟩
theorem numRd (r s ll cc : Nat) (b lo hi : Int) (W : World) (cs : Array Value) (h : Rd W.drew r b) (hb : b ≤ 100000) (hl0 : 0 < ll) (hl1 : ll ≤ 10000) (hs : s = W.heap.size) (hcs : ∀ i, i < ll → ∃ v, cs[i]? = some (.int .i64 v) ∧ lo ≤ v ∧ v ≤ hi) :
    Calls Try.prog 54 #[.pointer (some ⟨r, 0, none⟩), .slice (some ⟨s, 0, none⟩) ll cc] (W.alloc (.cells cs 3)).drew fun e w' => ∃ v, e = .returned (.int .i64 v) ∧ lo ≤ v ∧ v ≤ hi ∧ Rd w' r (b + 1) ∧ But r W w' := by
  refine (numR r s ll cc b lo hi W.drew cs h hb hl0 hl1 hs hcs).mono ?_
  rintro e w' ⟨v, rfl, v0, v1, hR, hB⟩
  exact ⟨v, rfl, v0, v1, hR, ((But.refl r W).drew).trans hB⟩
theorem lit4b : ∀ i, i < 4 → ∃ v, (#[Value.int .i64 10, .int .i64 100, .int .i64 7, .int .i64 1] : Array Value)[i]? = some (.int .i64 v) ∧ 1 ≤ v ∧ v ≤ 100 := by
  intro i hi
  match i, hi with
  | 0, _ => exact ⟨_, rfl, by omega, by omega⟩
  | 1, _ => exact ⟨_, rfl, by omega, by omega⟩
  | 2, _ => exact ⟨_, rfl, by omega, by omega⟩
  | 3, _ => exact ⟨_, rfl, by omega, by omega⟩
theorem lit5b : ∀ i, i < 5 → ∃ v, (#[Value.int .i64 0, .int .i64 0, .int .i64 50, .int .i64 100, .int .i64 250] : Array Value)[i]? = some (.int .i64 v) ∧ 0 ≤ v ∧ v ≤ 250 := by
  intro i hi
  match i, hi with
  | 0, _ => exact ⟨_, rfl, by omega, by omega⟩
  | 1, _ => exact ⟨_, rfl, by omega, by omega⟩
  | 2, _ => exact ⟨_, rfl, by omega, by omega⟩
  | 3, _ => exact ⟨_, rfl, by omega, by omega⟩
  | 4, _ => exact ⟨_, rfl, by omega, by omega⟩

theorem grown_but {r : Nat} {w w' : World} (h : But r w w') : w.grownBy w' (some r) := ⟨h.os, h.tape, h.output, h.size, fun k hk hr => h.block k (fun e => hr (by rw [e])) hk⟩
theorem owns_but {r base size n : Nat} {e : TypeId} {v : Value} {xs : List Value} {w w' : World} (h : w.ownsRow base e size v n xs) (hB : But r w w') (hr : r < base) : w'.ownsRow base e size v n xs := by
  refine h.kept (grown_but hB) ?_
  cases hv : v.ownBlock with
  | none => exact .inl rfl
  | some k => exact .inr (fun e => by have := (h.lt k hv).1; cases e; omega)
theorem fact_but {r : Nat} {w w' w'' : World} {b b' : Int} {N C base size n : Nat} {e : TypeId} {cN cC : Array Value} {v : Value} {xs : List Value} (h : But r w w' ∧ Rd w' r b ∧ Blk w' N cN 26 ∧ Blk w' C cC 26 ∧ w'.ownsRow base e size v n xs ∧ Ints xs) (hB : But r w' w'') (hR : Rd w'' r b') (hN : N ≠ r) (hC : C ≠ r) (hr : r < base) :
    But r w w'' ∧ Rd w'' r b' ∧ Blk w'' N cN 26 ∧ Blk w'' C cC 26 ∧ w''.ownsRow base e size v n xs ∧ Ints xs :=
  ⟨h.1.trans hB, hR, h.2.2.1.but hB hN, h.2.2.2.1.but hB hC, owns_but h.2.2.2.2.1 hB hr, h.2.2.2.2.2⟩
theorem owns_far {base size n : Nat} {e : TypeId} {v : Value} {xs : List Value} {w : World} (h : w.ownsRow base e size v n xs) {p : Addr} (u : Value) (hp : ∀ k, v.ownBlock = some k → k ≠ p.block) : (w.setCell p u).ownsRow base e size v n xs := by
  refine h.kept (row := some p.block) ⟨rfl, rfl, rfl, by simp, fun k _ hk => Below.heap_setCell _ _ _ _ (fun e => hk (by rw [e]))⟩ ?_
  cases hv : v.ownBlock with
  | none => exact .inl rfl
  | some k => exact .inr (fun e => hp k hv (by cases e; rfl))
theorem fact_set {r : Nat} {w w' : World} {b : Int} {N C base size n : Nat} {e : TypeId} {cN cC : Array Value} {v : Value} {xs : List Value} (h : But r w w' ∧ Rd w' r b ∧ Blk w' N cN 26 ∧ Blk w' C cC 26 ∧ w'.ownsRow base e size v n xs ∧ Ints xs) {p : Addr} (u : Value) (hw : w.heap.size ≤ p.block) (hr : r < p.block) (hN : N ≠ p.block) (hC : C ≠ p.block) (hv : ∀ k, v.ownBlock = some k → k ≠ p.block) :
    But r w (w'.setCell p u) ∧ Rd (w'.setCell p u) r b ∧ Blk (w'.setCell p u) N cN 26 ∧ Blk (w'.setCell p u) C cC 26 ∧ (w'.setCell p u).ownsRow base e size v n xs ∧ Ints xs :=
  ⟨h.1.setCell (.inr hw) u, h.2.1.far ((Below.refl _ _).setCell hr u), h.2.2.1.far hN u, h.2.2.2.1.far hC u, owns_far h.2.2.2.2.1 u hv, h.2.2.2.2.2⟩
theorem fact_mono {r : Nat} {w w' : World} {b b' : Int} {R : Prop} (h : But r w w' ∧ Rd w' r b ∧ R) (hb : b ≤ b') : But r w w' ∧ Rd w' r b' ∧ R := ⟨h.1, h.2.1.mono hb, h.2.2⟩
theorem news_new (U : World) (cs : List Value) (T : TypeId) : ∀ j u, cs[j]? = some u → (U.alloc (.cells cs.toArray T)).cell? ((⟨U.heap.size, 0, none⟩ : Addr).add j) = some u := by
  intro j u hj
  have : (⟨U.heap.size, 0, none⟩ : Addr).add j = ⟨U.heap.size, j, none⟩ := by unfold Addr.add; split <;> simp_all
  rw [this, (Blk.new U cs.toArray T).cell j]
  simpa using hj
theorem own_form {base size n : Nat} {e : TypeId} {v : Value} {xs : List Value} {w : World} (h : w.ownsRow base e size v n xs) (hn : 0 < n) : ∃ g cap, v = .slice (some ⟨g, 0, none⟩) n cap := by
  rcases h.2 with ⟨_, h0⟩ | ⟨g, cap, _, hv, _⟩
  · omega
  · exact ⟨g, cap, hv⟩
theorem own_ne {base size n k : Nat} {e : TypeId} {v : Value} {xs : List Value} {w : World} (h : w.ownsRow base e size v n xs) (hk : k < base) : some k ≠ v.ownBlock := fun e => by
  have := (h.lt k e.symm).1; omega
theorem own_ne' {base size n g n1 c1 : Nat} {e : TypeId} {v : Value} {xs : List Value} {w : World} (h : w.ownsRow base e size v n xs) (hk : g < base) : (Value.slice (some ⟨g, 0, none⟩) n1 c1).ownBlock ≠ v.ownBlock := own_ne h hk
theorem owns_mono {base base' size n : Nat} {e : TypeId} {v : Value} {xs : List Value} {w : World} (h : w.ownsRow base e size v n xs) (hb : base' ≤ base) : w.ownsRow base' e size v n xs := by
  refine ⟨h.1, ?_⟩
  rcases h.2 with h2 | ⟨g, cap, cur, h1, h2, h3⟩
  · exact .inl h2
  · exact .inr ⟨g, cap, cur, h1, Nat.le_trans hb h2, h3⟩
theorem ints5 (a b c d e : Int) : Ints [.int .i64 a, .int .i64 b, .int .i64 c, .int .i64 d, .int .i64 e] := by
  intro u hu
  simp at hu
  rcases hu with rfl | rfl | rfl | rfl | rfl <;> exact ⟨_, rfl⟩
theorem ints8 (a b c d e f g h : Int) : Ints [.int .i64 a, .int .i64 b, .int .i64 c, .int .i64 d, .int .i64 e, .int .i64 f, .int .i64 g, .int .i64 h] := by
  intro u hu
  simp at hu
  rcases hu with rfl | rfl | rfl | rfl | rfl | rfl | rfl | rfl <;> exact ⟨_, rfl⟩
/-- Behind an append: the row is longer, all else as it was. -/
theorem fact_grown {r : Nat} {w U w' : World} {b : Int} {N C base size n n' : Nat} {e : TypeId} {cN cC : Array Value} {v v' : Value} {xs news : List Value} {o : Obj} (h : But r w U ∧ Rd U r b ∧ Blk U N cN 26 ∧ Blk U C cC 26 ∧ U.ownsRow base e size v n xs ∧ Ints xs)
    (hg : (U.alloc o).grownBy w' v.ownBlock) (hown : w'.ownsRow base e size v' n' (xs ++ news)) (hi : Ints news) (hr : r < base) (hN : N < base) (hC : C < base) (hw : w.heap.size ≤ base) :
    But r w w' ∧ Rd w' r b ∧ Blk w' N cN 26 ∧ Blk w' C cC 26 ∧ w'.ownsRow base e size v' n' (xs ++ news) ∧ Ints (xs ++ news) := by
  have hb0 : Below (r + 1) U w' := ⟨hg.os, hg.tape, hg.output, by have := hg.size; simp at this; omega, fun k hk => by
    have hl := h.2.1.lt
    rw [hg.block k (by simp; omega) (own_ne h.2.2.2.2.1 (by omega))]
    exact Below.heap_alloc _ _ _ (by omega)⟩
  refine ⟨⟨hg.os.trans h.1.os, hg.tape.trans h.1.tape, hg.output.trans h.1.output, ?_, fun k hk hl => ?_⟩, h.2.1.far hb0, (h.2.2.1.alloc o).grown hg (own_ne h.2.2.2.2.1 hN), (h.2.2.2.1.alloc o).grown hg (own_ne h.2.2.2.2.1 hC), hown, h.2.2.2.2.2.append hi⟩
  · have h1 := h.1.size; have h2 := hg.size; simp at h2; omega
  · have h1 := h.1.size
    rw [hg.block k (by simp; omega) (own_ne h.2.2.2.2.1 (by omega)), Below.heap_alloc _ _ _ (by omega)]
    exact h.1.block k hk hl
theorem fact_alloc {r : Nat} {w w' : World} {b : Int} {N C base size n : Nat} {e : TypeId} {cN cC : Array Value} {v : Value} {xs : List Value} (h : But r w w' ∧ Rd w' r b ∧ Blk w' N cN 26 ∧ Blk w' C cC 26 ∧ w'.ownsRow base e size v n xs ∧ Ints xs) (o : Obj) :
    But r w (w'.alloc o) ∧ Rd (w'.alloc o) r b ∧ Blk (w'.alloc o) N cN 26 ∧ Blk (w'.alloc o) C cC 26 ∧ (w'.alloc o).ownsRow base e size v n xs ∧ Ints xs :=
  ⟨h.1.alloc o, h.2.1.keep ((Below.refl _ _).alloc (Nat.le_refl _) o), h.2.2.1.alloc o, h.2.2.2.1.alloc o, h.2.2.2.2.1.alloc o, h.2.2.2.2.2⟩

/-- A value that reads as what is asked, its lists in memory of its own from base on. -/
def OwnCfg (w : World) (base : Nat) (v : Value) : Prop :=
  ∃ (g1 n1 c1 g2 n2 c2 : Nat) (xs1 xs2 : List Value) (s k i b : Int), v = .agg #[.slice (some ⟨g1, 0, none⟩) n1 c1, .slice (some ⟨g2, 0, none⟩) n2 c2, .int .i64 s, .int .i64 k, .int .i64 i, .int .i64 b] ∧
    (1 ≤ n1 ∧ n1 ≤ 3 ∧ w.ownsRow base 34 8 (.slice (some ⟨g1, 0, none⟩) n1 c1) n1 xs1 ∧ Ints xs1) ∧ (1 ≤ n2 ∧ n2 ≤ 3 ∧ w.ownsRow base 113 5 (.slice (some ⟨g2, 0, none⟩) n2 c2) n2 xs2 ∧ Ints xs2) ∧ g1 ≠ g2

set_option maxRecDepth 100000 in
set_option maxHeartbeats 4000000 in
theorem l2Cfg_any (r : Nat) (b : Int) (w : World) (hR : Rd w r b) (hb : b ≤ 90000) :
    Calls Try.prog 77 #[.pointer (some ⟨r, 0, none⟩)] w fun e w' => ∃ v, e = .returned v ∧ OwnCfg w' w.heap.size v ∧ Rd w' r (b + 200) ∧ But r w w' := by
  have hrl := hR.lt
  go_enter Try.func77, Try.ntmps77
  go_wp2_with fail
  have hC0 : But r (w.alloc (.cells #[.slice none 0 0, .slice none 0 0, .int .i64 0, .int .i64 0, .int .i64 0, .int .i64 0] 26)) (w.alloc (.cells #[.slice none 0 0, .slice none 0 0, .int .i64 0, .int .i64 0, .int .i64 0, .int .i64 0] 26)) := But.refl _ _
  have hR0 : Rd (w.alloc (.cells #[.slice none 0 0, .slice none 0 0, .int .i64 0, .int .i64 0, .int .i64 0, .int .i64 0] 26)) r b := hR.keep (by go_grown)
  refine (pickR r _ _ _ hR0 (by omega) (by omega) (by omega)).mono ?_
  rintro e w1 ⟨k1, rfl, k10, k11, hR1, hB1⟩
  go_wp2_with fail
  refine (pickR r _ _ _ hR1 (by omega) (by omega) (by omega)).mono ?_
  rintro e w2 ⟨k2, rfl, k20, k21, hR2, hB2⟩
  go_wp2_with fail
  refine (pickR r _ _ _ hR2 (by omega) (by omega) (by omega)).mono ?_
  rintro e w3 ⟨k3, rfl, k30, k31, hR3, hB3⟩
  go_wp2_with fail
  refine (pickR r _ _ _ hR3 (by omega) (by omega) (by omega)).mono ?_
  rintro e w4 ⟨k4, rfl, k40, k41, hR4, hB4⟩
  go_wp2_with fail
  refine (pickR r _ _ _ (hR4.keep (by go_grown)) (by omega) (by omega) (by omega)).mono ?_
  rintro e w5 ⟨k5, rfl, k50, k51, hR5, hB5⟩
  have hBN : Blk w4 w.heap.size #[.slice none 0 0, .slice none 0 0, .int .i64 0, .int .i64 0, .int .i64 0, .int .i64 0] 26 := ((((Blk.new w _ _).but hB1 (by omega)).but hB2 (by omega)).but hB3 (by omega)).but hB4 (by omega)
  have h4l := hBN.lt
  have hBN5 := (hBN.alloc _).but hB5 (by omega)
  have hBC5 := (Blk.new w4 _ _).but hB5 (by omega)
  have hcum : But r w w5 := (((((But.of_below (by go_grown)).trans hB1).trans hB2).trans hB3).trans hB4).trans ((But.of_below (by go_grown)).trans hB5)
  clear hC0 hR0 hR1 hR2 hR3 hR4 hB1 hB2 hB3 hB4 hB5 hBN
  have hN4 : w.heap.size < w4.heap.size := h4l
  have hR5' : Rd w5 r (b + 5) := hR5.mono (by omega)
  go_wp2
  go_loopw [4] (fun i w' => ∃ cnt n : Nat, i = .int .i64 cnt ∧ n + cnt ≤ 3 ∧ 1 ≤ n + cnt ∧ ∃ v xs, Hid (But r w w' ∧ Rd w' r (b + 5 + 10 * (n : Int)) ∧ Blk w' w.heap.size #[.slice none 0 0, .slice none 0 0, .int .i64 0, .int .i64 0, .int .i64 0, .int .i64 0] 26 ∧ Blk w' w4.heap.size #[v, .slice none 0 0, .int .i64 (1 + k1), .int .i64 (1 + k2), .int .i64 (2 + k3), .int .i64 (1 + k4)] 26 ∧ w'.ownsRow (w4.heap.size + 1) 34 8 v n xs ∧ Ints xs)) (fun i _ => (intOf i).toNat)
  case atStart => exact ⟨(1 + k5).toNat, 0, by rw [Int.toNat_of_nonneg (by omega)], by omega, by omega, _, [], hcum, by simpa using hR5', hBN5, hBC5, World.ownsRow_nil _ _ _ _, fun u hu => by cases hu⟩
  case round =>
    clear hR5 hR5' hBN5 hBC5 hcum
    obtain ⟨cnt, n, rfl, hn1, hn2, v, xs, HF⟩ := hrel
    have hrr := HF.out.2.1
    have hCl := HF.out.2.2.2.1.lt
    have hbud : b + (5 + 10 * (n : Int)) ≤ 95000 := by omega
    by_cases hpos : 0 < cnt
    · have hpos' : (0 : Int) < (cnt : Int) := by omega
      go_wp2_with fail
      refine (pickR r _ _ _ hrr (by omega) (by omega) (by omega)).mono ?_
      rintro e w6 ⟨k6, rfl, k60, k61, hR6, hB6⟩
      go_wp2_with fail
      refine (pickR r _ _ _ hR6 (by omega) (by omega) (by omega)).mono ?_
      rintro e w7 ⟨k7, rfl, k70, k71, hR7, hB7⟩
      go_wp2_with fail
      refine (pickR r _ _ _ hR7 (by omega) (by omega) (by omega)).mono ?_
      rintro e w8 ⟨k8, rfl, k80, k81, hR8, hB8⟩
      go_wp2_with fail
      refine (numR r _ 4 _ _ 1 100 w8 _ hR8 (by omega) (by omega) (by omega) rfl lit4b).mono ?_
      rintro e w9 ⟨tg, rfl, tg0, tg1, hR9, hB9⟩
      go_wp2_with fail
      refine (numR r _ 5 _ _ 0 250 w9 _ hR9 (by omega) (by omega) (by omega) rfl lit5b).mono ?_
      rintro e w10 ⟨tl, rfl, tl0, tl1, hR10, hB10⟩
      go_wp2_with fail
      refine (pickR r _ _ _ hR10 (by omega) (by omega) (by omega)).mono ?_
      rintro e w11 ⟨k11, rfl, k110, k111, hR11, hB11⟩
      have hBu : But r wr w11 := ((((hB6.trans hB7).trans hB8).trans hB9).trans hB10).trans hB11
      clear hR6 hR7 hR8 hR9 hR10 hB6 hB7 hB8 hB9 hB10 hB11 hrr
      have hGA : But r w w11 ∧ Rd w11 r (b + 11 + 10 * (n : Int)) ∧ Blk w11 w.heap.size #[.slice none 0 0, .slice none 0 0, .int .i64 0, .int .i64 0, .int .i64 0, .int .i64 0] 26 ∧ Blk w11 w4.heap.size #[v, .slice none 0 0, .int .i64 (1 + k1), .int .i64 (1 + k2), .int .i64 (2 + k3), .int .i64 (1 + k4)] 26 ∧ w11.ownsRow (w4.heap.size + 1) 34 8 v n xs ∧ Ints xs := ⟨HF.out.1.trans hBu, hR11.mono (by omega), HF.out.2.2.1.but hBu (by omega), HF.out.2.2.2.1.but hBu (by omega), owns_but HF.out.2.2.2.2.1 hBu (by omega), HF.out.2.2.2.2.2⟩
      have HG := hide hGA
      clear hGA HF hBu hR11
      go_wp2
      refine wp_gen (fun W => Hid (But r w W ∧ Rd W r (b + 11 + 10 * (n : Int)) ∧ Blk W w.heap.size #[.slice none 0 0, .slice none 0 0, .int .i64 0, .int .i64 0, .int .i64 0, .int .i64 0] 26 ∧ Blk W w4.heap.size #[v, .slice none 0 0, .int .i64 (1 + k1), .int .i64 (1 + k2), .int .i64 (2 + k3), .int .i64 (1 + k4)] 26 ∧ W.ownsRow (w4.heap.size + 1) 34 8 v n xs ∧ Ints xs) ∧ Blk W w11.heap.size #[.int .i64 (1 + k6), .int .i64 k7, .int .i64 (1 + k8), .int .i64 0, .int .i64 tg, .int .i64 0, .int .i64 tl, .int .i64 k11] 34) ⟨fact_alloc HG.out _, Blk.new _ _ _⟩ ?_
      rintro W ⟨hWF, hWb⟩
      have hvb : ∀ k, v.ownBlock = some k → k ≠ w11.heap.size := fun k hk => by have := (HG.out.2.2.2.2.1.lt k hk).2; omega
      have hlow : w4.heap.size < w11.heap.size := HG.out.2.2.2.1.lt
      have hWl := hWb.lt
      have hc2 : W.cell? ⟨w11.heap.size, 2, none⟩ = some (.int .i64 (1 + k8)) := hWb.cell 2
      have hc3 : W.cell? ⟨w11.heap.size, 3, none⟩ = some (.int .i64 0) := hWb.cell 3
      have hf3 : W.frozen? ⟨w11.heap.size, 3, none⟩ = false := hWb.frozen 3
      have hrW : Rd W.drew r (b + (11 + 10 * (n : Int))) := (hWF.out.2.1.keep ((Below.refl _ _).drew)).mono (by omega)
      have hne : w11.heap.size ≠ r := by omega
      clear HG
      go_region_held3 (fun w' => w'.cell? ⟨w11.heap.size, 2, none⟩ = some (.int .i64 (1 + k8)))
        (first | exact hc2 | assumption | (simp [go_sem, *]; done))
        (first | (go_at_call 22; refine (pickR r _ _ _ hrW (by omega) (by omega) (by omega)).mono ?_; rintro e w12 ⟨k12, rfl, k120, k121, hR12, hB12⟩; have hd2 : w12.cell? ⟨w11.heap.size, 2, none⟩ = some (.int .i64 (1 + k8)) := (hB12.cell.1 _ _ hne hWl).trans hc2; have hd3 : w12.cell? ⟨w11.heap.size, 3, none⟩ = some (.int .i64 0) := (hB12.cell.1 _ _ hne hWl).trans hc3; have he3 : w12.frozen? ⟨w11.heap.size, 3, none⟩ = false := (hB12.cell.2 _ _ hne hWl).trans hf3))
      have hBW12 : But r W w12 := ((But.refl r W).drew).trans hB12
      have hG12 := fact_but hWF.out hBW12 hR12 (by omega) (by omega) (by omega)
      have hb12 := hWb.but hBW12 hne
      generalize IntKind.i64.wrap (1 + k8 + k12) = m3
      have hGS := fact_set hG12 (p := ⟨w11.heap.size, 3, none⟩) (.int .i64 m3) (by simp; omega) (by simp; omega) (by simp; omega) (by simp; omega) hvb
      have hbS := hb12.set 3 (.int .i64 m3)
      have HGS := hide (fact_mono (b' := b + (12 + 10 * (n : Int))) hGS (by omega))
      have HbS := hide hbS
      clear hG12 hb12 hGS hbS hBW12 hB12 hR12 hrW hc2 hc3 hf3 hWF hWb hWl hd2 hd3 he3
      simp only [Exit.then]
      go_step
      refine wp_gen (fun W => Hid (But r w W ∧ Rd W r (b + (12 + 10 * (n : Int))) ∧ Blk W w.heap.size #[.slice none 0 0, .slice none 0 0, .int .i64 0, .int .i64 0, .int .i64 0, .int .i64 0] 26 ∧ Blk W w4.heap.size #[v, .slice none 0 0, .int .i64 (1 + k1), .int .i64 (1 + k2), .int .i64 (2 + k3), .int .i64 (1 + k4)] 26 ∧ W.ownsRow (w4.heap.size + 1) 34 8 v n xs ∧ Ints xs) ∧ Blk W w11.heap.size #[.int .i64 (1 + k6), .int .i64 k7, .int .i64 (1 + k8), .int .i64 m3, .int .i64 tg, .int .i64 0, .int .i64 tl, .int .i64 k11] 34) ⟨HGS.out, HbS.out⟩ ?_
      clear HGS HbS
      rintro V ⟨hVF, hVb⟩
      have hVl := hVb.lt
      have hc4 : V.cell? ⟨w11.heap.size, 4, none⟩ = some (.int .i64 tg) := hVb.cell 4
      have hc5 : V.cell? ⟨w11.heap.size, 5, none⟩ = some (.int .i64 0) := hVb.cell 5
      have hc6 : V.cell? ⟨w11.heap.size, 6, none⟩ = some (.int .i64 tl) := hVb.cell 6
      have hf5 : V.frozen? ⟨w11.heap.size, 5, none⟩ = false := hVb.frozen 5
      have hrV : Rd V.drew r (b + (12 + 10 * (n : Int))) := hVF.out.2.1.keep ((Below.refl _ _).drew)
      have hwt : IntKind.i64.wrap (tg + 1) = tg + 1 := by rw [IntKind.wrap_i64]; omega
      go_wp2
      go_region_held3 (fun w' => w'.cell? ⟨w11.heap.size, 4, none⟩ = some (.int .i64 tg) ∧ w'.cell? ⟨w11.heap.size, 6, none⟩ = some (.int .i64 tl))
        (first | exact ⟨hc4, hc6⟩ | assumption | (simp [go_sem, *]; done))
        (first | (go_at_call 22; refine (pickR r _ _ _ hrV (by omega) (by omega) (by omega)).mono ?_; rintro e w13 ⟨k13, rfl, k130, k131, hR13, hB13⟩; have hd46 : w13.cell? ⟨w11.heap.size, 4, none⟩ = some (.int .i64 tg) ∧ w13.cell? ⟨w11.heap.size, 6, none⟩ = some (.int .i64 tl) := ⟨(hB13.cell.1 _ _ hne hVl).trans hc4, (hB13.cell.1 _ _ hne hVl).trans hc6⟩; have hd5 : w13.cell? ⟨w11.heap.size, 5, none⟩ = some (.int .i64 0) := (hB13.cell.1 _ _ hne hVl).trans hc5; have he5 : w13.frozen? ⟨w11.heap.size, 5, none⟩ = false := (hB13.cell.2 _ _ hne hVl).trans hf5))
      have hBV13 : But r V w13 := ((But.refl r V).drew).trans hB13
      have hG13 := fact_but hVF.out hBV13 hR13 (by omega) (by omega) (by omega)
      have hb13 := hVb.but hBV13 hne
      clear hwt
      generalize IntKind.i64.wrap (IntKind.i64.wrap (tg + 1 + IntKind.i64.wrap ((IntKind.i64.wrap (tg * tl)).tdiv 1000)) + k13) = m5
      have hGS := fact_set hG13 (p := ⟨w11.heap.size, 5, none⟩) (.int .i64 m5) (by simp; omega) (by simp; omega) (by simp; omega) (by simp; omega) hvb
      have hbS := hb13.set 5 (.int .i64 m5)
      have HGS := hide (fact_mono (b' := b + (13 + 10 * (n : Int))) hGS (by omega))
      have HbS := hide hbS
      clear hG13 hb13 hGS hbS hBV13 hB13 hR13 hrV hc4 hc5 hc6 hf5 hVF hVb hVl hd46 hd5 he5
      simp only [Exit.then]
      go_step
      refine wp_gen (fun W => Hid (But r w W ∧ Rd W r (b + (13 + 10 * (n : Int))) ∧ Blk W w.heap.size #[.slice none 0 0, .slice none 0 0, .int .i64 0, .int .i64 0, .int .i64 0, .int .i64 0] 26 ∧ Blk W w4.heap.size #[v, .slice none 0 0, .int .i64 (1 + k1), .int .i64 (1 + k2), .int .i64 (2 + k3), .int .i64 (1 + k4)] 26 ∧ W.ownsRow (w4.heap.size + 1) 34 8 v n xs ∧ Ints xs) ∧ Blk W w11.heap.size #[.int .i64 (1 + k6), .int .i64 k7, .int .i64 (1 + k8), .int .i64 m3, .int .i64 tg, .int .i64 m5, .int .i64 tl, .int .i64 k11] 34) ⟨HGS.out, HbS.out⟩ ?_
      clear HGS HbS
      rintro U ⟨hUF, hUb⟩
      have ub := hUb.cell
      have uc := hUF.out.2.2.2.1.cell
      have uf := hUF.out.2.2.2.1.frozen
      have hUl := hUF.out.2.2.2.1.lt
      obtain ⟨inf, i1, i2, i3, i4⟩ := info34
      have I1 := hide i1
      have I2 := hide i2
      have I3 := hide i3
      have I4 := hide i4
      clear i1 i2 i3 i4
      go_wp2_with (refine wpList_append_own _ (by rfl) _ _ _ (by rfl) (w4.heap.size + 1) 34 inf _ 8 64 Try.underlying23 I1.out I2.out I3.out I4.out (by rfl) (by omega) v n xs (by rfl) (hUF.out.2.2.2.2.1.alloc _) _ 1 1 [.int .i64 (1 + k6), .int .i64 k7, .int .i64 (1 + k8), .int .i64 m3, .int .i64 tg, .int .i64 m5, .int .i64 tl, .int .i64 k11] (by rfl) (by rfl) (news_new U _ _) (by intro u hu; simp at hu; rcases hu with rfl | rfl | rfl | rfl | rfl | rfl | rfl | rfl <;> rfl) (by unfold maxLen; omega) (by omega) (by simp; omega) ?_; intro v' w' hown' hgrow hnil; obtain ⟨g, gc, rfl⟩ := own_form hown' (by omega); have hCb := (hUF.out.2.2.2.1.alloc _).grown hgrow (own_ne hUF.out.2.2.2.2.1 (by omega)); have cc := hCb.cell; have cf := hCb.frozen; clear ub uc uf)
      have hGx := fact_grown hUF.out hgrow hown' (ints8 _ _ _ _ _ _ _ _) (by omega) (by omega) (by omega) (by omega)
      go_roundw
      case rel =>
        have hCN : w.heap.size ≠ w4.heap.size := by omega
        have hgl := (hown'.lt g rfl).1
        refine ⟨cnt - 1, n + 1, congrArg _ (by omega), by omega, by omega, .slice (some ⟨g, 0, none⟩) (n + 1) gc, _, ⟨hGx.1.setCell (.inr (by simp; omega)) _, (hGx.2.1.far ((Below.refl _ _).setCell (by simp; omega) _)).mono (by omega), hGx.2.2.1.far hCN _, hGx.2.2.2.1.set 0 _, owns_far hown' _ (fun k hk => by simp [Value.ownBlock] at hk; simp; omega), hGx.2.2.2.2.2⟩⟩
      case measure => simp [intOf]; omega
    · have hc0 : cnt = 0 := by omega
      subst hc0
      obtain ⟨g1, gc1, rfl⟩ := own_form HF.out.2.2.2.2.1 (by omega)
      go_wp2_with fail
      refine (pickR r _ _ _ hrr (by omega) (by omega) (by omega)).mono ?_
      rintro e w14 ⟨k14, rfl, k140, k141, hR14, hB14⟩
      obtain ⟨n1, hn1e⟩ : ∃ n1, n1 = n := ⟨n, rfl⟩
      obtain ⟨xs1, hxs1e⟩ : ∃ y, y = xs := ⟨xs, rfl⟩
      have hF14 := fact_but HF.out hB14 (hR14.mono (b' := b + 36) (by omega)) (by omega) (by omega) (by omega)
      rw [← hn1e, ← hxs1e] at hF14
      have hn11 : 1 ≤ n1 := by omega
      have hn13 : n1 ≤ 3 := by omega
      clear HF hB14 hR14 hrr hbud
      obtain ⟨B2, hB2⟩ : ∃ B2, B2 = w14.heap.size := ⟨_, rfl⟩
      have hg1 := hF14.2.2.2.2.1.lt g1 rfl
      have hg1l : g1 < B2 := by omega
      have hC14 := hF14.2.2.2.1.lt
      have hCB : w4.heap.size < B2 := by omega
      have hB2l : B2 ≤ w14.heap.size := by omega
      clear hB2
      subst hn1e
      have HF14 := hide hF14
      have hI1 := hide hF14.2.2.2.2.2
      clear hF14
      go_wp2
      go_loopw [6] (fun i w' => ∃ cnt n : Nat, i = .int .i64 cnt ∧ n + cnt ≤ 3 ∧ 1 ≤ n + cnt ∧ ∃ v ys, Hid ((But r w w' ∧ Rd w' r (b + (36 + 10 * (n : Int))) ∧ Blk w' w.heap.size #[.slice none 0 0, .slice none 0 0, .int .i64 0, .int .i64 0, .int .i64 0, .int .i64 0] 26 ∧ Blk w' w4.heap.size #[.slice (some ⟨g1, 0, none⟩) n1 gc1, v, .int .i64 (1 + k1), .int .i64 (1 + k2), .int .i64 (2 + k3), .int .i64 (1 + k4)] 26 ∧ w'.ownsRow B2 113 5 v n ys ∧ Ints ys) ∧ w'.ownsRow (w4.heap.size + 1) 34 8 (.slice (some ⟨g1, 0, none⟩) n1 gc1) n1 xs1 ∧ B2 ≤ w'.heap.size)) (fun i _ => (intOf i).toNat)
      case atStart => exact ⟨(1 + k14).toNat, 0, by rw [Int.toNat_of_nonneg (by omega)], by omega, by omega, _, [], ⟨⟨HF14.out.1, by simpa using HF14.out.2.1, HF14.out.2.2.1, HF14.out.2.2.2.1, World.ownsRow_nil _ _ _ _, fun u hu => by cases hu⟩, HF14.out.2.2.2.2.1, hB2l⟩⟩
      case round =>
        clear HF14
        obtain ⟨cnt, m, rfl, hm1, hm2, v, ys, HF⟩ := hrel
        have hrr := HF.out.1.2.1
        have hCl := HF.out.1.2.2.2.1.lt
        have hbud : b + (36 + 10 * (m : Int)) ≤ 95000 := by omega
        by_cases hpos : 0 < cnt
        · have hpos' : (0 : Int) < (cnt : Int) := by omega
          go_wp2_with fail
          refine (numR r _ 6 _ _ 2 12 _ _ hrr (by omega) (by omega) (by omega) rfl lit6a).mono ?_
          rintro e w15 ⟨s1, rfl, s10, s11, hR15, hB15⟩
          go_wp2_with fail
          refine (numR r _ 6 _ _ 3 12 _ _ hR15 (by omega) (by omega) (by omega) rfl lit6b).mono ?_
          rintro e w16 ⟨s2, rfl, s20, s21, hR16, hB16⟩
          go_wp2_with fail
          refine (pickR r _ _ _ hR16 (by omega) (by omega) (by omega)).mono ?_
          rintro e w17 ⟨k17, rfl, k170, k171, hR17, hB17⟩
          go_wp2_with fail
          refine (pickR r _ _ _ hR17 (by omega) (by omega) (by omega)).mono ?_
          rintro e w18 ⟨k18, rfl, k180, k181, hR18, hB18⟩
          have hBu := ((hB15.trans hB16).trans hB17).trans hB18
          have hG18 := fact_but HF.out.1 hBu (hR18.mono (b' := b + (40 + 10 * (m : Int))) (by omega)) (by omega) (by omega) (by omega)
          have hO18 := owns_but HF.out.2.1 hBu (by omega)
          have hS18 : B2 ≤ w18.heap.size := Nat.le_trans HF.out.2.2 hBu.size
          have HG := hide hG18
          have HO := hide hO18
          clear hG18 hO18 HF hBu hR15 hR16 hR17 hR18 hB15 hB16 hB17 hB18 hrr
          go_wp2
          refine wp_gen (fun W => Hid (But r w W ∧ Rd W r (b + (40 + 10 * (m : Int))) ∧ Blk W w.heap.size #[.slice none 0 0, .slice none 0 0, .int .i64 0, .int .i64 0, .int .i64 0, .int .i64 0] 26 ∧ Blk W w4.heap.size #[.slice (some ⟨g1, 0, none⟩) n1 gc1, v, .int .i64 (1 + k1), .int .i64 (1 + k2), .int .i64 (2 + k3), .int .i64 (1 + k4)] 26 ∧ W.ownsRow B2 113 5 v m ys ∧ Ints ys) ∧ Hid (W.ownsRow (w4.heap.size + 1) 34 8 (.slice (some ⟨g1, 0, none⟩) n1 gc1) n1 xs1) ∧ Blk W w18.heap.size #[.int .i64 s1, .int .i64 s2, .int .i64 k17, .int .i64 0, .int .i64 (1 + k18)] 113) ⟨fact_alloc HG.out _, HO.out.alloc _, Blk.new _ _ _⟩ ?_
          rintro W ⟨hWF, hWO, hWb⟩
          have hvb : ∀ k, v.ownBlock = some k → k ≠ w18.heap.size := fun k hk => by have := (HG.out.2.2.2.2.1.lt k hk).2; omega
          have hWl := hWb.lt
          have hc2 : W.cell? ⟨w18.heap.size, 2, none⟩ = some (.int .i64 k17) := hWb.cell 2
          have hc3 : W.cell? ⟨w18.heap.size, 3, none⟩ = some (.int .i64 0) := hWb.cell 3
          have hf3 : W.frozen? ⟨w18.heap.size, 3, none⟩ = false := hWb.frozen 3
          have hrW : Rd W.drew r (b + (40 + 10 * (m : Int))) := hWF.out.2.1.keep ((Below.refl _ _).drew)
          have hne : w18.heap.size ≠ r := by omega
          clear HG HO
          go_region_held3 (fun w' => w'.cell? ⟨w18.heap.size, 2, none⟩ = some (.int .i64 k17))
            (first | exact hc2 | assumption | (simp [go_sem, *]; done))
            (first | (go_at_call 54; refine (numRd r _ 5 _ _ 0 7 W _ hrW (by omega) (by omega) (by omega) rfl lit5c).mono ?_; rintro e w19 ⟨s3, rfl, s30, s31, hR19, hB19⟩; have hd2 : w19.cell? ⟨w18.heap.size, 2, none⟩ = some (.int .i64 k17) := (hB19.cell.1 _ _ hne hWl).trans hc2; have hd3 : w19.cell? ⟨w18.heap.size, 3, none⟩ = some (.int .i64 0) := (hB19.cell.1 _ _ hne hWl).trans hc3; have he3 : w19.frozen? ⟨w18.heap.size, 3, none⟩ = false := (hB19.cell.2 _ _ hne hWl).trans hf3))
          have hG19 := fact_but hWF.out hB19 hR19 (by omega) (by omega) (by omega)
          have hO19 := owns_but hWO.out hB19 (by omega)
          have hb19 := hWb.but hB19 hne
          generalize IntKind.i64.wrap (k17 + s3) = m3
          have hGS := fact_set hG19 (p := ⟨w18.heap.size, 3, none⟩) (.int .i64 m3) (by simp; omega) (by simp; omega) (by simp; omega) (by simp; omega) hvb
          have HGS := hide (fact_mono (b' := b + (41 + 10 * (m : Int))) hGS (by omega))
          have HOS := hide (owns_far hO19 (p := ⟨w18.heap.size, 3, none⟩) (.int .i64 m3) (fun k hk => by simp [Value.ownBlock] at hk; simp; omega))
          have HbS := hide (hb19.set 3 (.int .i64 m3))
          clear hG19 hO19 hb19 hGS hB19 hR19 hrW hc2 hc3 hf3 hWF hWO hWb hWl hd2 hd3 he3
          simp only [Exit.then]
          go_step
          refine wp_gen (fun W => Hid (But r w W ∧ Rd W r (b + (41 + 10 * (m : Int))) ∧ Blk W w.heap.size #[.slice none 0 0, .slice none 0 0, .int .i64 0, .int .i64 0, .int .i64 0, .int .i64 0] 26 ∧ Blk W w4.heap.size #[.slice (some ⟨g1, 0, none⟩) n1 gc1, v, .int .i64 (1 + k1), .int .i64 (1 + k2), .int .i64 (2 + k3), .int .i64 (1 + k4)] 26 ∧ W.ownsRow B2 113 5 v m ys ∧ Ints ys) ∧ Hid (W.ownsRow (w4.heap.size + 1) 34 8 (.slice (some ⟨g1, 0, none⟩) n1 gc1) n1 xs1) ∧ Blk W w18.heap.size #[.int .i64 s1, .int .i64 s2, .int .i64 k17, .int .i64 m3, .int .i64 (1 + k18)] 113) ⟨HGS.out, HOS.out, HbS.out⟩ ?_
          clear HGS HbS HOS
          rintro U ⟨hUF, hUO, hUb⟩
          have ub := hUb.cell
          have uc := hUF.out.2.2.2.1.cell
          have uf := hUF.out.2.2.2.1.frozen
          have hUl := hUF.out.2.2.2.1.lt
          have hUl2 := hUb.lt
          obtain ⟨inf, i1, i2, i3, i4⟩ := info113
          have I1 := hide i1
          have I2 := hide i2
          have I3 := hide i3
          have I4 := hide i4
          clear i1 i2 i3 i4
          go_wp2_with (refine wpList_append_own _ (by rfl) _ _ _ (by rfl) B2 113 inf _ 5 40 Try.underlying24 I1.out I2.out I3.out I4.out (by rfl) (by omega) v m ys (by rfl) (hUF.out.2.2.2.2.1.alloc _) _ 1 1 [.int .i64 s1, .int .i64 s2, .int .i64 k17, .int .i64 m3, .int .i64 (1 + k18)] (by rfl) (by rfl) (news_new U _ _) (by intro u hu; simp at hu; rcases hu with rfl | rfl | rfl | rfl | rfl <;> rfl) (by unfold maxLen; omega) (by omega) (by simp; omega) ?_; intro v' w' hown' hgrow hnil; obtain ⟨g, gc, rfl⟩ := own_form hown' (by omega); have hCb := (hUF.out.2.2.2.1.alloc _).grown hgrow (own_ne hUF.out.2.2.2.2.1 (by omega)); have cc := hCb.cell; have cf := hCb.frozen; clear ub uc uf)
          have hGx := fact_grown hUF.out hgrow hown' (ints5 _ _ _ _ _) (by omega) (by omega) (by omega) (by omega)
          have hOx := (hUO.out.alloc _).kept hgrow (.inr (own_ne' hUF.out.2.2.2.2.1 hg1l))
          have hsz' := hgrow.size
          simp at hsz'
          go_roundw
          case rel =>
            have hCN : w.heap.size ≠ w4.heap.size := by omega
            have hgl := (hown'.lt g rfl).1
            refine ⟨cnt - 1, m + 1, congrArg _ (by omega), by omega, by omega, .slice (some ⟨g, 0, none⟩) (m + 1) gc, _, ⟨⟨hGx.1.setCell (.inr (by simp; omega)) _, (hGx.2.1.far ((Below.refl _ _).setCell (by simp; omega) _)).mono (by omega), hGx.2.2.1.far hCN _, hGx.2.2.2.1.set 1 _, owns_far hown' _ (fun k hk => by simp [Value.ownBlock] at hk; simp; omega), hGx.2.2.2.2.2⟩, owns_far hOx _ (fun k hk => by simp [Value.ownBlock] at hk; simp; omega), by simp; omega⟩⟩
          case measure => simp [intOf]; omega
        · have hc0 : cnt = 0 := by omega
          subst hc0
          obtain ⟨g2, gc2, rfl⟩ := own_form HF.out.1.2.2.2.2.1 (by omega)
          have uc := HF.out.1.2.2.2.1.cell
          have bc := HF.out.1.2.2.1.cell
          have bf := HF.out.1.2.2.1.frozen
          have hNl := HF.out.1.2.2.1.lt
          have hg2 := (HF.out.1.2.2.2.2.1.lt g2 rfl).1
          have hg1b := hg1.1
          repeat (first | go_values | go_skip | go_guarded | go_step | go_upon)
          refine bodyPost_ret (v := .agg #[.slice (some ⟨g1, 0, none⟩) n1 gc1, .slice (some ⟨g2, 0, none⟩) m gc2, .int .i64 (1 + k1), .int .i64 (1 + k2), .int .i64 (2 + k3), .int .i64 (1 + k4)]) (by simp [results, Try.results77, go_sem, *]) rfl ⟨_, rfl, ⟨g1, n1, gc1, g2, m, gc2, xs1, ys, _, _, _, _, rfl, ⟨hn11, hn13, ?_, hI1.out⟩, ⟨by omega, by omega, ?_, HF.out.1.2.2.2.2.2⟩, by omega⟩, ?_, ?_⟩
          · repeat (refine owns_far ?_ _ (fun k hk => by simp [Value.ownBlock] at hk; simp; omega))
            exact owns_mono HF.out.2.1 (by omega)
          · repeat (refine owns_far ?_ _ (fun k hk => by simp [Value.ownBlock] at hk; simp; omega))
            exact owns_mono HF.out.1.2.2.2.2.1 (by omega)
          · refine (Rd.far (w := wr) HF.out.1.2.1 ?_).mono (by omega)
            repeat (refine Below.setCell ?_ (by simp; omega) _)
            exact Below.refl _ _
          · repeat (refine But.setCell ?_ (.inr (by simp)) _)
            exact HF.out.1.1
end Go.Proofs.Ytifijknogofklaa
