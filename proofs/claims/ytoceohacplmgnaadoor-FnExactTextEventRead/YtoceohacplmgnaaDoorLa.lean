/- The laws' own mirrors: copies of what is asked. -/
import Derived.Test.YtoceohacplmgnaaDoorLast
import Derived.Deep.MidRow
namespace Go.Proofs.YtoceohacplmgnaaDoor
open Go.RowKit

theorem bel_grown {w w' : World} (h : Below w.heap.size w w') : w.grownBy w' none := ⟨h.os, h.tape, h.output, h.size, fun k hk _ => h.block k hk⟩
theorem grown_bel {w w' : World} (h : w.grownBy w' none) : Below w.heap.size w w' := ⟨h.os, h.tape, h.output, h.size, fun k hk => h.block k hk (by simp)⟩

set_option maxHeartbeats 400000 in
theorem toSize_ex (a b : Int) (w : World) :
    Calls Tryd.prog 91 #[.agg #[.int .i64 a, .int .i64 b]] w fun e w' => e = .returned (.agg #[.int .i64 a, .int .i64 b]) ∧ w' = ((w.alloc (.cells #[.int .i64 a, .int .i64 b] 130)).alloc (.cells #[.int .i64 a, .int .i64 b] 74)).alloc (.cells #[.int .i64 a, .int .i64 b] 74) := by
  go_enter Tryd.func91, Tryd.ntmps91
  go_wp2
  exact bodyPost_ret (v := .agg #[.int .i64 a, .int .i64 b]) (by simp [results, Tryd.results91, go_sem]) rfl ⟨rfl, rfl⟩

set_option maxRecDepth 100000 in
set_option maxHeartbeats 1000000 in
theorem toWork_any (x : Wk) (w : World) :
    Calls Tryd.prog 62 #[x.v] w fun e w' => e = .returned x.v ∧ Below w.heap.size w w' := by
  go_enter Tryd.func62, Tryd.ntmps62
  go_wp2_with (go_at_call 91; refine (toSize_ex _ _ _).mono ?_; rintro e w1 ⟨rfl, rfl⟩)
  refine bodyPost_ret (v := x.v) (by simp [results, Tryd.results62, go_sem]) rfl ⟨rfl, by go_grown⟩

set_option maxRecDepth 100000 in
set_option maxHeartbeats 1000000 in
theorem toGroup_any (x : Gp) (w : World) :
    Calls Tryd.prog 63 #[x.v] w fun e w' => e = .returned x.v ∧ Below w.heap.size w w' := by
  go_enter Tryd.func63, Tryd.ntmps63
  go_wp2_with (go_at_call 91; refine (toSize_ex _ _ _).mono ?_; rintro e w1 ⟨rfl, rfl⟩)
  refine bodyPost_ret (v := x.v) (by simp [results, Tryd.results63, go_sem]) rfl ⟨rfl, by go_grown⟩

theorem bel_setCells {B b : Nat} {w : World} (hb : B ≤ b) : ∀ (vs : List Value) (o : Nat) (w' : World), Below B w w' → Below B w (w'.setCells b o vs)
  | [], _, _, h => h
  | v :: r, o, w', h => bel_setCells hb r (o + 1) (w'.setCell ⟨b, o, none⟩ v) (h.setCell hb v)
def setsAt : List Value → Nat → List Value → List Value
  | xs, _, [] => xs
  | xs, j, v :: r => setsAt (xs.set j v) (j + 1) r
theorem setsAt_out : ∀ (vs xs : List Value) (j i : Nat), i < j ∨ j + vs.length ≤ i → (setsAt xs j vs)[i]? = xs[i]?
  | [], _, _, _, _ => rfl
  | v :: r, xs, j, i, h => by
    rw [setsAt, setsAt_out r _ _ _ (by simp at h; omega), List.getElem?_set_ne (by simp at h; omega)]
theorem setsAt_in : ∀ (vs xs : List Value) (j i : Nat), i < vs.length → j + vs.length ≤ xs.length → (setsAt xs j vs)[j + i]? = vs[i]?
  | [], _, _, _, h, _ => by simp at h
  | v :: r, xs, j, 0, _, hl => by
    rw [setsAt, setsAt_out r _ _ _ (by omega)]
    simp at hl
    simp [List.getElem?_set]; omega
  | v :: r, xs, j, i + 1, h, hl => by
    simp at h hl
    have := setsAt_in r (xs.set j v) (j + 1) i (by omega) (by simp; omega)
    rw [setsAt, show j + (i + 1) = j + 1 + i by omega, this]; simp
theorem owns_setCells {base size g n cap : Nat} {e : TypeId} : ∀ (vs : List Value) (j : Nat) (xs : List Value) (w : World), w.ownsRow base e size (.slice (some ⟨g, 0, none⟩) n cap) n xs → (w.setCells g j vs).ownsRow base e size (.slice (some ⟨g, 0, none⟩) n cap) n (setsAt xs j vs)
  | [], _, _, _, h => h
  | v :: r, j, xs, w, h => owns_setCells r (j + 1) (xs.set j v) (w.setCell ⟨g, j, none⟩ v) (h.stored j v).1

theorem info76 : ∃ i, Tryd.prog.info? 76 = some i ∧ i.zero = some (.agg #[.int .i64 0, .int .i64 0, .int .i64 0, .int .i64 0, .int .i64 0, .int .i64 0, .int .i64 0, .int .i64 0]) ∧ i.size = 8 ∧ i.bytes = 64 := by
  have h0 : (Tryd.prog.info? 76).isSome = true := by kernel_rfl
  have h1 : (Tryd.prog.info? 76).map (·.zero) = some (some (.agg #[.int .i64 0, .int .i64 0, .int .i64 0, .int .i64 0, .int .i64 0, .int .i64 0, .int .i64 0, .int .i64 0])) := by kernel_rfl
  have h2 : (Tryd.prog.info? 76).map (·.size) = some 8 := by kernel_rfl
  have h3 : (Tryd.prog.info? 76).map (·.bytes) = some 64 := by kernel_rfl
  obtain ⟨i, hi⟩ := Option.isSome_iff_exists.1 h0
  rw [hi] at h1 h2 h3
  exact ⟨i, hi, by simpa using h1, by simpa using h2, by simpa using h3⟩
theorem info78 : ∃ i, Tryd.prog.info? 78 = some i ∧ i.zero = some (.agg #[.int .i64 0, .int .i64 0, .int .i64 0, .int .i64 0, .int .i64 0]) ∧ i.size = 5 ∧ i.bytes = 40 := by
  have h0 : (Tryd.prog.info? 78).isSome = true := by kernel_rfl
  have h1 : (Tryd.prog.info? 78).map (·.zero) = some (some (.agg #[.int .i64 0, .int .i64 0, .int .i64 0, .int .i64 0, .int .i64 0])) := by kernel_rfl
  have h2 : (Tryd.prog.info? 78).map (·.size) = some 5 := by kernel_rfl
  have h3 : (Tryd.prog.info? 78).map (·.bytes) = some 40 := by kernel_rfl
  obtain ⟨i, hi⟩ := Option.isSome_iff_exists.1 h0
  rw [hi] at h1 h2 h3
  exact ⟨i, hi, by simpa using h1, by simpa using h2, by simpa using h3⟩

/-- A row of cells of which the first k elements are those of the list. -/
def HasWk (xs : List Value) (l : List Wk) (k : Nat) : Prop := ∀ i (h : i < l.length), i < k → ∀ j, j < 8 → xs[i * 8 + j]? = some (.int .i64 (l[i].cell j))
theorem HasWk.next {xs : List Value} {l : List Wk} {k : Nat} (h : HasWk xs l k) (hk : k < l.length) (hlen : xs.length = l.length * 8) :
    HasWk (setsAt xs (k * 8) [.int .i64 l[k].cpu, .int .i64 l[k].mem, .int .i64 l[k].min, .int .i64 l[k].max, .int .i64 l[k].target, .int .i64 l[k].limit, .int .i64 l[k].tol, .int .i64 l[k].rank]) l (k + 1) := by
  intro i hi hik j hj
  have hx : k * 8 + 8 ≤ xs.length := by rw [hlen]; have := Nat.mul_le_mul_right 8 (show k + 1 ≤ l.length from hk); omega
  by_cases hik' : i = k
  · subst hik'
    rw [setsAt_in _ _ _ _ (by simpa using hj) (by simpa using hx)]
    have hj' : j = 0 ∨ j = 1 ∨ j = 2 ∨ j = 3 ∨ j = 4 ∨ j = 5 ∨ j = 6 ∨ j = 7 := by omega
    rcases hj' with rfl | rfl | rfl | rfl | rfl | rfl | rfl | rfl <;> rfl
  · have h0 := h i hi (by omega) j hj
    have hlt : i * 8 + 8 ≤ k * 8 := by have := Nat.mul_le_mul_right 8 (show i + 1 ≤ k by omega); omega
    rw [setsAt_out _ _ _ _ (by omega)]
    exact h0

set_option maxRecDepth 100000 in
set_option maxHeartbeats 2000000 in
theorem toWorks_any (a : Option Addr) (len cap : Nat) (l : List Wk) (w : World) (hlen : l.length = len) (hn : len ≤ 2000000) (hl : WorksAt w a l) :
    Calls Tryd.prog 31 #[.slice a len cap] w fun e w' => e = .returned (.slice (some ⟨w.heap.size, 0, none⟩) len len) ∧ WorksAt w' (some ⟨w.heap.size, 0, none⟩) l ∧ w.heap.size < w'.heap.size ∧ Below w.heap.size w w' := by
  obtain ⟨inf, i1, i2, i3, i4⟩ := info76
  obtain ⟨w0, hrun, hown, hgrow⟩ := run_make_full (P := Tryd.prog) w w.heap.size 28 76 inf _ 8 Tryd.underlying28 i1 i2 i3 .i64 .i64 len (by rw [i4]; omega) (by unfold maxLen; omega) (Nat.le_refl _)
  have HL := hide hl
  have HN := hide hlen
  have HO := hide hown
  have HG := hide (grown_bel hgrow)
  have hsz : w.heap.size < w0.heap.size := (hown.lt _ rfl).2
  clear hl hlen hown hgrow i1 i2 i3 i4
  have hi40 : (Tryd.prog.info? 76).map (·.size) = some 8 := by kernel_rfl
  go_enter Tryd.func31, Tryd.ntmps31
  go_wp2
  go_loopw [4] (fun i w' => ∃ k : Nat, k ≤ len ∧ i = .int .i64 k ∧ Below w.heap.size w w' ∧ ∃ xs, Hid (w'.ownsRow w.heap.size 76 8 (.slice (some ⟨w.heap.size, 0, none⟩) len len) len xs ∧ HasWk xs l k)) (fun i _ => len - (intOf i).toNat)
  case atStart => exact ⟨0, Nat.zero_le _, rfl, HG.out, _, HO.out, fun i h hi => absurd hi (by omega)⟩
  case round =>
    obtain ⟨k, hk, rfl, hbel, xs, hxs⟩ := hrel
    by_cases hlt : k < len
    · obtain ⟨b, o, ha, hbl, c0, c1, c2, c3, c4, c5, c6, c7⟩ := (HL.out.keep hbel).at k (by rw [HN.out]; exact hlt)
      subst ha
      have hk0 : (0 : Int) ≤ (k : Int) := by omega
      have hkn : (k : Int) < (len : Int) := by omega
      have hkl : k < l.length := by rw [HN.out]; exact hlt
      go_wp2_with fail
      refine (toWork_any l[k] _).mono ?_
      rintro e w2 ⟨rfl, hb⟩
      have ho2 : w2.ownsRow w.heap.size 76 8 (.slice (some ⟨w.heap.size, 0, none⟩) len len) len xs := hxs.out.1.kept (bel_grown hb) (.inr (by simp [Value.ownBlock]))
      have hxl : xs.length = len * 8 := ho2.1
      have hmul : k * 8 + 8 ≤ len * 8 := by have := Nat.mul_le_mul_right 8 (show k + 1 ≤ len from hlt); omega
      have hth : w2.there w.heap.size (k * 8) 8 := fun j hj => ⟨by rw [ho2.cellAt _ (by omega), List.getElem?_eq_getElem (by omega)]; rfl, ho2.frozenAt _⟩
      have hTH := hide hth
      clear hth
      have HX := hide hxs
      have HO2 := hide ho2
      clear hxs ho2 c0 c1 c2 c3 c4 c5 c6 c7
      go_wp2_with (refine wpList_store_mid (by rfl) 76 _ _ (by rfl) _ _ _ (by rfl) (by rfl) ?_ ?_ ?_ ?_; (· (exact hTH.out)); (· (exact hi40)); (· (simp [Value.oneCell'])))
      go_roundw
      case rel =>
        refine ⟨k + 1, by omega, by go_num, ?_, _, ?_, HX.out.2.next hkl (by rw [HN.out]; exact HO2.out.1)⟩
        · exact bel_setCells (Nat.le_refl _) _ _ _ (bel_trans hbel hb)
        · exact owns_setCells _ _ _ _ HO2.out
      case measure => simp [intOf]; omega
    · have : k = len := by omega
      subst this
      go_wp2
      go_ret
      refine ⟨rfl, .inr ⟨w.heap.size, 0, rfl, (hxs.out.1.lt _ rfl).2, fun i h j hj => ?_⟩, (hxs.out.1.lt _ rfl).2, hbel⟩
      have h1 := hxs.out.2 i h (by rw [← HN.out]; exact h) j hj
      have h2 := hxs.out.1.cellAt (i * 8 + j) (by rw [HN.out] at h; have := Nat.mul_le_mul_right 8 (show i + 1 ≤ k from h); omega)
      rw [Nat.zero_add, h2, h1]

/-- A row of cells of which the first k elements are those of the list. -/
def HasGp (xs : List Value) (l : List Gp) (k : Nat) : Prop := ∀ i (h : i < l.length), i < k → ∀ j, j < 5 → xs[i * 5 + j]? = some (.int .i64 (l[i].cell j))
theorem HasGp.next {xs : List Value} {l : List Gp} {k : Nat} (h : HasGp xs l k) (hk : k < l.length) (hlen : xs.length = l.length * 5) :
    HasGp (setsAt xs (k * 5) [.int .i64 l[k].cpu, .int .i64 l[k].mem, .int .i64 l[k].min, .int .i64 l[k].max, .int .i64 l[k].boot]) l (k + 1) := by
  intro i hi hik j hj
  have hx : k * 5 + 5 ≤ xs.length := by rw [hlen]; have := Nat.mul_le_mul_right 5 (show k + 1 ≤ l.length from hk); omega
  by_cases hik' : i = k
  · subst hik'
    rw [setsAt_in _ _ _ _ (by simpa using hj) (by simpa using hx)]
    have hj' : j = 0 ∨ j = 1 ∨ j = 2 ∨ j = 3 ∨ j = 4 := by omega
    rcases hj' with rfl | rfl | rfl | rfl | rfl <;> rfl
  · have h0 := h i hi (by omega) j hj
    have hlt : i * 5 + 5 ≤ k * 5 := by have := Nat.mul_le_mul_right 5 (show i + 1 ≤ k by omega); omega
    rw [setsAt_out _ _ _ _ (by omega)]
    exact h0

set_option maxRecDepth 100000 in
set_option maxHeartbeats 2000000 in
theorem toGroups_any (a : Option Addr) (len cap : Nat) (l : List Gp) (w : World) (hlen : l.length = len) (hn : len ≤ 2000000) (hl : GroupsAt w a l) :
    Calls Tryd.prog 32 #[.slice a len cap] w fun e w' => e = .returned (.slice (some ⟨w.heap.size, 0, none⟩) len len) ∧ GroupsAt w' (some ⟨w.heap.size, 0, none⟩) l ∧ w.heap.size < w'.heap.size ∧ Below w.heap.size w w' := by
  obtain ⟨inf, i1, i2, i3, i4⟩ := info78
  obtain ⟨w0, hrun, hown, hgrow⟩ := run_make_full (P := Tryd.prog) w w.heap.size 29 78 inf _ 5 Tryd.underlying29 i1 i2 i3 .i64 .i64 len (by rw [i4]; omega) (by unfold maxLen; omega) (Nat.le_refl _)
  have HL := hide hl
  have HN := hide hlen
  have HO := hide hown
  have HG := hide (grown_bel hgrow)
  have hsz : w.heap.size < w0.heap.size := (hown.lt _ rfl).2
  clear hl hlen hown hgrow i1 i2 i3 i4
  have hi37 : (Tryd.prog.info? 78).map (·.size) = some 5 := by kernel_rfl
  go_enter Tryd.func32, Tryd.ntmps32
  go_wp2
  go_loopw [4] (fun i w' => ∃ k : Nat, k ≤ len ∧ i = .int .i64 k ∧ Below w.heap.size w w' ∧ ∃ xs, Hid (w'.ownsRow w.heap.size 78 5 (.slice (some ⟨w.heap.size, 0, none⟩) len len) len xs ∧ HasGp xs l k)) (fun i _ => len - (intOf i).toNat)
  case atStart => exact ⟨0, Nat.zero_le _, rfl, HG.out, _, HO.out, fun i h hi => absurd hi (by omega)⟩
  case round =>
    obtain ⟨k, hk, rfl, hbel, xs, hxs⟩ := hrel
    by_cases hlt : k < len
    · obtain ⟨b, o, ha, hbl, c0, c1, c2, c3, c4⟩ := (HL.out.keep hbel).at k (by rw [HN.out]; exact hlt)
      subst ha
      have hk0 : (0 : Int) ≤ (k : Int) := by omega
      have hkn : (k : Int) < (len : Int) := by omega
      have hkl : k < l.length := by rw [HN.out]; exact hlt
      go_wp2_with fail
      refine (toGroup_any l[k] _).mono ?_
      rintro e w2 ⟨rfl, hb⟩
      have ho2 : w2.ownsRow w.heap.size 78 5 (.slice (some ⟨w.heap.size, 0, none⟩) len len) len xs := hxs.out.1.kept (bel_grown hb) (.inr (by simp [Value.ownBlock]))
      have hxl : xs.length = len * 5 := ho2.1
      have hmul : k * 5 + 5 ≤ len * 5 := by have := Nat.mul_le_mul_right 5 (show k + 1 ≤ len from hlt); omega
      have hth : w2.there w.heap.size (k * 5) 5 := fun j hj => ⟨by rw [ho2.cellAt _ (by omega), List.getElem?_eq_getElem (by omega)]; rfl, ho2.frozenAt _⟩
      have hTH := hide hth
      clear hth
      have HX := hide hxs
      have HO2 := hide ho2
      clear hxs ho2 c0 c1 c2 c3 c4
      go_wp2_with (refine wpList_store_mid (by rfl) 78 _ _ (by rfl) _ _ _ (by rfl) (by rfl) ?_ ?_ ?_ ?_; (· (exact hTH.out)); (· (exact hi37)); (· (simp [Value.oneCell'])))
      go_roundw
      case rel =>
        refine ⟨k + 1, by omega, by go_num, ?_, _, ?_, HX.out.2.next hkl (by rw [HN.out]; exact HO2.out.1)⟩
        · exact bel_setCells (Nat.le_refl _) _ _ _ (bel_trans hbel hb)
        · exact owns_setCells _ _ _ _ HO2.out
      case measure => simp [intOf]; omega
    · have : k = len := by omega
      subst this
      go_wp2
      go_ret
      refine ⟨rfl, .inr ⟨w.heap.size, 0, rfl, (hxs.out.1.lt _ rfl).2, fun i h j hj => ?_⟩, (hxs.out.1.lt _ rfl).2, hbel⟩
      have h1 := hxs.out.2 i h (by rw [← HN.out]; exact h) j hj
      have h2 := hxs.out.1.cellAt (i * 5 + j) (by rw [HN.out] at h; have := Nat.mul_le_mul_right 5 (show i + 1 ≤ k from h); omega)
      rw [Nat.zero_add, h2, h1]

end Go.Proofs.YtoceohacplmgnaaDoor
