/- What there is: the laws' own copies of its lists. -/
import Derived.Test.YtoceohacplmgnaaDoorGa
namespace Go.Proofs.YtoceohacplmgnaaDoor
open Go.RowKit

theorem info99 : ∃ i, Tryd.prog.info? 99 = some i ∧ i.zero = some (.agg #[.int .i64 0, .int .i64 0, .int .i64 0, .int .i64 0, .int .i64 0]) ∧ i.size = 5 ∧ i.bytes = 40 := by
  have h0 : (Tryd.prog.info? 99).isSome = true := by kernel_rfl
  have h1 : (Tryd.prog.info? 99).map (·.zero) = some (some (.agg #[.int .i64 0, .int .i64 0, .int .i64 0, .int .i64 0, .int .i64 0])) := by kernel_rfl
  have h2 : (Tryd.prog.info? 99).map (·.size) = some 5 := by kernel_rfl
  have h3 : (Tryd.prog.info? 99).map (·.bytes) = some 40 := by kernel_rfl
  obtain ⟨i, hi⟩ := Option.isSome_iff_exists.1 h0
  rw [hi] at h1 h2 h3
  exact ⟨i, hi, by simpa using h1, by simpa using h2, by simpa using h3⟩

set_option maxRecDepth 100000 in
set_option maxHeartbeats 1000000 in
theorem toPd_any (x : Pd) (w : World) :
    Calls Tryd.prog 71 #[x.v] w fun e w' => e = .returned x.v ∧ Below w.heap.size w w' := by
  go_enter Tryd.func71, Tryd.ntmps71
  go_wp2
  refine bodyPost_ret (v := x.v) (by simp [results, Tryd.results71, go_sem]) rfl ⟨rfl, by go_grown⟩

/-- A row of cells of which the first k elements are those of the list. -/
def HasPd (xs : List Value) (l : List Pd) (k : Nat) : Prop := ∀ i (h : i < l.length), i < k → ∀ j, j < 5 → xs[i * 5 + j]? = some (.int .i64 (l[i].cell j))
theorem HasPd.next {xs : List Value} {l : List Pd} {k : Nat} (h : HasPd xs l k) (hk : k < l.length) (hlen : xs.length = l.length * 5) :
    HasPd (setsAt xs (k * 5) [.int .i64 l[k].id, .int .i64 l[k].work, .int .i64 l[k].node, .int .i64 l[k].nom, .int .i64 l[k].wait]) l (k + 1) := by
  intro i hi hik j hj
  have hx : k * 5 + 5 ≤ xs.length := by rw [hlen]; have := Nat.mul_le_mul_right 5 (show k + 1 ≤ l.length from hk); omega
  by_cases hik' : i = k
  · subst hik'
    rw [setsAt_in _ _ _ _ (by simpa using hj) (by simpa using hx)]
    have hj' : j = 0 ∨ j = 1 ∨ j = 2 ∨ j = 3 ∨ j = 4 := by omega
    rcases hj' with rfl | rfl | rfl | rfl | rfl <;> rfl
  · have h0 := h i hi (by omega) j hj
    have hlt : i * 5 + 5 ≤ k * 5 := by have := Nat.mul_le_mul_right 5 (show i + 1 ≤ k by omega); omega
    rw [setsAt_out _ _ _ _ (by omega)]
    exact h0

set_option maxRecDepth 100000 in
set_option maxHeartbeats 2000000 in
theorem toPods_any (a : Option Addr) (len cap : Nat) (l : List Pd) (w : World) (hlen : l.length = len) (hn : len ≤ 2000000) (hl : PodsAt w a l) :
    Calls Tryd.prog 41 #[.slice a len cap] w fun e w' => e = .returned (.slice (some ⟨w.heap.size, 0, none⟩) len len) ∧ PodsAt w' (some ⟨w.heap.size, 0, none⟩) l ∧ w.heap.size < w'.heap.size ∧ Below w.heap.size w w' := by
  obtain ⟨inf, i1, i2, i3, i4⟩ := info99
  obtain ⟨w0, hrun, hown, hgrow⟩ := run_make_full (P := Tryd.prog) w w.heap.size 43 99 inf _ 5 Tryd.underlying43 i1 i2 i3 .i64 .i64 len (by rw [i4]; omega) (by unfold maxLen; omega) (Nat.le_refl _)
  have HL := hide hl
  have HN := hide hlen
  have HO := hide hown
  have HG := hide (grown_bel hgrow)
  have hsz : w.heap.size < w0.heap.size := (hown.lt _ rfl).2
  clear hl hlen hown hgrow i1 i2 i3 i4
  have hi40 : (Tryd.prog.info? 99).map (·.size) = some 5 := by kernel_rfl
  go_enter Tryd.func41, Tryd.ntmps41
  go_wp2
  go_loopw [4] (fun i w' => ∃ k : Nat, k ≤ len ∧ i = .int .i64 k ∧ Below w.heap.size w w' ∧ ∃ xs, Hid (w'.ownsRow w.heap.size 99 5 (.slice (some ⟨w.heap.size, 0, none⟩) len len) len xs ∧ HasPd xs l k)) (fun i _ => len - (intOf i).toNat)
  case atStart => exact ⟨0, Nat.zero_le _, rfl, HG.out, _, HO.out, fun i h hi => absurd hi (by omega)⟩
  case round =>
    obtain ⟨k, hk, rfl, hbel, xs, hxs⟩ := hrel
    by_cases hlt : k < len
    · obtain ⟨b, o, ha, hbl, c0, c1, c2, c3, c4⟩ := (HL.out.keep hbel).at k (by rw [HN.out]; exact hlt)
      subst ha
      have hk0 : (0 : Int) ≤ (k : Int) := by omega
      have hkn : (k : Int) < (len : Int) := by omega
      have hkl : k < l.length := by rw [HN.out]; exact hlt
      go_wp2_with fail
      refine (toPd_any l[k] _).mono ?_
      rintro e w2 ⟨rfl, hb⟩
      have ho2 : w2.ownsRow w.heap.size 99 5 (.slice (some ⟨w.heap.size, 0, none⟩) len len) len xs := hxs.out.1.kept (bel_grown hb) (.inr (by simp [Value.ownBlock]))
      have hxl : xs.length = len * 5 := ho2.1
      have hmul : k * 5 + 5 ≤ len * 5 := by have := Nat.mul_le_mul_right 5 (show k + 1 ≤ len from hlt); omega
      have hth : w2.there w.heap.size (k * 5) 5 := fun j hj => ⟨by rw [ho2.cellAt _ (by omega), List.getElem?_eq_getElem (by omega)]; rfl, ho2.frozenAt _⟩
      have hTH := hide hth
      clear hth
      have HX := hide hxs
      have HO2 := hide ho2
      clear hxs ho2 c0 c1 c2 c3 c4
      go_wp2_with (refine wpList_store_mid (by rfl) 99 _ _ (by rfl) _ _ _ (by rfl) (by rfl) ?_ ?_ ?_ ?_; (· (exact hTH.out)); (· (exact hi40)); (· (simp [Value.oneCell'])))
      go_roundw
      case rel =>
        refine ⟨k + 1, by omega, by go_num, ?_, _, ?_, HX.out.2.next hkl (by rw [HN.out]; exact HO2.out.1)⟩
        · exact bel_setCells (Nat.le_refl _) _ _ _ (bel_trans hbel hb)
        · exact owns_setCells _ _ _ _ HO2.out
      case measure => simp [intOf]; omega
    · have : k = len := by omega
      subst this
      go_wp2
      go_ret
      refine ⟨rfl, .inr ⟨w.heap.size, 0, rfl, (hxs.out.1.lt _ rfl).2, fun i h j hj => ?_⟩, (hxs.out.1.lt _ rfl).2, hbel⟩
      have h1 := hxs.out.2 i h (by rw [← HN.out]; exact h) j hj
      have h2 := hxs.out.1.cellAt (i * 5 + j) (by rw [HN.out] at h; have := Nat.mul_le_mul_right 5 (show i + 1 ≤ k from h); omega)
      rw [Nat.zero_add, h2, h1]

theorem info97 : ∃ i, Tryd.prog.info? 97 = some i ∧ i.zero = some (.agg #[.int .i64 0, .int .i64 0, .int .i64 0, .int .i64 0]) ∧ i.size = 4 ∧ i.bytes = 32 := by
  have h0 : (Tryd.prog.info? 97).isSome = true := by kernel_rfl
  have h1 : (Tryd.prog.info? 97).map (·.zero) = some (some (.agg #[.int .i64 0, .int .i64 0, .int .i64 0, .int .i64 0])) := by kernel_rfl
  have h2 : (Tryd.prog.info? 97).map (·.size) = some 4 := by kernel_rfl
  have h3 : (Tryd.prog.info? 97).map (·.bytes) = some 32 := by kernel_rfl
  obtain ⟨i, hi⟩ := Option.isSome_iff_exists.1 h0
  rw [hi] at h1 h2 h3
  exact ⟨i, hi, by simpa using h1, by simpa using h2, by simpa using h3⟩

set_option maxRecDepth 100000 in
set_option maxHeartbeats 1000000 in
theorem toNd_any (x : Nd) (w : World) :
    Calls Tryd.prog 72 #[x.v] w fun e w' => e = .returned x.v ∧ Below w.heap.size w w' := by
  go_enter Tryd.func72, Tryd.ntmps72
  go_wp2
  refine bodyPost_ret (v := x.v) (by simp [results, Tryd.results72, go_sem]) rfl ⟨rfl, by go_grown⟩

/-- A row of cells of which the first k elements are those of the list. -/
def HasNd (xs : List Value) (l : List Nd) (k : Nat) : Prop := ∀ i (h : i < l.length), i < k → ∀ j, j < 4 → xs[i * 4 + j]? = some (.int .i64 (l[i].cell j))
theorem HasNd.next {xs : List Value} {l : List Nd} {k : Nat} (h : HasNd xs l k) (hk : k < l.length) (hlen : xs.length = l.length * 4) :
    HasNd (setsAt xs (k * 4) [.int .i64 l[k].id, .int .i64 l[k].group, .int .i64 l[k].boot, .int .i64 l[k].idle]) l (k + 1) := by
  intro i hi hik j hj
  have hx : k * 4 + 4 ≤ xs.length := by rw [hlen]; have := Nat.mul_le_mul_right 4 (show k + 1 ≤ l.length from hk); omega
  by_cases hik' : i = k
  · subst hik'
    rw [setsAt_in _ _ _ _ (by simpa using hj) (by simpa using hx)]
    have hj' : j = 0 ∨ j = 1 ∨ j = 2 ∨ j = 3 := by omega
    rcases hj' with rfl | rfl | rfl | rfl <;> rfl
  · have h0 := h i hi (by omega) j hj
    have hlt : i * 4 + 4 ≤ k * 4 := by have := Nat.mul_le_mul_right 4 (show i + 1 ≤ k by omega); omega
    rw [setsAt_out _ _ _ _ (by omega)]
    exact h0

set_option maxRecDepth 100000 in
set_option maxHeartbeats 2000000 in
theorem toNodes_any (a : Option Addr) (len cap : Nat) (l : List Nd) (w : World) (hlen : l.length = len) (hn : len ≤ 2000000) (hl : NodesAt w a l) :
    Calls Tryd.prog 42 #[.slice a len cap] w fun e w' => e = .returned (.slice (some ⟨w.heap.size, 0, none⟩) len len) ∧ NodesAt w' (some ⟨w.heap.size, 0, none⟩) l ∧ w.heap.size < w'.heap.size ∧ Below w.heap.size w w' := by
  obtain ⟨inf, i1, i2, i3, i4⟩ := info97
  obtain ⟨w0, hrun, hown, hgrow⟩ := run_make_full (P := Tryd.prog) w w.heap.size 44 97 inf _ 4 Tryd.underlying44 i1 i2 i3 .i64 .i64 len (by rw [i4]; omega) (by unfold maxLen; omega) (Nat.le_refl _)
  have HL := hide hl
  have HN := hide hlen
  have HO := hide hown
  have HG := hide (grown_bel hgrow)
  have hsz : w.heap.size < w0.heap.size := (hown.lt _ rfl).2
  clear hl hlen hown hgrow i1 i2 i3 i4
  have hi40 : (Tryd.prog.info? 97).map (·.size) = some 4 := by kernel_rfl
  go_enter Tryd.func42, Tryd.ntmps42
  go_wp2
  go_loopw [4] (fun i w' => ∃ k : Nat, k ≤ len ∧ i = .int .i64 k ∧ Below w.heap.size w w' ∧ ∃ xs, Hid (w'.ownsRow w.heap.size 97 4 (.slice (some ⟨w.heap.size, 0, none⟩) len len) len xs ∧ HasNd xs l k)) (fun i _ => len - (intOf i).toNat)
  case atStart => exact ⟨0, Nat.zero_le _, rfl, HG.out, _, HO.out, fun i h hi => absurd hi (by omega)⟩
  case round =>
    obtain ⟨k, hk, rfl, hbel, xs, hxs⟩ := hrel
    by_cases hlt : k < len
    · obtain ⟨b, o, ha, hbl, c0, c1, c2, c3⟩ := (HL.out.keep hbel).at k (by rw [HN.out]; exact hlt)
      subst ha
      have hk0 : (0 : Int) ≤ (k : Int) := by omega
      have hkn : (k : Int) < (len : Int) := by omega
      have hkl : k < l.length := by rw [HN.out]; exact hlt
      go_wp2_with fail
      refine (toNd_any l[k] _).mono ?_
      rintro e w2 ⟨rfl, hb⟩
      have ho2 : w2.ownsRow w.heap.size 97 4 (.slice (some ⟨w.heap.size, 0, none⟩) len len) len xs := hxs.out.1.kept (bel_grown hb) (.inr (by simp [Value.ownBlock]))
      have hxl : xs.length = len * 4 := ho2.1
      have hmul : k * 4 + 4 ≤ len * 4 := by have := Nat.mul_le_mul_right 4 (show k + 1 ≤ len from hlt); omega
      have hth : w2.there w.heap.size (k * 4) 4 := fun j hj => ⟨by rw [ho2.cellAt _ (by omega), List.getElem?_eq_getElem (by omega)]; rfl, ho2.frozenAt _⟩
      have hTH := hide hth
      clear hth
      have HX := hide hxs
      have HO2 := hide ho2
      clear hxs ho2 c0 c1 c2 c3
      go_wp2_with (refine wpList_store_mid (by rfl) 97 _ _ (by rfl) _ _ _ (by rfl) (by rfl) ?_ ?_ ?_ ?_; (· (exact hTH.out)); (· (exact hi40)); (· (simp [Value.oneCell'])))
      go_roundw
      case rel =>
        refine ⟨k + 1, by omega, by go_num, ?_, _, ?_, HX.out.2.next hkl (by rw [HN.out]; exact HO2.out.1)⟩
        · exact bel_setCells (Nat.le_refl _) _ _ _ (bel_trans hbel hb)
        · exact owns_setCells _ _ _ _ HO2.out
      case measure => simp [intOf]; omega
    · have : k = len := by omega
      subst this
      go_wp2
      go_ret
      refine ⟨rfl, .inr ⟨w.heap.size, 0, rfl, (hxs.out.1.lt _ rfl).2, fun i h j hj => ?_⟩, (hxs.out.1.lt _ rfl).2, hbel⟩
      have h1 := hxs.out.2 i h (by rw [← HN.out]; exact h) j hj
      have h2 := hxs.out.1.cellAt (i * 4 + j) (by rw [HN.out] at h; have := Nat.mul_le_mul_right 4 (show i + 1 ≤ k from h); omega)
      rw [Nat.zero_add, h2, h1]

theorem info93 : ∃ i, Tryd.prog.info? 93 = some i ∧ i.zero = some (.agg #[.int .i64 0, .int .i64 0, .int .i64 0]) ∧ i.size = 3 ∧ i.bytes = 24 := by
  have h0 : (Tryd.prog.info? 93).isSome = true := by kernel_rfl
  have h1 : (Tryd.prog.info? 93).map (·.zero) = some (some (.agg #[.int .i64 0, .int .i64 0, .int .i64 0])) := by kernel_rfl
  have h2 : (Tryd.prog.info? 93).map (·.size) = some 3 := by kernel_rfl
  have h3 : (Tryd.prog.info? 93).map (·.bytes) = some 24 := by kernel_rfl
  obtain ⟨i, hi⟩ := Option.isSome_iff_exists.1 h0
  rw [hi] at h1 h2 h3
  exact ⟨i, hi, by simpa using h1, by simpa using h2, by simpa using h3⟩

set_option maxRecDepth 100000 in
set_option maxHeartbeats 1000000 in
theorem toWs_any (x : Ws) (w : World) :
    Calls Tryd.prog 73 #[x.v] w fun e w' => e = .returned x.v ∧ Below w.heap.size w w' := by
  go_enter Tryd.func73, Tryd.ntmps73
  go_wp2
  refine bodyPost_ret (v := x.v) (by simp [results, Tryd.results73, go_sem]) rfl ⟨rfl, by go_grown⟩

/-- A row of cells of which the first k elements are those of the list. -/
def HasWs (xs : List Value) (l : List Ws) (k : Nat) : Prop := ∀ i (h : i < l.length), i < k → ∀ j, j < 3 → xs[i * 3 + j]? = some (.int .i64 (l[i].cell j))
theorem HasWs.next {xs : List Value} {l : List Ws} {k : Nat} (h : HasWs xs l k) (hk : k < l.length) (hlen : xs.length = l.length * 3) :
    HasWs (setsAt xs (k * 3) [.int .i64 l[k].want, .int .i64 l[k].load, .int .i64 l[k].low]) l (k + 1) := by
  intro i hi hik j hj
  have hx : k * 3 + 3 ≤ xs.length := by rw [hlen]; have := Nat.mul_le_mul_right 3 (show k + 1 ≤ l.length from hk); omega
  by_cases hik' : i = k
  · subst hik'
    rw [setsAt_in _ _ _ _ (by simpa using hj) (by simpa using hx)]
    have hj' : j = 0 ∨ j = 1 ∨ j = 2 := by omega
    rcases hj' with rfl | rfl | rfl <;> rfl
  · have h0 := h i hi (by omega) j hj
    have hlt : i * 3 + 3 ≤ k * 3 := by have := Nat.mul_le_mul_right 3 (show i + 1 ≤ k by omega); omega
    rw [setsAt_out _ _ _ _ (by omega)]
    exact h0

set_option maxRecDepth 100000 in
set_option maxHeartbeats 2000000 in
theorem toWss_any (a : Option Addr) (len cap : Nat) (l : List Ws) (w : World) (hlen : l.length = len) (hn : len ≤ 2000000) (hl : WssAt w a l) :
    Calls Tryd.prog 43 #[.slice a len cap] w fun e w' => e = .returned (.slice (some ⟨w.heap.size, 0, none⟩) len len) ∧ WssAt w' (some ⟨w.heap.size, 0, none⟩) l ∧ w.heap.size < w'.heap.size ∧ Below w.heap.size w w' := by
  obtain ⟨inf, i1, i2, i3, i4⟩ := info93
  obtain ⟨w0, hrun, hown, hgrow⟩ := run_make_full (P := Tryd.prog) w w.heap.size 45 93 inf _ 3 Tryd.underlying45 i1 i2 i3 .i64 .i64 len (by rw [i4]; omega) (by unfold maxLen; omega) (Nat.le_refl _)
  have HL := hide hl
  have HN := hide hlen
  have HO := hide hown
  have HG := hide (grown_bel hgrow)
  have hsz : w.heap.size < w0.heap.size := (hown.lt _ rfl).2
  clear hl hlen hown hgrow i1 i2 i3 i4
  have hi40 : (Tryd.prog.info? 93).map (·.size) = some 3 := by kernel_rfl
  go_enter Tryd.func43, Tryd.ntmps43
  go_wp2
  go_loopw [4] (fun i w' => ∃ k : Nat, k ≤ len ∧ i = .int .i64 k ∧ Below w.heap.size w w' ∧ ∃ xs, Hid (w'.ownsRow w.heap.size 93 3 (.slice (some ⟨w.heap.size, 0, none⟩) len len) len xs ∧ HasWs xs l k)) (fun i _ => len - (intOf i).toNat)
  case atStart => exact ⟨0, Nat.zero_le _, rfl, HG.out, _, HO.out, fun i h hi => absurd hi (by omega)⟩
  case round =>
    obtain ⟨k, hk, rfl, hbel, xs, hxs⟩ := hrel
    by_cases hlt : k < len
    · obtain ⟨b, o, ha, hbl, c0, c1, c2⟩ := (HL.out.keep hbel).at k (by rw [HN.out]; exact hlt)
      subst ha
      have hk0 : (0 : Int) ≤ (k : Int) := by omega
      have hkn : (k : Int) < (len : Int) := by omega
      have hkl : k < l.length := by rw [HN.out]; exact hlt
      go_wp2_with fail
      refine (toWs_any l[k] _).mono ?_
      rintro e w2 ⟨rfl, hb⟩
      have ho2 : w2.ownsRow w.heap.size 93 3 (.slice (some ⟨w.heap.size, 0, none⟩) len len) len xs := hxs.out.1.kept (bel_grown hb) (.inr (by simp [Value.ownBlock]))
      have hxl : xs.length = len * 3 := ho2.1
      have hmul : k * 3 + 3 ≤ len * 3 := by have := Nat.mul_le_mul_right 3 (show k + 1 ≤ len from hlt); omega
      have hth : w2.there w.heap.size (k * 3) 3 := fun j hj => ⟨by rw [ho2.cellAt _ (by omega), List.getElem?_eq_getElem (by omega)]; rfl, ho2.frozenAt _⟩
      have hTH := hide hth
      clear hth
      have HX := hide hxs
      have HO2 := hide ho2
      clear hxs ho2 c0 c1 c2
      go_wp2_with (refine wpList_store_mid (by rfl) 93 _ _ (by rfl) _ _ _ (by rfl) (by rfl) ?_ ?_ ?_ ?_; (· (exact hTH.out)); (· (exact hi40)); (· (simp [Value.oneCell'])))
      go_roundw
      case rel =>
        refine ⟨k + 1, by omega, by go_num, ?_, _, ?_, HX.out.2.next hkl (by rw [HN.out]; exact HO2.out.1)⟩
        · exact bel_setCells (Nat.le_refl _) _ _ _ (bel_trans hbel hb)
        · exact owns_setCells _ _ _ _ HO2.out
      case measure => simp [intOf]; omega
    · have : k = len := by omega
      subst this
      go_wp2
      go_ret
      refine ⟨rfl, .inr ⟨w.heap.size, 0, rfl, (hxs.out.1.lt _ rfl).2, fun i h j hj => ?_⟩, (hxs.out.1.lt _ rfl).2, hbel⟩
      have h1 := hxs.out.2 i h (by rw [← HN.out]; exact h) j hj
      have h2 := hxs.out.1.cellAt (i * 3 + j) (by rw [HN.out] at h; have := Nat.mul_le_mul_right 3 (show i + 1 ≤ k from h); omega)
      rw [Nat.zero_add, h2, h1]

theorem info95 : ∃ i, Tryd.prog.info? 95 = some i ∧ i.zero = some (.agg #[.int .i64 0, .int .i64 0, .int .i64 0]) ∧ i.size = 3 ∧ i.bytes = 24 := by
  have h0 : (Tryd.prog.info? 95).isSome = true := by kernel_rfl
  have h1 : (Tryd.prog.info? 95).map (·.zero) = some (some (.agg #[.int .i64 0, .int .i64 0, .int .i64 0])) := by kernel_rfl
  have h2 : (Tryd.prog.info? 95).map (·.size) = some 3 := by kernel_rfl
  have h3 : (Tryd.prog.info? 95).map (·.bytes) = some 24 := by kernel_rfl
  obtain ⟨i, hi⟩ := Option.isSome_iff_exists.1 h0
  rw [hi] at h1 h2 h3
  exact ⟨i, hi, by simpa using h1, by simpa using h2, by simpa using h3⟩

set_option maxRecDepth 100000 in
set_option maxHeartbeats 1000000 in
theorem toGs_any (x : Gs) (w : World) :
    Calls Tryd.prog 74 #[x.v] w fun e w' => e = .returned x.v ∧ Below w.heap.size w w' := by
  go_enter Tryd.func74, Tryd.ntmps74
  go_wp2
  refine bodyPost_ret (v := x.v) (by simp [results, Tryd.results74, go_sem]) rfl ⟨rfl, by go_grown⟩

/-- A row of cells of which the first k elements are those of the list. -/
def HasGs (xs : List Value) (l : List Gs) (k : Nat) : Prop := ∀ i (h : i < l.length), i < k → ∀ j, j < 3 → xs[i * 3 + j]? = some (.int .i64 (l[i].cell j))
theorem HasGs.next {xs : List Value} {l : List Gs} {k : Nat} (h : HasGs xs l k) (hk : k < l.length) (hlen : xs.length = l.length * 3) :
    HasGs (setsAt xs (k * 3) [.int .i64 l[k].asked, .int .i64 l[k].rest, .int .i64 l[k].fails]) l (k + 1) := by
  intro i hi hik j hj
  have hx : k * 3 + 3 ≤ xs.length := by rw [hlen]; have := Nat.mul_le_mul_right 3 (show k + 1 ≤ l.length from hk); omega
  by_cases hik' : i = k
  · subst hik'
    rw [setsAt_in _ _ _ _ (by simpa using hj) (by simpa using hx)]
    have hj' : j = 0 ∨ j = 1 ∨ j = 2 := by omega
    rcases hj' with rfl | rfl | rfl <;> rfl
  · have h0 := h i hi (by omega) j hj
    have hlt : i * 3 + 3 ≤ k * 3 := by have := Nat.mul_le_mul_right 3 (show i + 1 ≤ k by omega); omega
    rw [setsAt_out _ _ _ _ (by omega)]
    exact h0

set_option maxRecDepth 100000 in
set_option maxHeartbeats 2000000 in
theorem toGss_any (a : Option Addr) (len cap : Nat) (l : List Gs) (w : World) (hlen : l.length = len) (hn : len ≤ 2000000) (hl : GssAt w a l) :
    Calls Tryd.prog 44 #[.slice a len cap] w fun e w' => e = .returned (.slice (some ⟨w.heap.size, 0, none⟩) len len) ∧ GssAt w' (some ⟨w.heap.size, 0, none⟩) l ∧ w.heap.size < w'.heap.size ∧ Below w.heap.size w w' := by
  obtain ⟨inf, i1, i2, i3, i4⟩ := info95
  obtain ⟨w0, hrun, hown, hgrow⟩ := run_make_full (P := Tryd.prog) w w.heap.size 46 95 inf _ 3 Tryd.underlying46 i1 i2 i3 .i64 .i64 len (by rw [i4]; omega) (by unfold maxLen; omega) (Nat.le_refl _)
  have HL := hide hl
  have HN := hide hlen
  have HO := hide hown
  have HG := hide (grown_bel hgrow)
  have hsz : w.heap.size < w0.heap.size := (hown.lt _ rfl).2
  clear hl hlen hown hgrow i1 i2 i3 i4
  have hi40 : (Tryd.prog.info? 95).map (·.size) = some 3 := by kernel_rfl
  go_enter Tryd.func44, Tryd.ntmps44
  go_wp2
  go_loopw [4] (fun i w' => ∃ k : Nat, k ≤ len ∧ i = .int .i64 k ∧ Below w.heap.size w w' ∧ ∃ xs, Hid (w'.ownsRow w.heap.size 95 3 (.slice (some ⟨w.heap.size, 0, none⟩) len len) len xs ∧ HasGs xs l k)) (fun i _ => len - (intOf i).toNat)
  case atStart => exact ⟨0, Nat.zero_le _, rfl, HG.out, _, HO.out, fun i h hi => absurd hi (by omega)⟩
  case round =>
    obtain ⟨k, hk, rfl, hbel, xs, hxs⟩ := hrel
    by_cases hlt : k < len
    · obtain ⟨b, o, ha, hbl, c0, c1, c2⟩ := (HL.out.keep hbel).at k (by rw [HN.out]; exact hlt)
      subst ha
      have hk0 : (0 : Int) ≤ (k : Int) := by omega
      have hkn : (k : Int) < (len : Int) := by omega
      have hkl : k < l.length := by rw [HN.out]; exact hlt
      go_wp2_with fail
      refine (toGs_any l[k] _).mono ?_
      rintro e w2 ⟨rfl, hb⟩
      have ho2 : w2.ownsRow w.heap.size 95 3 (.slice (some ⟨w.heap.size, 0, none⟩) len len) len xs := hxs.out.1.kept (bel_grown hb) (.inr (by simp [Value.ownBlock]))
      have hxl : xs.length = len * 3 := ho2.1
      have hmul : k * 3 + 3 ≤ len * 3 := by have := Nat.mul_le_mul_right 3 (show k + 1 ≤ len from hlt); omega
      have hth : w2.there w.heap.size (k * 3) 3 := fun j hj => ⟨by rw [ho2.cellAt _ (by omega), List.getElem?_eq_getElem (by omega)]; rfl, ho2.frozenAt _⟩
      have hTH := hide hth
      clear hth
      have HX := hide hxs
      have HO2 := hide ho2
      clear hxs ho2 c0 c1 c2
      go_wp2_with (refine wpList_store_mid (by rfl) 95 _ _ (by rfl) _ _ _ (by rfl) (by rfl) ?_ ?_ ?_ ?_; (· (exact hTH.out)); (· (exact hi40)); (· (simp [Value.oneCell'])))
      go_roundw
      case rel =>
        refine ⟨k + 1, by omega, by go_num, ?_, _, ?_, HX.out.2.next hkl (by rw [HN.out]; exact HO2.out.1)⟩
        · exact bel_setCells (Nat.le_refl _) _ _ _ (bel_trans hbel hb)
        · exact owns_setCells _ _ _ _ HO2.out
      case measure => simp [intOf]; omega
    · have : k = len := by omega
      subst this
      go_wp2
      go_ret
      refine ⟨rfl, .inr ⟨w.heap.size, 0, rfl, (hxs.out.1.lt _ rfl).2, fun i h j hj => ?_⟩, (hxs.out.1.lt _ rfl).2, hbel⟩
      have h1 := hxs.out.2 i h (by rw [← HN.out]; exact h) j hj
      have h2 := hxs.out.1.cellAt (i * 3 + j) (by rw [HN.out] at h; have := Nat.mul_le_mul_right 3 (show i + 1 ≤ k from h); omega)
      rw [Nat.zero_add, h2, h1]

end Go.Proofs.YtoceohacplmgnaaDoor
