/- Lists of works and groups in memory; the folds over them. -/
import Derived.Test.YtmcpggbibonolaaP
namespace Go.Proofs.Ytmcpggbibonolaa
open Go.RowKit

/-- The eight cells of a work. -/
def Wk.cell (x : Wk) : Nat → Int
  | 0 => x.cpu | 1 => x.mem | 2 => x.min | 3 => x.max | 4 => x.target | 5 => x.limit | 6 => x.tol | _ => x.rank
def Gp.cell (x : Gp) : Nat → Int
  | 0 => x.cpu | 1 => x.mem | 2 => x.min | 3 => x.max | _ => x.boot

/-- A slice of works reads as the list l. -/
def WorksAt (w : World) (a : Option Addr) (l : List Wk) : Prop :=
  l = [] ∨ ∃ b o, a = some ⟨b, o, none⟩ ∧ b < w.heap.size ∧ ∀ i (h : i < l.length) j, j < 8 → w.cell? ⟨b, o + i * 8 + j, none⟩ = some (.int .i64 (l[i].cell j))
def GroupsAt (w : World) (a : Option Addr) (l : List Gp) : Prop :=
  l = [] ∨ ∃ b o, a = some ⟨b, o, none⟩ ∧ b < w.heap.size ∧ ∀ i (h : i < l.length) j, j < 5 → w.cell? ⟨b, o + i * 5 + j, none⟩ = some (.int .i64 (l[i].cell j))

theorem WorksAt.keep {w w' : World} {a : Option Addr} {l : List Wk} (h : WorksAt w a l) (hb : Below w.heap.size w w') : WorksAt w' a l := by
  rcases h with h | ⟨b, o, ha, hl, hc⟩
  · exact .inl h
  · exact .inr ⟨b, o, ha, Nat.lt_of_lt_of_le hl hb.size, fun i h j hj => by rw [(bcell hb).1 _ _ hl]; exact hc i h j hj⟩
theorem GroupsAt.keep {w w' : World} {a : Option Addr} {l : List Gp} (h : GroupsAt w a l) (hb : Below w.heap.size w w') : GroupsAt w' a l := by
  rcases h with h | ⟨b, o, ha, hl, hc⟩
  · exact .inl h
  · exact .inr ⟨b, o, ha, Nat.lt_of_lt_of_le hl hb.size, fun i h j hj => by rw [(bcell hb).1 _ _ hl]; exact hc i h j hj⟩

/-- One work of the list, cell by cell. -/
theorem WorksAt.at {w : World} {a : Option Addr} {l : List Wk} (h : WorksAt w a l) (i : Nat) (hi : i < l.length) :
    ∃ b o, a = some ⟨b, o, none⟩ ∧ b < w.heap.size ∧
      w.cell? ⟨b, o + i * 8, none⟩ = some (.int .i64 l[i].cpu) ∧ w.cell? ⟨b, o + i * 8 + 1, none⟩ = some (.int .i64 l[i].mem) ∧ w.cell? ⟨b, o + i * 8 + 2, none⟩ = some (.int .i64 l[i].min) ∧ w.cell? ⟨b, o + i * 8 + 3, none⟩ = some (.int .i64 l[i].max) ∧
      w.cell? ⟨b, o + i * 8 + 4, none⟩ = some (.int .i64 l[i].target) ∧ w.cell? ⟨b, o + i * 8 + 5, none⟩ = some (.int .i64 l[i].limit) ∧ w.cell? ⟨b, o + i * 8 + 6, none⟩ = some (.int .i64 l[i].tol) ∧ w.cell? ⟨b, o + i * 8 + 7, none⟩ = some (.int .i64 l[i].rank) := by
  rcases h with h | ⟨b, o, ha, hl, hc⟩
  · subst h; simp at hi
  · exact ⟨b, o, ha, hl, hc i hi 0 (by omega), hc i hi 1 (by omega), hc i hi 2 (by omega), hc i hi 3 (by omega), hc i hi 4 (by omega), hc i hi 5 (by omega), hc i hi 6 (by omega), hc i hi 7 (by omega)⟩
theorem GroupsAt.at {w : World} {a : Option Addr} {l : List Gp} (h : GroupsAt w a l) (i : Nat) (hi : i < l.length) :
    ∃ b o, a = some ⟨b, o, none⟩ ∧ b < w.heap.size ∧
      w.cell? ⟨b, o + i * 5, none⟩ = some (.int .i64 l[i].cpu) ∧ w.cell? ⟨b, o + i * 5 + 1, none⟩ = some (.int .i64 l[i].mem) ∧ w.cell? ⟨b, o + i * 5 + 2, none⟩ = some (.int .i64 l[i].min) ∧ w.cell? ⟨b, o + i * 5 + 3, none⟩ = some (.int .i64 l[i].max) ∧
      w.cell? ⟨b, o + i * 5 + 4, none⟩ = some (.int .i64 l[i].boot) := by
  rcases h with h | ⟨b, o, ha, hl, hc⟩
  · subst h; simp at hi
  · exact ⟨b, o, ha, hl, hc i hi 0 (by omega), hc i hi 1 (by omega), hc i hi 2 (by omega), hc i hi 3 (by omega), hc i hi 4 (by omega)⟩

/-- A function value that steps an invariant along a list. -/
def StepAt {α : Type} (w0 : World) (F : Value) (enc : α → Value) (l : List α) (R : Nat → Value → Prop) : Prop :=
  ∃ k caps, (∀ args w, (callFunc k args).run Try.prog w = .ok (.enter k args) w) ∧ F = .func (.func k) #[] caps ∧
    ∀ i (h : i < l.length) v w, R i v → Below w0.heap.size w0 w → Calls Try.prog k (#[v, enc l[i]] ++ caps) w fun e w' => ∃ v', e = .returned v' ∧ R (i + 1) v' ∧ Below w.heap.size w w'

set_option maxRecDepth 100000 in
set_option maxHeartbeats 400000 in
theorem fold76_any (a : Option Addr) (len cap : Nat) (l : List Wk) (v0 F : Value) (R : Nat → Value → Prop) (w : World) (hlen : l.length = len) (hn : len ≤ 2000000) (hl : WorksAt w a l)
    (hF : StepAt w F Wk.v l R) (h0 : R 0 v0) :
    Calls Try.prog 76 #[.slice a len cap, v0, F] w fun e w' => ∃ v', e = .returned v' ∧ R len v' ∧ Below w.heap.size w w' := by
  obtain ⟨kf, caps, hrun, rfl, hstep⟩ := hF
  have HL := hide hl
  have HS := hide hstep
  have HN := hide hlen
  clear hl hstep hlen
  go_enter Try.func76, Try.ntmps76
  go_wp2
  go_loopw [1, 11] (fun s i w' => ∃ k : Nat, k ≤ len ∧ i = .int .i64 k ∧ Hid (R k s) ∧ Below w.heap.size w w') (fun _ i _ => len - (intOf i).toNat)
  case atStart => exact ⟨0, Nat.zero_le _, rfl, h0, Below.refl _ _⟩
  case round =>
    obtain ⟨k, hk, rfl, hR, hbel⟩ := hrel
    by_cases hlt : k < len
    · obtain ⟨b, o, ha, hbl, c0, c1, c2, c3, c4, c5, c6, c7⟩ := (HL.out.keep hbel).at k (by rw [HN.out]; exact hlt)
      subst ha
      have hk0 : (0 : Int) ≤ (k : Int) := by omega
      have hkn : (k : Int) < (len : Int) := by omega
      go_wp2_with fail
      refine (HS.out k (by rw [HN.out]; exact hlt) _ _ hR.out (hbel.alloc hbel.size _)).mono ?_
      rintro e w2 ⟨v', rfl, hR2, hb2⟩
      have HR2 := hide hR2
      clear hR2
      go_wp2
      go_roundw
      case rel => exact ⟨k + 1, by omega, by go_num, HR2, bel_trans (hbel.alloc hbel.size _) hb2⟩
      case measure => simp [intOf]; omega
    · have : k = len := by omega
      subst this
      go_wp2
      go_ret
      exact ⟨_, rfl, hR, hbel⟩

set_option maxRecDepth 100000 in
set_option maxHeartbeats 400000 in
theorem fold50_any (a : Option Addr) (len cap : Nat) (l : List Wk) (v0 F : Value) (R : Nat → Value → Prop) (w : World) (hlen : l.length = len) (hn : len ≤ 2000000) (hl : WorksAt w a l)
    (hF : StepAt w F Wk.v l R) (h0 : R 0 v0) :
    Calls Try.prog 50 #[.slice a len cap, v0, F] w fun e w' => ∃ v', e = .returned v' ∧ R len v' ∧ Below w.heap.size w w' := by
  obtain ⟨kf, caps, hrun, rfl, hstep⟩ := hF
  have HL := hide hl
  have HS := hide hstep
  have HN := hide hlen
  clear hl hstep hlen
  go_enter Try.func50, Try.ntmps50
  go_wp2
  go_loopw [1, 11] (fun s i w' => ∃ k : Nat, k ≤ len ∧ i = .int .i64 k ∧ Hid (R k s) ∧ Below w.heap.size w w') (fun _ i _ => len - (intOf i).toNat)
  case atStart => exact ⟨0, Nat.zero_le _, rfl, h0, Below.refl _ _⟩
  case round =>
    obtain ⟨k, hk, rfl, hR, hbel⟩ := hrel
    by_cases hlt : k < len
    · obtain ⟨b, o, ha, hbl, c0, c1, c2, c3, c4, c5, c6, c7⟩ := (HL.out.keep hbel).at k (by rw [HN.out]; exact hlt)
      subst ha
      have hk0 : (0 : Int) ≤ (k : Int) := by omega
      have hkn : (k : Int) < (len : Int) := by omega
      go_wp2_with fail
      refine (HS.out k (by rw [HN.out]; exact hlt) _ _ hR.out (hbel.alloc hbel.size _)).mono ?_
      rintro e w2 ⟨v', rfl, hR2, hb2⟩
      have HR2 := hide hR2
      clear hR2
      go_wp2
      go_roundw
      case rel => exact ⟨k + 1, by omega, by go_num, HR2, bel_trans (hbel.alloc hbel.size _) hb2⟩
      case measure => simp [intOf]; omega
    · have : k = len := by omega
      subst this
      go_wp2
      go_ret
      exact ⟨_, rfl, hR, hbel⟩

set_option maxRecDepth 100000 in
set_option maxHeartbeats 400000 in
theorem fold47_any (a : Option Addr) (len cap : Nat) (l : List Gp) (v0 F : Value) (R : Nat → Value → Prop) (w : World) (hlen : l.length = len) (hn : len ≤ 2000000) (hl : GroupsAt w a l)
    (hF : StepAt w F Gp.v l R) (h0 : R 0 v0) :
    Calls Try.prog 47 #[.slice a len cap, v0, F] w fun e w' => ∃ v', e = .returned v' ∧ R len v' ∧ Below w.heap.size w w' := by
  obtain ⟨kf, caps, hrun, rfl, hstep⟩ := hF
  have HL := hide hl
  have HS := hide hstep
  have HN := hide hlen
  clear hl hstep hlen
  go_enter Try.func47, Try.ntmps47
  go_wp2
  go_loopw [1, 11] (fun s i w' => ∃ k : Nat, k ≤ len ∧ i = .int .i64 k ∧ Hid (R k s) ∧ Below w.heap.size w w') (fun _ i _ => len - (intOf i).toNat)
  case atStart => exact ⟨0, Nat.zero_le _, rfl, h0, Below.refl _ _⟩
  case round =>
    obtain ⟨k, hk, rfl, hR, hbel⟩ := hrel
    by_cases hlt : k < len
    · obtain ⟨b, o, ha, hbl, c0, c1, c2, c3, c4⟩ := (HL.out.keep hbel).at k (by rw [HN.out]; exact hlt)
      subst ha
      have hk0 : (0 : Int) ≤ (k : Int) := by omega
      have hkn : (k : Int) < (len : Int) := by omega
      go_wp2_with fail
      refine (HS.out k (by rw [HN.out]; exact hlt) _ _ hR.out (hbel.alloc hbel.size _)).mono ?_
      rintro e w2 ⟨v', rfl, hR2, hb2⟩
      have HR2 := hide hR2
      clear hR2
      go_wp2
      go_roundw
      case rel => exact ⟨k + 1, by omega, by go_num, HR2, bel_trans (hbel.alloc hbel.size _) hb2⟩
      case measure => simp [intOf]; omega
    · have : k = len := by omega
      subst this
      go_wp2
      go_ret
      exact ⟨_, rfl, hR, hbel⟩

set_option maxRecDepth 100000 in
set_option maxHeartbeats 400000 in
theorem fold52_any (a : Option Addr) (len cap : Nat) (l : List Gp) (v0 F : Value) (R : Nat → Value → Prop) (w : World) (hlen : l.length = len) (hn : len ≤ 2000000) (hl : GroupsAt w a l)
    (hF : StepAt w F Gp.v l R) (h0 : R 0 v0) :
    Calls Try.prog 52 #[.slice a len cap, v0, F] w fun e w' => ∃ v', e = .returned v' ∧ R len v' ∧ Below w.heap.size w w' := by
  obtain ⟨kf, caps, hrun, rfl, hstep⟩ := hF
  have HL := hide hl
  have HS := hide hstep
  have HN := hide hlen
  clear hl hstep hlen
  go_enter Try.func52, Try.ntmps52
  go_wp2
  go_loopw [1, 11] (fun s i w' => ∃ k : Nat, k ≤ len ∧ i = .int .i64 k ∧ Hid (R k s) ∧ Below w.heap.size w w') (fun _ i _ => len - (intOf i).toNat)
  case atStart => exact ⟨0, Nat.zero_le _, rfl, h0, Below.refl _ _⟩
  case round =>
    obtain ⟨k, hk, rfl, hR, hbel⟩ := hrel
    by_cases hlt : k < len
    · obtain ⟨b, o, ha, hbl, c0, c1, c2, c3, c4⟩ := (HL.out.keep hbel).at k (by rw [HN.out]; exact hlt)
      subst ha
      have hk0 : (0 : Int) ≤ (k : Int) := by omega
      have hkn : (k : Int) < (len : Int) := by omega
      go_wp2_with fail
      refine (HS.out k (by rw [HN.out]; exact hlt) _ _ hR.out (hbel.alloc hbel.size _)).mono ?_
      rintro e w2 ⟨v', rfl, hR2, hb2⟩
      have HR2 := hide hR2
      clear hR2
      go_wp2
      go_roundw
      case rel => exact ⟨k + 1, by omega, by go_num, HR2, bel_trans (hbel.alloc hbel.size _) hb2⟩
      case measure => simp [intOf]; omega
    · have : k = len := by omega
      subst this
      go_wp2
      go_ret
      exact ⟨_, rfl, hR, hbel⟩

set_option maxRecDepth 100000 in
set_option maxHeartbeats 400000 in
theorem fold54_any (a : Option Addr) (len cap : Nat) (l : List Wk) (x0 y0 : Int) (F : Value) (R : Nat → Value → Prop) (w : World) (hlen : l.length = len) (hn : len ≤ 2000000) (hl : WorksAt w a l)
    (hF : StepAt w F Wk.v l R) (h0 : R 0 (.agg #[.int .i64 x0, .int .i64 y0])) (hT : ∀ i v, R i v → ∃ x y : Int, v = .agg #[.int .i64 x, .int .i64 y]) :
    Calls Try.prog 54 #[.slice a len cap, .agg #[.int .i64 x0, .int .i64 y0], F] w fun e w' => ∃ v', e = .returned v' ∧ R len v' ∧ Below w.heap.size w w' := by
  obtain ⟨kf, caps, hrun, rfl, hstep⟩ := hF
  have HL := hide hl
  have HS := hide hstep
  have HN := hide hlen
  have HT := hide hT
  clear hl hstep hlen hT
  go_enter Try.func54, Try.ntmps54
  go_wp2
  go_loopw [11] (fun i w' => ∃ k : Nat, k ≤ len ∧ i = .int .i64 k ∧ ∃ x y : Int, Hid (R k (.agg #[.int .i64 x, .int .i64 y])) ∧ Below w.heap.size w w' ∧ w.heap.size + 2 ≤ w'.heap.size ∧ w'.cell? ⟨w.heap.size, 0, none⟩ = some (.int .i64 x) ∧ w'.cell? ⟨w.heap.size, 1, none⟩ = some (.int .i64 y) ∧
      w'.frozen? ⟨w.heap.size, 0, none⟩ = false ∧ w'.frozen? ⟨w.heap.size, 1, none⟩ = false ∧ (∃ u, w'.cell? ⟨w.heap.size + 1, 0, none⟩ = some u) ∧ (∃ u, w'.cell? ⟨w.heap.size + 1, 1, none⟩ = some u) ∧ w'.frozen? ⟨w.heap.size + 1, 0, none⟩ = false ∧ w'.frozen? ⟨w.heap.size + 1, 1, none⟩ = false) (fun i _ => len - (intOf i).toNat)
  case atStart =>
    refine ⟨0, Nat.zero_le _, rfl, x0, y0, h0, by go_grown, ?_⟩
    simp [go_sem]
  case round =>
    obtain ⟨k, hk, rfl, x, y, hR, hbel, hsz, s0, s1, f0, f1, ⟨u0, r0⟩, ⟨u1, r1⟩, g0, g1⟩ := hrel
    have z0 : w.heap.size < wr.heap.size := by omega
    have z1 : w.heap.size + 1 < wr.heap.size := by omega
    by_cases hlt : k < len
    · obtain ⟨b, o, ha, hbl, c0, c1, c2, c3, c4, c5, c6, c7⟩ := (HL.out.keep hbel).at k (by rw [HN.out]; exact hlt)
      subst ha
      have hk0 : (0 : Int) ≤ (k : Int) := by omega
      have hkn : (k : Int) < (len : Int) := by omega
      go_wp2_with fail
      refine (HS.out k (by rw [HN.out]; exact hlt) _ _ hR.out (hbel.alloc hbel.size _)).mono ?_
      rintro e w2 ⟨v', rfl, hR2, hb2⟩
      obtain ⟨x', y', rfl⟩ := HT.out _ _ hR2
      have HR2 := hide hR2
      clear hR2
      obtain ⟨hc, hf⟩ := bcell hb2
      have hs2 : wr.heap.size + 1 ≤ w2.heap.size := by have := hb2.size; simpa using this
      have z2 : w.heap.size < w2.heap.size := by omega
      have z3 : w.heap.size + 1 < w2.heap.size := by omega
      have d0 : w2.cell? ⟨w.heap.size, 0, none⟩ = some (.int .i64 x) := by rw [hc _ _ (by simp; omega)]; simp [*, go_sem]
      have d1 : w2.cell? ⟨w.heap.size, 1, none⟩ = some (.int .i64 y) := by rw [hc _ _ (by simp; omega)]; simp [*, go_sem]
      have d2 : w2.cell? ⟨w.heap.size + 1, 0, none⟩ = some u0 := by rw [hc _ _ (by simp; omega)]; simp [*, go_sem]
      have d3 : w2.cell? ⟨w.heap.size + 1, 1, none⟩ = some u1 := by rw [hc _ _ (by simp; omega)]; simp [*, go_sem]
      have e0 : w2.frozen? ⟨w.heap.size, 0, none⟩ = false := by rw [hf _ _ (by simp; omega)]; simp [*, go_sem]
      have e1 : w2.frozen? ⟨w.heap.size, 1, none⟩ = false := by rw [hf _ _ (by simp; omega)]; simp [*, go_sem]
      have e2 : w2.frozen? ⟨w.heap.size + 1, 0, none⟩ = false := by rw [hf _ _ (by simp; omega)]; simp [*, go_sem]
      have e3 : w2.frozen? ⟨w.heap.size + 1, 1, none⟩ = false := by rw [hf _ _ (by simp; omega)]; simp [*, go_sem]
      clear hc hf
      go_wp2
      go_roundw
      case rel =>
        refine ⟨k + 1, by omega, by go_num, x', y', HR2, ?_, ?_⟩
        · exact ((bel_trans (hbel.alloc hbel.size _) hb2).setCell (Nat.le_refl _) _).setCell (Nat.le_refl _) _
        · simp [*, go_sem]; omega
      case measure => simp [intOf]; omega
    · have : k = len := by omega
      subst this
      go_wp2
      refine bodyPost_ret (v := .agg #[.int .i64 x, .int .i64 y]) (by simp [results, Try.results54, go_sem, *]) rfl ⟨_, rfl, hR, ?_⟩
      exact (hbel.setCell (by simp) _).setCell (by simp) _

end Go.Proofs.Ytmcpggbibonolaa
