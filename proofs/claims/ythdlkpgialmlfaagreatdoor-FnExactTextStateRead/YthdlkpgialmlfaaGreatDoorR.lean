/- Lists of works and groups in memory; the folds over them. -/
import Derived.Test.YthdlkpgialmlfaaGreatDoorP
namespace Go.Proofs.YthdlkpgialmlfaaGreatDoor
open Go.RowKit

/-- The eight cells of a work. -/
def Wk.cell (x : Wk) : Nat → Int
  | 0 => x.cpu | 1 => x.mem | 2 => x.min | 3 => x.max | 4 => x.target | 5 => x.limit | 6 => x.tol | _ => x.rank
def Gp.cell (x : Gp) : Nat → Int
  | 0 => x.cpu | 1 => x.mem | 2 => x.min | 3 => x.max | _ => x.boot

/-- A slice of works reads as the list l. -/
def WorksAt (w : World) (a : Option Addr) (l : List Wk) : Prop :=
  l = [] ∨ ∃ b o, a = some ⟨b, o, none⟩ ∧ b < w.heap.size ∧ ∀ i (h : i < l.length) j, j < 8 → w.cell? ⟨b, o + i * 8 + j, none⟩ = some (.int .i64 (l[i].cell j))
def GroupsAt (w : World) (a : Option Addr) (l : List Gp) : Prop :=
  l = [] ∨ ∃ b o, a = some ⟨b, o, none⟩ ∧ b < w.heap.size ∧ ∀ i (h : i < l.length) j, j < 5 → w.cell? ⟨b, o + i * 5 + j, none⟩ = some (.int .i64 (l[i].cell j))

theorem WorksAt.keep {w w' : World} {a : Option Addr} {l : List Wk} (h : WorksAt w a l) (hb : Below w.heap.size w w') : WorksAt w' a l := by
  rcases h with h | ⟨b, o, ha, hl, hc⟩
  · exact .inl h
  · exact .inr ⟨b, o, ha, Nat.lt_of_lt_of_le hl hb.size, fun i h j hj => by rw [(bcell hb).1 _ _ hl]; exact hc i h j hj⟩
theorem GroupsAt.keep {w w' : World} {a : Option Addr} {l : List Gp} (h : GroupsAt w a l) (hb : Below w.heap.size w w') : GroupsAt w' a l := by
  rcases h with h | ⟨b, o, ha, hl, hc⟩
  · exact .inl h
  · exact .inr ⟨b, o, ha, Nat.lt_of_lt_of_le hl hb.size, fun i h j hj => by rw [(bcell hb).1 _ _ hl]; exact hc i h j hj⟩

/-- One work of the list, cell by cell. -/
theorem WorksAt.at {w : World} {a : Option Addr} {l : List Wk} (h : WorksAt w a l) (i : Nat) (hi : i < l.length) :
    ∃ b o, a = some ⟨b, o, none⟩ ∧ b < w.heap.size ∧
      w.cell? ⟨b, o + i * 8, none⟩ = some (.int .i64 l[i].cpu) ∧ w.cell? ⟨b, o + i * 8 + 1, none⟩ = some (.int .i64 l[i].mem) ∧ w.cell? ⟨b, o + i * 8 + 2, none⟩ = some (.int .i64 l[i].min) ∧ w.cell? ⟨b, o + i * 8 + 3, none⟩ = some (.int .i64 l[i].max) ∧
      w.cell? ⟨b, o + i * 8 + 4, none⟩ = some (.int .i64 l[i].target) ∧ w.cell? ⟨b, o + i * 8 + 5, none⟩ = some (.int .i64 l[i].limit) ∧ w.cell? ⟨b, o + i * 8 + 6, none⟩ = some (.int .i64 l[i].tol) ∧ w.cell? ⟨b, o + i * 8 + 7, none⟩ = some (.int .i64 l[i].rank) := by
  rcases h with h | ⟨b, o, ha, hl, hc⟩
  · subst h; simp at hi
  · exact ⟨b, o, ha, hl, hc i hi 0 (by omega), hc i hi 1 (by omega), hc i hi 2 (by omega), hc i hi 3 (by omega), hc i hi 4 (by omega), hc i hi 5 (by omega), hc i hi 6 (by omega), hc i hi 7 (by omega)⟩
theorem GroupsAt.at {w : World} {a : Option Addr} {l : List Gp} (h : GroupsAt w a l) (i : Nat) (hi : i < l.length) :
    ∃ b o, a = some ⟨b, o, none⟩ ∧ b < w.heap.size ∧
      w.cell? ⟨b, o + i * 5, none⟩ = some (.int .i64 l[i].cpu) ∧ w.cell? ⟨b, o + i * 5 + 1, none⟩ = some (.int .i64 l[i].mem) ∧ w.cell? ⟨b, o + i * 5 + 2, none⟩ = some (.int .i64 l[i].min) ∧ w.cell? ⟨b, o + i * 5 + 3, none⟩ = some (.int .i64 l[i].max) ∧
      w.cell? ⟨b, o + i * 5 + 4, none⟩ = some (.int .i64 l[i].boot) := by
  rcases h with h | ⟨b, o, ha, hl, hc⟩
  · subst h; simp at hi
  · exact ⟨b, o, ha, hl, hc i hi 0 (by omega), hc i hi 1 (by omega), hc i hi 2 (by omega), hc i hi 3 (by omega), hc i hi 4 (by omega)⟩

/-- A function value that steps an invariant along a list. -/
def StepAt {α : Type} (w0 : World) (F : Value) (enc : α → Value) (l : List α) (R : Nat → Value → Prop) : Prop :=
  ∃ k caps, (∀ args w, (callFunc k args).run Tryz.prog w = .ok (.enter k args) w) ∧ F = .func (.func k) #[] caps ∧
    ∀ i (h : i < l.length) v w, R i v → Below w0.heap.size w0 w → Calls Tryz.prog k (#[v, enc l[i]] ++ caps) w fun e w' => ∃ v', e = .returned v' ∧ R (i + 1) v' ∧ Below w.heap.size w w'

set_option maxRecDepth 100000 in
set_option maxHeartbeats 400000 in
theorem fold76_any (a : Option Addr) (len cap : Nat) (l : List Wk) (v0 F : Value) (R : Nat → Value → Prop) (w : World) (hlen : l.length = len) (hn : len ≤ 2000000) (hl : WorksAt w a l)
    (hF : StepAt w F Wk.v l R) (h0 : R 0 v0) :
    Calls Tryz.prog 85 #[.slice a len cap, v0, F] w fun e w' => ∃ v', e = .returned v' ∧ R len v' ∧ Below w.heap.size w w' := by
  obtain ⟨kf, caps, hrun, rfl, hstep⟩ := hF
  have HL := hide hl
  have HS := hide hstep
  have HN := hide hlen
  clear hl hstep hlen
  go_enter Tryz.func85, Tryz.ntmps85
  go_wp2
  go_loopw [1, 11] (fun s i w' => ∃ k : Nat, k ≤ len ∧ i = .int .i64 k ∧ Hid (R k s) ∧ Below w.heap.size w w') (fun _ i _ => len - (intOf i).toNat)
  case atStart => exact ⟨0, Nat.zero_le _, rfl, h0, Below.refl _ _⟩
  case round =>
    obtain ⟨k, hk, rfl, hR, hbel⟩ := hrel
    by_cases hlt : k < len
    · obtain ⟨b, o, ha, hbl, c0, c1, c2, c3, c4, c5, c6, c7⟩ := (HL.out.keep hbel).at k (by rw [HN.out]; exact hlt)
      subst ha
      have hk0 : (0 : Int) ≤ (k : Int) := by omega
      have hkn : (k : Int) < (len : Int) := by omega
      go_wp2_with fail
      refine (HS.out k (by rw [HN.out]; exact hlt) _ _ hR.out (hbel.alloc hbel.size _)).mono ?_
      rintro e w2 ⟨v', rfl, hR2, hb2⟩
      have HR2 := hide hR2
      clear hR2
      go_wp2
      go_roundw
      case rel => exact ⟨k + 1, by omega, by go_num, HR2, bel_trans (hbel.alloc hbel.size _) hb2⟩
      case measure => simp [intOf]; omega
    · have : k = len := by omega
      subst this
      go_wp2
      go_ret
      exact ⟨_, rfl, hR, hbel⟩

set_option maxRecDepth 100000 in
set_option maxHeartbeats 400000 in
theorem fold47_any (a : Option Addr) (len cap : Nat) (l : List Gp) (v0 F : Value) (R : Nat → Value → Prop) (w : World) (hlen : l.length = len) (hn : len ≤ 2000000) (hl : GroupsAt w a l)
    (hF : StepAt w F Gp.v l R) (h0 : R 0 v0) :
    Calls Tryz.prog 88 #[.slice a len cap, v0, F] w fun e w' => ∃ v', e = .returned v' ∧ R len v' ∧ Below w.heap.size w w' := by
  obtain ⟨kf, caps, hrun, rfl, hstep⟩ := hF
  have HL := hide hl
  have HS := hide hstep
  have HN := hide hlen
  clear hl hstep hlen
  go_enter Tryz.func88, Tryz.ntmps88
  go_wp2
  go_loopw [1, 11] (fun s i w' => ∃ k : Nat, k ≤ len ∧ i = .int .i64 k ∧ Hid (R k s) ∧ Below w.heap.size w w') (fun _ i _ => len - (intOf i).toNat)
  case atStart => exact ⟨0, Nat.zero_le _, rfl, h0, Below.refl _ _⟩
  case round =>
    obtain ⟨k, hk, rfl, hR, hbel⟩ := hrel
    by_cases hlt : k < len
    · obtain ⟨b, o, ha, hbl, c0, c1, c2, c3, c4⟩ := (HL.out.keep hbel).at k (by rw [HN.out]; exact hlt)
      subst ha
      have hk0 : (0 : Int) ≤ (k : Int) := by omega
      have hkn : (k : Int) < (len : Int) := by omega
      go_wp2_with fail
      refine (HS.out k (by rw [HN.out]; exact hlt) _ _ hR.out (hbel.alloc hbel.size _)).mono ?_
      rintro e w2 ⟨v', rfl, hR2, hb2⟩
      have HR2 := hide hR2
      clear hR2
      go_wp2
      go_roundw
      case rel => exact ⟨k + 1, by omega, by go_num, HR2, bel_trans (hbel.alloc hbel.size _) hb2⟩
      case measure => simp [intOf]; omega
    · have : k = len := by omega
      subst this
      go_wp2
      go_ret
      exact ⟨_, rfl, hR, hbel⟩

end Go.Proofs.YthdlkpgialmlfaaGreatDoor
