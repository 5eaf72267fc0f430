/- What there is: records, and lists of them in memory. -/
import Derived.Test.YthdlkpgialmlfaaGreatDoorLa
namespace Go.Proofs.YthdlkpgialmlfaaGreatDoor
open Go.RowKit

/-- A slice whose elements are m numbers each reads as the list l. -/
def RowsAt {α : Type} (m : Nat) (cell : α → Nat → Int) (w : World) (a : Option Addr) (l : List α) : Prop :=
  l = [] ∨ ∃ b o, a = some ⟨b, o, none⟩ ∧ b < w.heap.size ∧ ∀ i (h : i < l.length) j, j < m → w.cell? ⟨b, o + i * m + j, none⟩ = some (.int .i64 (cell l[i] j))

theorem RowsAt.keep {α : Type} {m : Nat} {cell : α → Nat → Int} {w w' : World} {a : Option Addr} {l : List α} (h : RowsAt m cell w a l) (hb : Below w.heap.size w w') : RowsAt m cell w' a l := by
  rcases h with h | ⟨b, o, ha, hl, hc⟩
  · exact .inl h
  · exact .inr ⟨b, o, ha, Nat.lt_of_lt_of_le hl hb.size, fun i h j hj => by rw [(bcell hb).1 _ _ hl]; exact hc i h j hj⟩
theorem RowsAt.keepB {α : Type} {m : Nat} {cell : α → Nat → Int} {w w' : World} {b o B : Nat} {l : List α} (h : RowsAt m cell w (some ⟨b, o, none⟩) l) (hb : Below B w w') (hB : b < B) : RowsAt m cell w' (some ⟨b, o, none⟩) l := by
  rcases h with h | ⟨b', o', ha, hl, hc⟩
  · exact .inl h
  · cases ha
    exact .inr ⟨b, o, rfl, Nat.lt_of_lt_of_le hl hb.size, fun i h j hj => by rw [hb.cell (p := ⟨b, _, none⟩) hB]; exact hc i h j hj⟩
theorem RowsAt.set {α : Type} {m : Nat} {cell : α → Nat → Int} {w : World} {b o : Nat} {l : List α} (h : RowsAt m cell w (some ⟨b, o, none⟩) l) {p : Addr} (hp : p.block ≠ b) (u : Value) : RowsAt m cell (w.setCell p u) (some ⟨b, o, none⟩) l := by
  rcases h with h | ⟨b', o', ha, hl, hc⟩
  · exact .inl h
  · cases ha
    refine .inr ⟨b, o, rfl, by simpa using hl, fun i h j hj => ?_⟩
    rw [World.cell?_of_block (Below.heap_setCell _ _ _ _ (by simpa using hp.symm))]
    exact hc i h j hj

structure Pd where
  (id work node nom wait : Int)
  deriving DecidableEq
abbrev Pd.v (x : Pd) : Value := .agg #[.int .i64 x.id, .int .i64 x.work, .int .i64 x.node, .int .i64 x.nom, .int .i64 x.wait]
def Pd.cell (x : Pd) : Nat → Int
  | 0 => x.id | 1 => x.work | 2 => x.node | 3 => x.nom | _ => x.wait
def PodsAt (w : World) (a : Option Addr) (l : List Pd) : Prop := RowsAt 5 Pd.cell w a l
theorem PodsAt.keep {w w' : World} {a : Option Addr} {l : List Pd} (h : PodsAt w a l) (hb : Below w.heap.size w w') : PodsAt w' a l := RowsAt.keep h hb
theorem PodsAt.keepB {w w' : World} {b o B : Nat} {l : List Pd} (h : PodsAt w (some ⟨b, o, none⟩) l) (hb : Below B w w') (hB : b < B) : PodsAt w' (some ⟨b, o, none⟩) l := RowsAt.keepB h hb hB
theorem PodsAt.at {w : World} {a : Option Addr} {l : List Pd} (h : PodsAt w a l) (i : Nat) (hi : i < l.length) :
    ∃ b o, a = some ⟨b, o, none⟩ ∧ b < w.heap.size ∧ w.cell? ⟨b, o + i * 5, none⟩ = some (.int .i64 l[i].id) ∧ w.cell? ⟨b, o + i * 5 + 1, none⟩ = some (.int .i64 l[i].work) ∧ w.cell? ⟨b, o + i * 5 + 2, none⟩ = some (.int .i64 l[i].node) ∧ w.cell? ⟨b, o + i * 5 + 3, none⟩ = some (.int .i64 l[i].nom) ∧ w.cell? ⟨b, o + i * 5 + 4, none⟩ = some (.int .i64 l[i].wait) := by
  rcases h with h | ⟨b, o, ha, hl, hc⟩
  · subst h; simp at hi
  · exact ⟨b, o, ha, hl, hc i hi 0 (by omega), hc i hi 1 (by omega), hc i hi 2 (by omega), hc i hi 3 (by omega), hc i hi 4 (by omega)⟩
theorem pd_ext (x y : Pd) : x = y ↔ x.id = y.id ∧ x.work = y.work ∧ x.node = y.node ∧ x.nom = y.nom ∧ x.wait = y.wait := by cases x; cases y; simp

structure Nd where
  (id group boot idle : Int)
  deriving DecidableEq
abbrev Nd.v (x : Nd) : Value := .agg #[.int .i64 x.id, .int .i64 x.group, .int .i64 x.boot, .int .i64 x.idle]
def Nd.cell (x : Nd) : Nat → Int
  | 0 => x.id | 1 => x.group | 2 => x.boot | _ => x.idle
def NodesAt (w : World) (a : Option Addr) (l : List Nd) : Prop := RowsAt 4 Nd.cell w a l
theorem NodesAt.keep {w w' : World} {a : Option Addr} {l : List Nd} (h : NodesAt w a l) (hb : Below w.heap.size w w') : NodesAt w' a l := RowsAt.keep h hb
theorem NodesAt.keepB {w w' : World} {b o B : Nat} {l : List Nd} (h : NodesAt w (some ⟨b, o, none⟩) l) (hb : Below B w w') (hB : b < B) : NodesAt w' (some ⟨b, o, none⟩) l := RowsAt.keepB h hb hB
theorem NodesAt.at {w : World} {a : Option Addr} {l : List Nd} (h : NodesAt w a l) (i : Nat) (hi : i < l.length) :
    ∃ b o, a = some ⟨b, o, none⟩ ∧ b < w.heap.size ∧ w.cell? ⟨b, o + i * 4, none⟩ = some (.int .i64 l[i].id) ∧ w.cell? ⟨b, o + i * 4 + 1, none⟩ = some (.int .i64 l[i].group) ∧ w.cell? ⟨b, o + i * 4 + 2, none⟩ = some (.int .i64 l[i].boot) ∧ w.cell? ⟨b, o + i * 4 + 3, none⟩ = some (.int .i64 l[i].idle) := by
  rcases h with h | ⟨b, o, ha, hl, hc⟩
  · subst h; simp at hi
  · exact ⟨b, o, ha, hl, hc i hi 0 (by omega), hc i hi 1 (by omega), hc i hi 2 (by omega), hc i hi 3 (by omega)⟩
theorem nd_ext (x y : Nd) : x = y ↔ x.id = y.id ∧ x.group = y.group ∧ x.boot = y.boot ∧ x.idle = y.idle := by cases x; cases y; simp

structure Ws where
  (want load low : Int)
  deriving DecidableEq
abbrev Ws.v (x : Ws) : Value := .agg #[.int .i64 x.want, .int .i64 x.load, .int .i64 x.low]
def Ws.cell (x : Ws) : Nat → Int
  | 0 => x.want | 1 => x.load | _ => x.low
def WssAt (w : World) (a : Option Addr) (l : List Ws) : Prop := RowsAt 3 Ws.cell w a l
theorem WssAt.keep {w w' : World} {a : Option Addr} {l : List Ws} (h : WssAt w a l) (hb : Below w.heap.size w w') : WssAt w' a l := RowsAt.keep h hb
theorem WssAt.keepB {w w' : World} {b o B : Nat} {l : List Ws} (h : WssAt w (some ⟨b, o, none⟩) l) (hb : Below B w w') (hB : b < B) : WssAt w' (some ⟨b, o, none⟩) l := RowsAt.keepB h hb hB
theorem WssAt.at {w : World} {a : Option Addr} {l : List Ws} (h : WssAt w a l) (i : Nat) (hi : i < l.length) :
    ∃ b o, a = some ⟨b, o, none⟩ ∧ b < w.heap.size ∧ w.cell? ⟨b, o + i * 3, none⟩ = some (.int .i64 l[i].want) ∧ w.cell? ⟨b, o + i * 3 + 1, none⟩ = some (.int .i64 l[i].load) ∧ w.cell? ⟨b, o + i * 3 + 2, none⟩ = some (.int .i64 l[i].low) := by
  rcases h with h | ⟨b, o, ha, hl, hc⟩
  · subst h; simp at hi
  · exact ⟨b, o, ha, hl, hc i hi 0 (by omega), hc i hi 1 (by omega), hc i hi 2 (by omega)⟩
theorem ws_ext (x y : Ws) : x = y ↔ x.want = y.want ∧ x.load = y.load ∧ x.low = y.low := by cases x; cases y; simp

structure Gs where
  (asked rest fails : Int)
  deriving DecidableEq
abbrev Gs.v (x : Gs) : Value := .agg #[.int .i64 x.asked, .int .i64 x.rest, .int .i64 x.fails]
def Gs.cell (x : Gs) : Nat → Int
  | 0 => x.asked | 1 => x.rest | _ => x.fails
def GssAt (w : World) (a : Option Addr) (l : List Gs) : Prop := RowsAt 3 Gs.cell w a l
theorem GssAt.keep {w w' : World} {a : Option Addr} {l : List Gs} (h : GssAt w a l) (hb : Below w.heap.size w w') : GssAt w' a l := RowsAt.keep h hb
theorem GssAt.keepB {w w' : World} {b o B : Nat} {l : List Gs} (h : GssAt w (some ⟨b, o, none⟩) l) (hb : Below B w w') (hB : b < B) : GssAt w' (some ⟨b, o, none⟩) l := RowsAt.keepB h hb hB
theorem GssAt.at {w : World} {a : Option Addr} {l : List Gs} (h : GssAt w a l) (i : Nat) (hi : i < l.length) :
    ∃ b o, a = some ⟨b, o, none⟩ ∧ b < w.heap.size ∧ w.cell? ⟨b, o + i * 3, none⟩ = some (.int .i64 l[i].asked) ∧ w.cell? ⟨b, o + i * 3 + 1, none⟩ = some (.int .i64 l[i].rest) ∧ w.cell? ⟨b, o + i * 3 + 2, none⟩ = some (.int .i64 l[i].fails) := by
  rcases h with h | ⟨b, o, ha, hl, hc⟩
  · subst h; simp at hi
  · exact ⟨b, o, ha, hl, hc i hi 0 (by omega), hc i hi 1 (by omega), hc i hi 2 (by omega)⟩
theorem gs_ext (x y : Gs) : x = y ↔ x.asked = y.asked ∧ x.rest = y.rest ∧ x.fails = y.fails := by cases x; cases y; simp

structure St where
  pods : List Pd
  nodes : List Nd
  works : List Ws
  groups : List Gs
  (nextPod nextNode : Int)
  deriving DecidableEq

/-- A value that reads, in this world, as what there is. -/
def StateAt (w : World) (v : Value) (s : St) : Prop :=
  ∃ a1 l1 c1 a2 l2 c2 a3 l3 c3 a4 l4 c4, v = .agg #[.slice a1 l1 c1, .slice a2 l2 c2, .slice a3 l3 c3, .slice a4 l4 c4, .int .i64 s.nextPod, .int .i64 s.nextNode] ∧
    (s.pods.length = l1 ∧ l1 ≤ 2000000 ∧ PodsAt w a1 s.pods) ∧ (s.nodes.length = l2 ∧ l2 ≤ 2000000 ∧ NodesAt w a2 s.nodes) ∧ (s.works.length = l3 ∧ l3 ≤ 2000000 ∧ WssAt w a3 s.works) ∧ (s.groups.length = l4 ∧ l4 ≤ 2000000 ∧ GssAt w a4 s.groups)
theorem StateAt.keep {w w' : World} {v : Value} {s : St} (h : StateAt w v s) (hb : Below w.heap.size w w') : StateAt w' v s := by
  obtain ⟨a1, l1, c1, a2, l2, c2, a3, l3, c3, a4, l4, c4, hv, ⟨p1, p2, p3⟩, ⟨q1, q2, q3⟩, ⟨r1, r2, r3⟩, s1, s2, s3⟩ := h
  exact ⟨a1, l1, c1, a2, l2, c2, a3, l3, c3, a4, l4, c4, hv, ⟨p1, p2, p3.keep hb⟩, ⟨q1, q2, q3.keep hb⟩, ⟨r1, r2, r3.keep hb⟩, s1, s2, s3.keep hb⟩
end Go.Proofs.YthdlkpgialmlfaaGreatDoor
