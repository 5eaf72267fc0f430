/- Texts: a line of what there is, as the document reads it. -/
import Derived.Test.YthdlkpgialmlfaaGreatDoorTp
import Derived.Test.YthdlkpgialmlfaaGreatDoorTq
import Derived.Test.YthdlkpgialmlfaaGreatDoorX
import Derived.Test.YthdlkpgialmlfaaGreatDoorTz
namespace Go.Proofs.YthdlkpgialmlfaaGreatDoor
open Go.RowKit

theorem three_of {xs : List Int} (h : xs.length = 3) : ∃ a b c, xs = [a, b, c] := by
  match xs, h with
  | [a, b, c], _ => exact ⟨a, b, c, rfl⟩
theorem four_of {xs : List Int} (h : xs.length = 4) : ∃ a b c d, xs = [a, b, c, d] := by
  match xs, h with
  | [a, b, c, d], _ => exact ⟨a, b, c, d, rfl⟩
theorem five_of {xs : List Int} (h : xs.length = 5) : ∃ a b c d e, xs = [a, b, c, d, e] := by
  match xs, h with
  | [a, b, c, d, e], _ => exact ⟨a, b, c, d, e, rfl⟩
def own4 (vp vn vw vg : Value) (k : Nat) : Prop := vp.ownBlock = some k ∨ vn.ownBlock = some k ∨ vw.ownBlock = some k ∨ vg.ownBlock = some k
/-- What there is, with rows of one's own. -/
structure OS (w : World) (B : Nat) (vp vn vw vg : Value) (s : St) : Prop where
  P : Owns 5 Pd.cell 100 B w vp s.pods
  N : Owns 4 Nd.cell 98 B w vn s.nodes
  W : Owns 3 Ws.cell 94 B w vw s.works
  G : Owns 3 Gs.cell 96 B w vg s.groups
  nPN : ∀ k, vp.ownBlock = some k → vn.ownBlock ≠ some k
  nPW : ∀ k, vp.ownBlock = some k → vw.ownBlock ≠ some k
  nPG : ∀ k, vp.ownBlock = some k → vg.ownBlock ≠ some k
  nNW : ∀ k, vn.ownBlock = some k → vw.ownBlock ≠ some k
  nNG : ∀ k, vn.ownBlock = some k → vg.ownBlock ≠ some k
  nWG : ∀ k, vw.ownBlock = some k → vg.ownBlock ≠ some k
section
variable {w w' : World} {B : Nat} {vp vn vw vg : Value} {s : St}
theorem OS.keep (h : OS w B vp vn vw vg s) (hb : Below w.heap.size w w') : OS w' B vp vn vw vg s := ⟨h.P.keep hb, h.N.keep hb, h.W.keep hb, h.G.keep hb, h.nPN, h.nPW, h.nPG, h.nNW, h.nNG, h.nWG⟩
theorem OS.only {S : Nat → Prop} (h : OS w B vp vn vw vg s) (ho : Only S w w') (hS : ∀ k, own4 vp vn vw vg k → ¬ S k) : OS w' B vp vn vw vg s :=
  ⟨h.P.only ho (fun k hk => hS k (.inl hk)), h.N.only ho (fun k hk => hS k (.inr (.inl hk))), h.W.only ho (fun k hk => hS k (.inr (.inr (.inl hk)))), h.G.only ho (fun k hk => hS k (.inr (.inr (.inr hk)))), h.nPN, h.nPW, h.nPG, h.nNW, h.nNG, h.nWG⟩
theorem OS.base {B' : Nat} (h : OS w B vp vn vw vg s) (hb : B' ≤ B) : OS w B' vp vn vw vg s := ⟨h.P.mono hb, h.N.mono hb, h.W.mono hb, h.G.mono hb, h.nPN, h.nPW, h.nPG, h.nNW, h.nNG, h.nWG⟩
theorem OS.lt (h : OS w B vp vn vw vg s) : ∀ k, own4 vp vn vw vg k → B ≤ k ∧ k < w.heap.size := fun k hk => by
  rcases hk with hk | hk | hk | hk
  · exact h.P.lt k hk
  · exact h.N.lt k hk
  · exact h.W.lt k hk
  · exact h.G.lt k hk
theorem OS.far (h : OS w B vp vn vw vg s) {b i : Nat} (hb : ¬ own4 vp vn vw vg b) (u : Value) : OS (w.setCell ⟨b, i, none⟩ u) B vp vn vw vg s :=
  ⟨h.P.far (p := ⟨b, i, none⟩) u (fun k hk e => hb (by have e2 : k = b := e; subst e2; exact .inl hk)), h.N.far (p := ⟨b, i, none⟩) u (fun k hk e => hb (by have e2 : k = b := e; subst e2; exact .inr (.inl hk))), h.W.far (p := ⟨b, i, none⟩) u (fun k hk e => hb (by have e2 : k = b := e; subst e2; exact .inr (.inr (.inl hk)))), h.G.far (p := ⟨b, i, none⟩) u (fun k hk e => hb (by have e2 : k = b := e; subst e2; exact .inr (.inr (.inr hk)))), h.nPN, h.nPW, h.nPG, h.nNW, h.nNG, h.nWG⟩
theorem OS.far6 (h : OS w B vp vn vw vg s) {b : Nat} (hb : ¬ own4 vp vn vw vg b) (u0 u1 u2 u3 u4 u5 : Value) : OS ((((((w.setCell ⟨b, 0, none⟩ u0).setCell ⟨b, 1, none⟩ u1).setCell ⟨b, 2, none⟩ u2).setCell ⟨b, 3, none⟩ u3).setCell ⟨b, 4, none⟩ u4).setCell ⟨b, 5, none⟩ u5) B vp vn vw vg s :=
  (((((h.far hb u0).far hb u1).far hb u2).far hb u3).far hb u4).far hb u5
theorem OS.farB (h : OS w B vp vn vw vg s) {b : Nat} (hb : b < B) (u0 u1 u2 u3 u4 u5 : Value) : OS ((((((w.setCell ⟨b, 0, none⟩ u0).setCell ⟨b, 1, none⟩ u1).setCell ⟨b, 2, none⟩ u2).setCell ⟨b, 3, none⟩ u3).setCell ⟨b, 4, none⟩ u4).setCell ⟨b, 5, none⟩ u5) B vp vn vw vg s :=
  h.far6 (fun e => by have := (h.lt b e).1; omega) u0 u1 u2 u3 u4 u5
theorem OS.far1 (h : OS w B vp vn vw vg s) {b i : Nat} (hb : b < B) (u : Value) : OS (w.setCell ⟨b, i, none⟩ u) B vp vn vw vg s :=
  h.far (fun e => by have := (h.lt b e).1; omega) u
theorem OS.state (h : OS w B vp vn vw vg s) (h1 : s.pods.length ≤ 2000000) (h2 : s.nodes.length ≤ 2000000) (h3 : s.works.length ≤ 2000000) (h4 : s.groups.length ≤ 2000000) : StateAt w (.agg #[vp, vn, vw, vg, .int .i64 s.nextPod, .int .i64 s.nextNode]) s := by
  obtain ⟨a0, c0, rfl, g0⟩ := h.P.form
  obtain ⟨a1, c1, rfl, g1⟩ := h.N.form
  obtain ⟨a2, c2, rfl, g2⟩ := h.W.form
  obtain ⟨a3, c3, rfl, g3⟩ := h.G.form
  exact ⟨a0, _, c0, a1, _, c1, a2, _, c2, a3, _, c3, rfl, ⟨rfl, h1, g0⟩, ⟨rfl, h2, g1⟩, ⟨rfl, h3, g2⟩, ⟨rfl, h4, g3⟩⟩
end
theorem OS.nil (w : World) (B : Nat) (s : St) (h1 : s.pods = []) (h2 : s.nodes = []) (h3 : s.works = []) (h4 : s.groups = []) : OS w B (.slice none 0 0) (.slice none 0 0) (.slice none 0 0) (.slice none 0 0) s := by
  refine ⟨?_, ?_, ?_, ?_, fun k hk => (by cases hk), fun k hk => (by cases hk), fun k hk => (by cases hk), fun k hk => (by cases hk), fun k hk => (by cases hk), fun k hk => (by cases hk)⟩
  · unfold Owns
    rw [h1]
    exact ⟨rfl, .inl ⟨rfl, rfl⟩⟩
  · unfold Owns
    rw [h2]
    exact ⟨rfl, .inl ⟨rfl, rfl⟩⟩
  · unfold Owns
    rw [h3]
    exact ⟨rfl, .inl ⟨rfl, rfl⟩⟩
  · unfold Owns
    rw [h4]
    exact ⟨rfl, .inl ⟨rfl, rfl⟩⟩
abbrev sva (vp vn vw vg : Value) (s : St) : Array Value := #[vp, vn, vw, vg, .int .i64 s.nextPod, .int .i64 s.nextNode]
abbrev svl (vp vn vw vg : Value) (s : St) : Value := .agg (sva vp vn vw vg s)
abbrev svz : Array Value := #[.slice none 0 0, .slice none 0 0, .slice none 0 0, .slice none 0 0, .int .i64 0, .int .i64 0]
theorem os_pod {w w2 w3 : World} {B bx TB : Nat} {vp vn vw vg v' : Value} {s : St} {x : Pd} {cs : Array Value} (hb : Below w.heap.size w w2) (h : OS w2 B vp vn vw vg s) (hlt : ∀ k, own4 vp vn vw vg k → k < w.heap.size)
    (hq : AQ 5 Pd.cell 100 B w2 vp s.pods x bx TB w3 v' cs) (hx : w.heap.size ≤ bx) :
    OS w3 B v' vn vw vg { s with pods := s.pods ++ [x] } ∧ (∀ k, own4 v' vn vw vg k → own4 vp vn vw vg k ∨ w.heap.size ≤ k) ∧ Only (own4 vp vn vw vg) w w3 ∧ (∀ k, own4 v' vn vw vg k → k < w.heap.size ∨ w2.heap.size ≤ k) := by
  have hs := hb.size
  have hf : ∀ k, v'.ownBlock = some k → vp.ownBlock = some k ∨ w2.heap.size ≤ k := fun k hk => by
    rcases hq.from' with h1 | ⟨k', h1, h2⟩
    · exact .inl (h1 ▸ hk)
    · rw [h1] at hk; cases hk; exact .inr h2
  have hO1 : Owns 4 Nd.cell 98 B w3 vn s.nodes := h.N.only hq.only (fun k hk e => e.elim (fun e => h.nPN _ e hk) (fun e => by have := hlt k (.inr (.inl hk)); omega))
  have hN1 : ∀ k, v'.ownBlock = some k → vn.ownBlock ≠ some k := fun k hk hk' => by
    rcases hf k hk with h1 | h1
    · exact h.nPN _ h1 hk'
    · have := hlt k (.inr (.inl hk')); omega
  have hO2 : Owns 3 Ws.cell 94 B w3 vw s.works := h.W.only hq.only (fun k hk e => e.elim (fun e => h.nPW _ e hk) (fun e => by have := hlt k (.inr (.inr (.inl hk))); omega))
  have hN2 : ∀ k, v'.ownBlock = some k → vw.ownBlock ≠ some k := fun k hk hk' => by
    rcases hf k hk with h1 | h1
    · exact h.nPW _ h1 hk'
    · have := hlt k (.inr (.inr (.inl hk'))); omega
  have hO3 : Owns 3 Gs.cell 96 B w3 vg s.groups := h.G.only hq.only (fun k hk e => e.elim (fun e => h.nPG _ e hk) (fun e => by have := hlt k (.inr (.inr (.inr hk))); omega))
  have hN3 : ∀ k, v'.ownBlock = some k → vg.ownBlock ≠ some k := fun k hk hk' => by
    rcases hf k hk with h1 | h1
    · exact h.nPG _ h1 hk'
    · have := hlt k (.inr (.inr (.inr hk'))); omega
  refine ⟨⟨hq.own, hO1, hO2, hO3, hN1, hN2, hN3, h.nNW, h.nNG, h.nWG⟩, fun k hk => ?_, Only.from_ hb hq.only (fun k hk hS => hS.elim (fun e => .inl e) (fun e => by omega)), fun k hk => ?_⟩
  · rcases hk with hk | hk | hk | hk
    · rcases hf k hk with h1 | h1
      · exact .inl (.inl h1)
      · exact .inr (by omega)
    · exact .inl (.inr (.inl hk))
    · exact .inl (.inr (.inr (.inl hk)))
    · exact .inl (.inr (.inr (.inr hk)))
  · rcases hk with hk | hk | hk | hk
    · rcases hf k hk with h1 | h1
      · exact .inl (hlt k (.inl h1))
      · exact .inr h1
    · exact .inl (hlt k (.inr (.inl hk)))
    · exact .inl (hlt k (.inr (.inr (.inl hk))))
    · exact .inl (hlt k (.inr (.inr (.inr hk))))
theorem os_node {w w2 w3 : World} {B bx TB : Nat} {vp vn vw vg v' : Value} {s : St} {x : Nd} {cs : Array Value} (hb : Below w.heap.size w w2) (h : OS w2 B vp vn vw vg s) (hlt : ∀ k, own4 vp vn vw vg k → k < w.heap.size)
    (hq : AQ 4 Nd.cell 98 B w2 vn s.nodes x bx TB w3 v' cs) (hx : w.heap.size ≤ bx) :
    OS w3 B vp v' vw vg { s with nodes := s.nodes ++ [x] } ∧ (∀ k, own4 vp v' vw vg k → own4 vp vn vw vg k ∨ w.heap.size ≤ k) ∧ Only (own4 vp vn vw vg) w w3 ∧ (∀ k, own4 vp v' vw vg k → k < w.heap.size ∨ w2.heap.size ≤ k) := by
  have hs := hb.size
  have hf : ∀ k, v'.ownBlock = some k → vn.ownBlock = some k ∨ w2.heap.size ≤ k := fun k hk => by
    rcases hq.from' with h1 | ⟨k', h1, h2⟩
    · exact .inl (h1 ▸ hk)
    · rw [h1] at hk; cases hk; exact .inr h2
  have hO0 : Owns 5 Pd.cell 100 B w3 vp s.pods := h.P.only hq.only (fun k hk e => e.elim (fun e => h.nPN _ hk e) (fun e => by have := hlt k (.inl hk); omega))
  have hN0 : ∀ k, v'.ownBlock = some k → vp.ownBlock ≠ some k := fun k hk hk' => by
    rcases hf k hk with h1 | h1
    · exact h.nPN _ hk' h1
    · have := hlt k (.inl hk'); omega
  have hO2 : Owns 3 Ws.cell 94 B w3 vw s.works := h.W.only hq.only (fun k hk e => e.elim (fun e => h.nNW _ e hk) (fun e => by have := hlt k (.inr (.inr (.inl hk))); omega))
  have hN2 : ∀ k, v'.ownBlock = some k → vw.ownBlock ≠ some k := fun k hk hk' => by
    rcases hf k hk with h1 | h1
    · exact h.nNW _ h1 hk'
    · have := hlt k (.inr (.inr (.inl hk'))); omega
  have hO3 : Owns 3 Gs.cell 96 B w3 vg s.groups := h.G.only hq.only (fun k hk e => e.elim (fun e => h.nNG _ e hk) (fun e => by have := hlt k (.inr (.inr (.inr hk))); omega))
  have hN3 : ∀ k, v'.ownBlock = some k → vg.ownBlock ≠ some k := fun k hk hk' => by
    rcases hf k hk with h1 | h1
    · exact h.nNG _ h1 hk'
    · have := hlt k (.inr (.inr (.inr hk'))); omega
  refine ⟨⟨hO0, hq.own, hO2, hO3, fun k hk hk' => hN0 k hk' hk, h.nPW, h.nPG, hN2, hN3, h.nWG⟩, fun k hk => ?_, Only.from_ hb hq.only (fun k hk hS => hS.elim (fun e => .inr (.inl e)) (fun e => by omega)), fun k hk => ?_⟩
  · rcases hk with hk | hk | hk | hk
    · exact .inl (.inl hk)
    · rcases hf k hk with h1 | h1
      · exact .inl (.inr (.inl h1))
      · exact .inr (by omega)
    · exact .inl (.inr (.inr (.inl hk)))
    · exact .inl (.inr (.inr (.inr hk)))
  · rcases hk with hk | hk | hk | hk
    · exact .inl (hlt k (.inl hk))
    · rcases hf k hk with h1 | h1
      · exact .inl (hlt k (.inr (.inl h1)))
      · exact .inr h1
    · exact .inl (hlt k (.inr (.inr (.inl hk))))
    · exact .inl (hlt k (.inr (.inr (.inr hk))))
theorem os_work {w w2 w3 : World} {B bx TB : Nat} {vp vn vw vg v' : Value} {s : St} {x : Ws} {cs : Array Value} (hb : Below w.heap.size w w2) (h : OS w2 B vp vn vw vg s) (hlt : ∀ k, own4 vp vn vw vg k → k < w.heap.size)
    (hq : AQ 3 Ws.cell 94 B w2 vw s.works x bx TB w3 v' cs) (hx : w.heap.size ≤ bx) :
    OS w3 B vp vn v' vg { s with works := s.works ++ [x] } ∧ (∀ k, own4 vp vn v' vg k → own4 vp vn vw vg k ∨ w.heap.size ≤ k) ∧ Only (own4 vp vn vw vg) w w3 ∧ (∀ k, own4 vp vn v' vg k → k < w.heap.size ∨ w2.heap.size ≤ k) := by
  have hs := hb.size
  have hf : ∀ k, v'.ownBlock = some k → vw.ownBlock = some k ∨ w2.heap.size ≤ k := fun k hk => by
    rcases hq.from' with h1 | ⟨k', h1, h2⟩
    · exact .inl (h1 ▸ hk)
    · rw [h1] at hk; cases hk; exact .inr h2
  have hO0 : Owns 5 Pd.cell 100 B w3 vp s.pods := h.P.only hq.only (fun k hk e => e.elim (fun e => h.nPW _ hk e) (fun e => by have := hlt k (.inl hk); omega))
  have hN0 : ∀ k, v'.ownBlock = some k → vp.ownBlock ≠ some k := fun k hk hk' => by
    rcases hf k hk with h1 | h1
    · exact h.nPW _ hk' h1
    · have := hlt k (.inl hk'); omega
  have hO1 : Owns 4 Nd.cell 98 B w3 vn s.nodes := h.N.only hq.only (fun k hk e => e.elim (fun e => h.nNW _ hk e) (fun e => by have := hlt k (.inr (.inl hk)); omega))
  have hN1 : ∀ k, v'.ownBlock = some k → vn.ownBlock ≠ some k := fun k hk hk' => by
    rcases hf k hk with h1 | h1
    · exact h.nNW _ hk' h1
    · have := hlt k (.inr (.inl hk')); omega
  have hO3 : Owns 3 Gs.cell 96 B w3 vg s.groups := h.G.only hq.only (fun k hk e => e.elim (fun e => h.nWG _ e hk) (fun e => by have := hlt k (.inr (.inr (.inr hk))); omega))
  have hN3 : ∀ k, v'.ownBlock = some k → vg.ownBlock ≠ some k := fun k hk hk' => by
    rcases hf k hk with h1 | h1
    · exact h.nWG _ h1 hk'
    · have := hlt k (.inr (.inr (.inr hk'))); omega
  refine ⟨⟨hO0, hO1, hq.own, hO3, h.nPN, fun k hk hk' => hN0 k hk' hk, h.nPG, fun k hk hk' => hN1 k hk' hk, h.nNG, hN3⟩, fun k hk => ?_, Only.from_ hb hq.only (fun k hk hS => hS.elim (fun e => .inr (.inr (.inl e))) (fun e => by omega)), fun k hk => ?_⟩
  · rcases hk with hk | hk | hk | hk
    · exact .inl (.inl hk)
    · exact .inl (.inr (.inl hk))
    · rcases hf k hk with h1 | h1
      · exact .inl (.inr (.inr (.inl h1)))
      · exact .inr (by omega)
    · exact .inl (.inr (.inr (.inr hk)))
  · rcases hk with hk | hk | hk | hk
    · exact .inl (hlt k (.inl hk))
    · exact .inl (hlt k (.inr (.inl hk)))
    · rcases hf k hk with h1 | h1
      · exact .inl (hlt k (.inr (.inr (.inl h1))))
      · exact .inr h1
    · exact .inl (hlt k (.inr (.inr (.inr hk))))
theorem os_group {w w2 w3 : World} {B bx TB : Nat} {vp vn vw vg v' : Value} {s : St} {x : Gs} {cs : Array Value} (hb : Below w.heap.size w w2) (h : OS w2 B vp vn vw vg s) (hlt : ∀ k, own4 vp vn vw vg k → k < w.heap.size)
    (hq : AQ 3 Gs.cell 96 B w2 vg s.groups x bx TB w3 v' cs) (hx : w.heap.size ≤ bx) :
    OS w3 B vp vn vw v' { s with groups := s.groups ++ [x] } ∧ (∀ k, own4 vp vn vw v' k → own4 vp vn vw vg k ∨ w.heap.size ≤ k) ∧ Only (own4 vp vn vw vg) w w3 ∧ (∀ k, own4 vp vn vw v' k → k < w.heap.size ∨ w2.heap.size ≤ k) := by
  have hs := hb.size
  have hf : ∀ k, v'.ownBlock = some k → vg.ownBlock = some k ∨ w2.heap.size ≤ k := fun k hk => by
    rcases hq.from' with h1 | ⟨k', h1, h2⟩
    · exact .inl (h1 ▸ hk)
    · rw [h1] at hk; cases hk; exact .inr h2
  have hO0 : Owns 5 Pd.cell 100 B w3 vp s.pods := h.P.only hq.only (fun k hk e => e.elim (fun e => h.nPG _ hk e) (fun e => by have := hlt k (.inl hk); omega))
  have hN0 : ∀ k, v'.ownBlock = some k → vp.ownBlock ≠ some k := fun k hk hk' => by
    rcases hf k hk with h1 | h1
    · exact h.nPG _ hk' h1
    · have := hlt k (.inl hk'); omega
  have hO1 : Owns 4 Nd.cell 98 B w3 vn s.nodes := h.N.only hq.only (fun k hk e => e.elim (fun e => h.nNG _ hk e) (fun e => by have := hlt k (.inr (.inl hk)); omega))
  have hN1 : ∀ k, v'.ownBlock = some k → vn.ownBlock ≠ some k := fun k hk hk' => by
    rcases hf k hk with h1 | h1
    · exact h.nNG _ hk' h1
    · have := hlt k (.inr (.inl hk')); omega
  have hO2 : Owns 3 Ws.cell 94 B w3 vw s.works := h.W.only hq.only (fun k hk e => e.elim (fun e => h.nWG _ hk e) (fun e => by have := hlt k (.inr (.inr (.inl hk))); omega))
  have hN2 : ∀ k, v'.ownBlock = some k → vw.ownBlock ≠ some k := fun k hk hk' => by
    rcases hf k hk with h1 | h1
    · exact h.nWG _ hk' h1
    · have := hlt k (.inr (.inr (.inl hk'))); omega
  refine ⟨⟨hO0, hO1, hO2, hq.own, h.nPN, h.nPW, fun k hk hk' => hN0 k hk' hk, h.nNW, fun k hk hk' => hN1 k hk' hk, fun k hk hk' => hN2 k hk' hk⟩, fun k hk => ?_, Only.from_ hb hq.only (fun k hk hS => hS.elim (fun e => .inr (.inr (.inr e))) (fun e => by omega)), fun k hk => ?_⟩
  · rcases hk with hk | hk | hk | hk
    · exact .inl (.inl hk)
    · exact .inl (.inr (.inl hk))
    · exact .inl (.inr (.inr (.inl hk)))
    · rcases hf k hk with h1 | h1
      · exact .inl (.inr (.inr (.inr h1)))
      · exact .inr (by omega)
  · rcases hk with hk | hk | hk | hk
    · exact .inl (hlt k (.inl hk))
    · exact .inl (hlt k (.inr (.inl hk)))
    · exact .inl (hlt k (.inr (.inr (.inl hk))))
    · rcases hf k hk with h1 | h1
      · exact .inl (hlt k (.inr (.inr (.inr h1))))
      · exact .inr h1
theorem own4_lt {w : World} {B : Nat} {vp vn vw vg : Value} {s : St} (h : OS w B vp vn vw vg s) {k : Nat} (hk : w.heap.size ≤ k) : ¬ own4 vp vn vw vg k := fun e => by have := (h.lt k e).2; omega
theorem info94 : ∃ i, Tryz.prog.info? 94 = some i ∧ i.zero = some (.agg #[.int .i64 0, .int .i64 0, .int .i64 0]) ∧ i.size = 3 ∧ i.bytes = 24 := by
  have h : (Tryz.prog.info? 94).map (fun i => (i.zero, i.size, i.bytes)) = some (some (.agg #[.int .i64 0, .int .i64 0, .int .i64 0]), 3, 24) := by kernel_rfl
  cases hi : Tryz.prog.info? 94 with
  | none => rw [hi] at h; cases h
  | some i =>
    rw [hi] at h
    simp only [Option.map_some, Option.some.injEq, Prod.mk.injEq] at h
    exact ⟨i, rfl, h.1, h.2.1, h.2.2⟩
theorem info96 : ∃ i, Tryz.prog.info? 96 = some i ∧ i.zero = some (.agg #[.int .i64 0, .int .i64 0, .int .i64 0]) ∧ i.size = 3 ∧ i.bytes = 24 := by
  have h : (Tryz.prog.info? 96).map (fun i => (i.zero, i.size, i.bytes)) = some (some (.agg #[.int .i64 0, .int .i64 0, .int .i64 0]), 3, 24) := by kernel_rfl
  cases hi : Tryz.prog.info? 96 with
  | none => rw [hi] at h; cases h
  | some i =>
    rw [hi] at h
    simp only [Option.map_some, Option.some.injEq, Prod.mk.injEq] at h
    exact ⟨i, rfl, h.1, h.2.1, h.2.2⟩
theorem info98 : ∃ i, Tryz.prog.info? 98 = some i ∧ i.zero = some (.agg #[.int .i64 0, .int .i64 0, .int .i64 0, .int .i64 0]) ∧ i.size = 4 ∧ i.bytes = 32 := by
  have h : (Tryz.prog.info? 98).map (fun i => (i.zero, i.size, i.bytes)) = some (some (.agg #[.int .i64 0, .int .i64 0, .int .i64 0, .int .i64 0]), 4, 32) := by kernel_rfl
  cases hi : Tryz.prog.info? 98 with
  | none => rw [hi] at h; cases h
  | some i =>
    rw [hi] at h
    simp only [Option.map_some, Option.some.injEq, Prod.mk.injEq] at h
    exact ⟨i, rfl, h.1, h.2.1, h.2.2⟩
theorem info100 : ∃ i, Tryz.prog.info? 100 = some i ∧ i.zero = some (.agg #[.int .i64 0, .int .i64 0, .int .i64 0, .int .i64 0, .int .i64 0]) ∧ i.size = 5 ∧ i.bytes = 40 := by
  have h : (Tryz.prog.info? 100).map (fun i => (i.zero, i.size, i.bytes)) = some (some (.agg #[.int .i64 0, .int .i64 0, .int .i64 0, .int .i64 0, .int .i64 0]), 5, 40) := by kernel_rfl
  cases hi : Tryz.prog.info? 100 with
  | none => rw [hi] at h; cases h
  | some i =>
    rw [hi] at h
    simp only [Option.map_some, Option.some.injEq, Prod.mk.injEq] at h
    exact ⟨i, rfl, h.1, h.2.1, h.2.2⟩
def noS (k : Nat) (line : List UInt8) : Prop := (0 < k → lineN [119, 111, 114, 107] 3 line = none) ∧ (1 < k → lineN [103, 114, 111, 117, 112] 3 line = none) ∧ (2 < k → lineN [110, 111, 100, 101] 4 line = none) ∧ (3 < k → lineN [112, 111, 100] 5 line = none)

set_option maxRecDepth 100000 in
set_option maxHeartbeats 8000000 in
theorem stateLine_any (vp vn vw vg : Value) (s : St) (line : List UInt8) (B : Nat) (w : World) (hB : B ≤ w.heap.size) (h : OS w B vp vn vw vg s) (hl : line.length ≤ 4000) (hp : s.pods.length ≤ 4000) (hn : s.nodes.length ≤ 4000) (hw : s.works.length ≤ 4000) (hg : s.groups.length ≤ 4000) :
    Calls Tryz.prog 28 #[svl vp vn vw vg s, str line] w fun e w' => ∃ vp' vn' vw' vg', OS w' B vp' vn' vw' vg' ((lineS s line).getD s) ∧ e = .returned (.tuple #[svl vp' vn' vw' vg' ((lineS s line).getD s), .bool (lineS s line).isSome]) ∧ (∀ k, own4 vp' vn' vw' vg' k → own4 vp vn vw vg k ∨ w.heap.size ≤ k) ∧ Only (own4 vp vn vw vg) w w' := by
  obtain ⟨ap, cp0, rfl, -⟩ := h.P.form
  obtain ⟨an, cn0, rfl, -⟩ := h.N.form
  obtain ⟨aw, cw0, rfl, -⟩ := h.W.form
  obtain ⟨ag, cg0, rfl, -⟩ := h.G.form
  have H := hid h
  have HLT : Hid (∀ k, own4 (.slice ap s.pods.length cp0) (.slice an s.nodes.length cn0) (.slice aw s.works.length cw0) (.slice ag s.groups.length cg0) k → k < w.heap.size) := fun k hk => (h.lt k hk).2
  clear h
  go_enter Tryz.func28, Tryz.ntmps28
  go_wp2
  obtain ⟨W0, hW0⟩ : ∃ W0, ((((w.alloc (.cells #[(.slice ap s.pods.length cp0), (.slice an s.nodes.length cn0), (.slice aw s.works.length cw0), (.slice ag s.groups.length cg0), .int .i64 s.nextPod, .int .i64 s.nextNode] 36)).alloc (.cells #[.slice none 0 0, .slice none 0 0, .slice none 0 0, .slice none 0 0, .int .i64 0, .int .i64 0] 36)).alloc (.cells #[.string ⟨#[119, 111, 114, 107]⟩, .string ⟨#[103, 114, 111, 117, 112]⟩, .string ⟨#[110, 111, 100, 101]⟩, .string ⟨#[112, 111, 100]⟩] 9)).alloc (.cells #[.int .i64 3, .int .i64 3, .int .i64 4, .int .i64 5] 3)) = W0 := ⟨_, rfl⟩
  have hX0 : Blk W0 w.heap.size #[(.slice ap s.pods.length cp0), (.slice an s.nodes.length cn0), (.slice aw s.works.length cw0), (.slice ag s.groups.length cg0), .int .i64 s.nextPod, .int .i64 s.nextNode] 36 := hW0 ▸ (((Blk.new w _ _).alloc _).alloc _).alloc _
  have hZ0 : Blk W0 (w.heap.size + 1) #[.slice none 0 0, .slice none 0 0, .slice none 0 0, .slice none 0 0, .int .i64 0, .int .i64 0] 36 := by
    rw [← hW0]
    simpa using (((Blk.new (w.alloc (.cells #[(.slice ap s.pods.length cp0), (.slice an s.nodes.length cn0), (.slice aw s.works.length cw0), (.slice ag s.groups.length cg0), .int .i64 s.nextPod, .int .i64 s.nextNode] 36)) #[.slice none 0 0, .slice none 0 0, .slice none 0 0, .slice none 0 0, .int .i64 0, .int .i64 0] 36).alloc (.cells #[.string ⟨#[119, 111, 114, 107]⟩, .string ⟨#[103, 114, 111, 117, 112]⟩, .string ⟨#[110, 111, 100, 101]⟩, .string ⟨#[112, 111, 100]⟩] 9)).alloc (.cells #[.int .i64 3, .int .i64 3, .int .i64 4, .int .i64 5] 3))
  have hD0 : Blk W0 (w.heap.size + 1 + 1) #[.string ⟨#[119, 111, 114, 107]⟩, .string ⟨#[103, 114, 111, 117, 112]⟩, .string ⟨#[110, 111, 100, 101]⟩, .string ⟨#[112, 111, 100]⟩] 9 := by
    rw [← hW0]
    simpa using ((Blk.new ((w.alloc (.cells #[(.slice ap s.pods.length cp0), (.slice an s.nodes.length cn0), (.slice aw s.works.length cw0), (.slice ag s.groups.length cg0), .int .i64 s.nextPod, .int .i64 s.nextNode] 36)).alloc (.cells #[.slice none 0 0, .slice none 0 0, .slice none 0 0, .slice none 0 0, .int .i64 0, .int .i64 0] 36)) #[.string ⟨#[119, 111, 114, 107]⟩, .string ⟨#[103, 114, 111, 117, 112]⟩, .string ⟨#[110, 111, 100, 101]⟩, .string ⟨#[112, 111, 100]⟩] 9).alloc (.cells #[.int .i64 3, .int .i64 3, .int .i64 4, .int .i64 5] 3))
  have hE0 : Blk W0 (w.heap.size + 1 + 1 + 1) #[.int .i64 3, .int .i64 3, .int .i64 4, .int .i64 5] 3 := by
    rw [← hW0]
    simpa using (Blk.new (((w.alloc (.cells #[(.slice ap s.pods.length cp0), (.slice an s.nodes.length cn0), (.slice aw s.works.length cw0), (.slice ag s.groups.length cg0), .int .i64 s.nextPod, .int .i64 s.nextNode] 36)).alloc (.cells #[.slice none 0 0, .slice none 0 0, .slice none 0 0, .slice none 0 0, .int .i64 0, .int .i64 0] 36)).alloc (.cells #[.string ⟨#[119, 111, 114, 107]⟩, .string ⟨#[103, 114, 111, 117, 112]⟩, .string ⟨#[110, 111, 100, 101]⟩, .string ⟨#[112, 111, 100]⟩] 9)) #[.int .i64 3, .int .i64 3, .int .i64 4, .int .i64 5] 3)
  have hB0 : Below w.heap.size w W0 := by rw [← hW0]; go_grown
  have hs0 : w.heap.size + 4 ≤ W0.heap.size := by have := hE0.lt; omega
  rw [hW0]
  have HX0 := hid hX0
  have HZ0 := hid hZ0
  have HD0 := hid hD0
  have HE0 := hid hE0
  have HB0 := hid hB0
  clear hW0 hX0 hZ0 hD0 hE0 hB0
  go_loopw [8] (fun i w' => (i = .int .i64 0 ∨ i = .int .i64 1 ∨ i = .int .i64 2 ∨ i = .int .i64 3 ∨ i = .int .i64 4) ∧ Hid (noS (intOf i).toNat line) ∧ Below W0.heap.size W0 w') (fun i _ => 4 - (intOf i).toNat)
  case atStart => exact ⟨.inl rfl, ⟨fun h => by simp [intOf] at h, fun h => by simp [intOf] at h, fun h => by simp [intOf] at h, fun h => by simp [intOf] at h⟩, Below.refl _ _⟩
  case round =>
    obtain ⟨hiv, hno, hbr⟩ := hrel
    have HXr := hid (HX0.out.below hbr HX0.out.lt)
    have HZr := hid (HZ0.out.below hbr HZ0.out.lt)
    have HDr := hid (HD0.out.below hbr HD0.out.lt)
    have HEr := hid (HE0.out.below hbr HE0.out.lt)
    have HBr := hid (HB0.out.trans (hbr.mono HB0.out.size))
    have hsr := hbr.size
    have HBR := hid hbr
    have dc := HDr.out.cell
    have ec := HEr.out.cell
    have xlr := HXr.out.lt
    have dlr := HDr.out.lt
    have elr := HEr.out.lt
    clear hbr
    rcases hiv with rfl | rfl | rfl | rfl | rfl
    · go_wp2_with fail
      refine (rest_any line [119, 111, 114, 107] _ (by omega) (by simp)).mono ?_
      rintro e w' ⟨rfl, rfl⟩
      have hl1 : ((restB line [119, 111, 114, 107]).getD []).length ≤ 4000 := by
        cases hr : restB line [119, 111, 114, 107] with
        | none => simp
        | some a => have := rest_len hr; simp; omega
      obtain ⟨r1, hr1⟩ : ∃ r1, restB line [119, 111, 114, 107] = r1 := ⟨_, rfl⟩
      rw [hr1] at hl1 ⊢
      have HR1 := hid hr1
      clear hr1
      go_wp2_with fail
      refine (read_any (r1.getD []) 3 _ (by omega) (by omega)).mono ?_
      rintro e w2 ⟨v1, rfl, hv1, hb2⟩
      have HV1 := hid hv1
      have HX := hid (HXr.out.below hb2 HXr.out.lt)
      have HZ := hid (HZr.out.below hb2 HZr.out.lt)
      have HB := hid (HBr.out.trans (hb2.mono HBr.out.size))
      have HBW := hid (HBR.out.trans (hb2.mono HBR.out.size))
      clear hb2 hv1 dc ec
      have hcase : (∃ a xs, r1 = some a ∧ readB a 3 = some xs) ∨ (lineN [119, 111, 114, 107] 3 line = none ∧ (r1 = none ∨ ∃ a, r1 = some a ∧ readB a 3 = none)) := by
        cases h1 : r1 with
        | none => exact .inr ⟨by simp [lineN, HR1.out, h1], .inl rfl⟩
        | some a =>
          cases h2 : readB a 3 with
          | none => exact .inr ⟨by simp [lineN, HR1.out, h1, h2], .inr ⟨a, rfl, h2⟩⟩
          | some xs => exact .inl ⟨a, xs, rfl, h2⟩
      have hXl := HX.out.lt
      have hZl := HZ.out.lt
      rcases hcase with ⟨a, xs, rfl, hx⟩ | ⟨hn1, hcase⟩
      · have hlc : Hid (lineS s line = some { s with works := s.works ++ [workSL xs] }) := by
          have z : lineN [119, 111, 114, 107] 3 line = some xs := by simp [lineN, HR1.out, hx]
          rw [Hid, lineS]
          simp only [z]
        obtain ⟨x0, x1, x2, rfl⟩ := three_of ((readB_iff (by omega)).1 hx).1
        obtain ⟨ad, cp, rfl, hI⟩ := HV1.out _ hx
        obtain ⟨b, o, rfl, hbl, c0⟩ := hI.at 0 (by simp)
        replace c0 : w2.cell? ⟨b, o, none⟩ = some (.int .i64 x0) := c0
        obtain ⟨b', o', he, _, c1⟩ := hI.at 1 (by simp)
        cases he
        replace c1 : w2.cell? ⟨b, o + 1, none⟩ = some (.int .i64 x1) := c1
        obtain ⟨b', o', he, _, c2⟩ := hI.at 2 (by simp)
        cases he
        replace c2 : w2.cell? ⟨b, o + 2, none⟩ = some (.int .i64 x2) := c2
        have hsm : (readB a 3).isSome = true := by rw [hx]; rfl
        obtain ⟨inf94, i1, i2, i3, i4⟩ := info94
        have I1 := hid i1
        have I2 := hid i2
        have I3 := hid i3
        have I4 := hid i4
        clear i1 i2 i3 i4 hI HV1 hx
        have H2 := hid (H.out.keep HB.out)
        have H2o := hid H2.out.W
        have hvX : (Value.slice aw s.works.length cw0).ownBlock ≠ some w.heap.size := fun hk => by have := HLT.out _ (.inr (.inr (.inl hk))); omega
        go_wp2_with fail
        refine wp_region_tc [[(2, none)], [(67, some 0)], [(11, none)], [(69, some 2)], [(70, some 3)], [(11, none)], [(72, some 5)], [(73, some 6)], [(11, none)], [(75, some 8)], [(76, some 9)], [(71, some 4), (74, some 7), (77, some 10)], [(78, some 11)], [(68, some 1), (79, some 12)], [(2, none)], [(81, some 14), (80, some 13)]]
          (fun i v => match i with | 0 => v = .pointer (some ⟨w.heap.size, 2, none⟩) | 1 => v = .slice aw s.works.length cw0 | 2 => v = .slice (some ⟨b, o, none⟩) [x0, x1, x2].length cp | 3 => v = .pointer (some ⟨b, o, none⟩) | 4 => v = .int .i64 x0 | 5 => v = .slice (some ⟨b, o, none⟩) [x0, x1, x2].length cp | 6 => v = .pointer (some ⟨b, o + 1, none⟩) | 7 => v = .int .i64 x1 | 8 => v = .slice (some ⟨b, o, none⟩) [x0, x1, x2].length cp | 9 => v = .pointer (some ⟨b, o + 2, none⟩) | 10 => v = .int .i64 x2 | 11 => v = .agg #[.int .i64 x0, .int .i64 x1, .int .i64 x2] | 12 => True | 13 => True | 14 => v = .pointer (some ⟨w.heap.size, 2, none⟩) | _ => True)
          (AP 3 Ws.cell 94 B w2 (.slice aw s.works.length cw0) s.works (workSL [x0, x1, x2]) w.heap.size 36 #[(.slice ap s.pods.length cp0), (.slice an s.nodes.length cn0), (.slice aw s.works.length cw0), (.slice ag s.groups.length cg0), .int .i64 s.nextPod, .int .i64 s.nextNode] 2 12 13 15 79 80) 121 rfl (by kernel_rfl) (AP.start (by go_grown)) ⟨?_, ?_, ?_, ?_, ?_, ?_, ?_, ?_, ?_, ?_, ?_, ?_, ?_, ?_, ?_, ?_, trivial⟩ ?_
        · rintro t A w1 Q K hsz hts hu hbf haf hC hK ⟨e2, -⟩
          replace e2 : A.tmps[2]?.getD undef = .pointer (some ⟨w.heap.size, 0, none⟩) := e2
          simp [go_sem, e2]
          exact hK _ _ rfl (hC.other 0 67 _ (by decide) (by decide))
        · rintro t A w1 Q K hsz hts hu hbf haf hC hK ⟨e67, -⟩
          replace e67 : A.tmps[67]?.getD undef = .pointer (some ⟨w.heap.size, 2, none⟩) := e67
          have yb := (HX.out.below (hC.pre (haf 13 _ rfl (by kernel_rfl))).1 hXl).cell 2
          simp at yb
          simp [go_sem, e67, yb]
          exact hK _ _ rfl (hC.other 1 68 _ (by decide) (by decide))
        · rintro t A w1 Q K hsz hts hu hbf haf hC hK ⟨e11, -⟩
          replace e11 : A.tmps[11]?.getD undef = .slice (some ⟨b, o, none⟩) [x0, x1, x2].length cp := e11
          simp [go_sem, e11]
          exact hK _ _ rfl (hC.other 2 69 _ (by decide) (by decide))
        · rintro t A w1 Q K hsz hts hu hbf haf hC hK ⟨e69, -⟩
          replace e69 : A.tmps[69]?.getD undef = .slice (some ⟨b, o, none⟩) [x0, x1, x2].length cp := e69
          simp [go_sem, e69]
          exact hK _ _ rfl (hC.other 3 70 _ (by decide) (by decide))
        · rintro t A w1 Q K hsz hts hu hbf haf hC hK ⟨e70, -⟩
          replace e70 : A.tmps[70]?.getD undef = .pointer (some ⟨b, o, none⟩) := e70
          have yb := ((hC.pre (haf 13 _ rfl (by kernel_rfl))).1.cell (p := ⟨b, o, none⟩) hbl).trans c0
          simp [go_sem, e70, yb]
          exact hK _ _ rfl (hC.other 4 71 _ (by decide) (by decide))
        · rintro t A w1 Q K hsz hts hu hbf haf hC hK ⟨e11, -⟩
          replace e11 : A.tmps[11]?.getD undef = .slice (some ⟨b, o, none⟩) [x0, x1, x2].length cp := e11
          simp [go_sem, e11]
          exact hK _ _ rfl (hC.other 5 72 _ (by decide) (by decide))
        · rintro t A w1 Q K hsz hts hu hbf haf hC hK ⟨e72, -⟩
          replace e72 : A.tmps[72]?.getD undef = .slice (some ⟨b, o, none⟩) [x0, x1, x2].length cp := e72
          simp [go_sem, e72]
          exact hK _ _ rfl (hC.other 6 73 _ (by decide) (by decide))
        · rintro t A w1 Q K hsz hts hu hbf haf hC hK ⟨e73, -⟩
          replace e73 : A.tmps[73]?.getD undef = .pointer (some ⟨b, o + 1, none⟩) := e73
          have yb := ((hC.pre (haf 13 _ rfl (by kernel_rfl))).1.cell (p := ⟨b, o + 1, none⟩) hbl).trans c1
          simp [go_sem, e73, yb]
          exact hK _ _ rfl (hC.other 7 74 _ (by decide) (by decide))
        · rintro t A w1 Q K hsz hts hu hbf haf hC hK ⟨e11, -⟩
          replace e11 : A.tmps[11]?.getD undef = .slice (some ⟨b, o, none⟩) [x0, x1, x2].length cp := e11
          simp [go_sem, e11]
          exact hK _ _ rfl (hC.other 8 75 _ (by decide) (by decide))
        · rintro t A w1 Q K hsz hts hu hbf haf hC hK ⟨e75, -⟩
          replace e75 : A.tmps[75]?.getD undef = .slice (some ⟨b, o, none⟩) [x0, x1, x2].length cp := e75
          simp [go_sem, e75]
          exact hK _ _ rfl (hC.other 9 76 _ (by decide) (by decide))
        · rintro t A w1 Q K hsz hts hu hbf haf hC hK ⟨e76, -⟩
          replace e76 : A.tmps[76]?.getD undef = .pointer (some ⟨b, o + 2, none⟩) := e76
          have yb := ((hC.pre (haf 13 _ rfl (by kernel_rfl))).1.cell (p := ⟨b, o + 2, none⟩) hbl).trans c2
          simp [go_sem, e76, yb]
          exact hK _ _ rfl (hC.other 10 77 _ (by decide) (by decide))
        · rintro t A w1 Q K hsz hts hu hbf haf hC hK ⟨e71, e74, e77, -⟩
          replace e71 : A.tmps[71]?.getD undef = .int .i64 x0 := e71
          replace e74 : A.tmps[74]?.getD undef = .int .i64 x1 := e74
          replace e77 : A.tmps[77]?.getD undef = .int .i64 x2 := e77
          simp [go_sem, e71, e74, e77]
          exact hK _ _ rfl (hC.other 11 78 _ (by decide) (by decide))
        · rintro t A w1 Q K hsz hts hu hbf haf hC hK ⟨e78, -⟩
          replace e78 : A.tmps[78]?.getD undef = .agg #[.int .i64 x0, .int .i64 x1, .int .i64 x2] := e78
          simp [go_sem, e78]
          exact hK _ _ trivial (hC.new hu (haf 13 _ rfl (by kernel_rfl)) (haf 15 _ rfl (by kernel_rfl)) (by decide) (by rw [hts]; show 79 < 121; decide) (news := [.int .i64 x0, .int .i64 x1, .int .i64 x2]) rfl)
        · rintro t A w1 Q K hsz hts hu hbf haf hC hK ⟨e68, e79, -⟩
          replace e68 : A.tmps[68]?.getD undef = (.slice aw s.works.length cw0) := e68
          clear e79
          obtain ⟨hp, hy⟩ := hC.pre (getD_tf hu).1
          obtain ⟨bb, hy, hbk⟩ := hy (hbf 12 (by kernel_rfl))
          replace hy : A.tmps[79]?.getD undef = .slice (some ⟨bb, 0, none⟩) 1 1 := hy
          replace hbk : Blk w1 bb #[.int .i64 x0, .int .i64 x1, .int .i64 x2] 94 := hbk
          refine oper_append_at rfl (.tmp 68) (.tmp 79) 33 rfl B 94 inf94 _ 3 24 Tryz.underlying33 I1.out I2.out I3.out I4.out (by rfl) (by omega) (.slice aw s.works.length cw0) s.works.length (flat 3 Ws.cell s.works) (by simp [go_sem, e68]) (H2o.out.keep hp) ⟨bb, 0, none⟩ 1 1 [.int .i64 x0, .int .i64 x1, .int .i64 x2] (by simp [go_sem, hy]) (by rfl) (fun q u hq => by rw [addmid, Nat.zero_add, hbk.cell]; simpa using hq) (by intro u hu; simp at hu; rcases hu with rfl | rfl | rfl <;> rfl) (by unfold maxLen; omega) (by omega) (by have := hp.size; have := HB.out.size; omega) ?_
          intro z2 w3 hown hgrow hfr
          exact hK z2 w3 trivial (hC.app hu (haf 15 _ rfl (by kernel_rfl)) (by decide) (by rw [hts]; show 80 < 121; decide) HX.out hvX (news := [.int .i64 x0, .int .i64 x1, .int .i64 x2]) rfl hown hgrow hfr)
        · rintro t A w1 Q K hsz hts hu hbf haf hC hK ⟨e2, -⟩
          replace e2 : A.tmps[2]?.getD undef = .pointer (some ⟨w.heap.size, 0, none⟩) := e2
          simp [go_sem, e2]
          exact hK _ _ rfl (hC.other 14 81 _ (by decide) (by decide))
        · rintro t A w1 Q K hsz hts hu hbf haf hC hK ⟨e81, e80, -⟩
          replace e81 : A.tmps[81]?.getD undef = .pointer (some ⟨w.heap.size, 2, none⟩) := e81
          clear e80
          have hA := hbf 13 (by kernel_rfl)
          have hq := hC.mid hA (getD_tf hu).1
          obtain ⟨a9, c9, hz, -⟩ := hq.own.form
          have e68 : A.tmps[80]?.getD undef = .slice a9 (s.works ++ [(workSL [x0, x1, x2])]).length c9 := hz
          have X := hq.box.cell 2
          have F := hq.box.frozen 2
          simp at X
          have hl := hC.last (f := 2) hu hA (by decide) hvX hXl (u := undef) hz
          clear hq hC hz
          simp [go_sem, e81, e68, X, F]
          refine hK undef _ trivial ?_
          simpa using hl
        · intro a' w3 ha' hC'
          refine fun v0 h0 v1 h1 v2 h2 v3 h3 v4 h4 v5 h5 v6 h6 v7 h7 v8 h8 v9 h9 v10 h10 v11 h11 v12 h12 v13 h13 v14 h14 => ?_
          intro he
          subst he
          have hq := hC'.fin (by simp)
          simp [Act.put, ev] at hq
          clear hC' ha' hvX h0 h1 h2 h3 h4 h5 h6 h7 h8 h9 h10 h11 h12 h13 h14
          obtain ⟨a9, c9, rfl, -⟩ := hq.own.form
          have hX3 : Blk w3 w.heap.size #[(.slice ap s.pods.length cp0), (.slice an s.nodes.length cn0), (.slice a9 (s.works ++ [(workSL [x0, x1, x2])]).length c9), (.slice ag s.groups.length cg0), .int .i64 s.nextPod, .int .i64 s.nextNode] 36 := hq.box
          have hZ3 := HZ.out.only hq.only (fun e => e.elim (fun e => by have := HLT.out _ (.inr (.inr (.inl e))); omega) (fun e => by omega))
          have x0c := hX3.cell
          have z0c := hZ3.cell
          have z0f := hZ3.frozen
          have z0l := hZ3.lt
          have x0l := hX3.lt
          simp only [Act.put, List.setIfInBounds_toArray, List.set_cons_zero, List.set_cons_succ]
          have HH := hid (os_work HB.out H2.out HLT.out hq (Nat.le_refl _))
          clear hq hX3 hZ3
          go_wp2
          obtain ⟨g1, g2, g3, g4⟩ := HH.out
          refine bodyPost_ret (v := .tuple #[svl (.slice ap s.pods.length cp0) (.slice an s.nodes.length cn0) (.slice a9 (s.works ++ [(workSL [x0, x1, x2])]).length c9) (.slice ag s.groups.length cg0) { s with works := s.works ++ [(workSL [x0, x1, x2])] }, .bool true]) (by simp [results, Tryz.results28, go_sem, *]) rfl ⟨(.slice ap s.pods.length cp0), (.slice an s.nodes.length cn0), (.slice a9 (s.works ++ [(workSL [x0, x1, x2])]).length c9), (.slice ag s.groups.length cg0), ?_, by rw [hlc.out]; rfl, g2, g3.far6 (by omega) _ _ _ _ _ _⟩
          rw [hlc.out]
          refine OS.far6 g1 (fun e => ?_) _ _ _ _ _ _
          have := g4 _ e
          have := HBr.out.size
          omega
      · have HNO : Hid (noS (intOf (.int .i64 1)).toNat line) := ⟨fun _ => hn1, fun h => by simp [intOf] at h, fun h => by simp [intOf] at h, fun h => by simp [intOf] at h⟩
        clear hno HV1 hn1
        rcases hcase with rfl | ⟨a, rfl, hra⟩
        · go_wp2
          go_roundw
          case rel => exact ⟨.inr (.inl rfl), HNO.out, HBW.out⟩
          case measure => simp [intOf]
        · have hrb : (readB a 3).isSome = false := by rw [hra]; rfl
          clear hra
          go_wp2
          go_roundw
          case rel => exact ⟨.inr (.inl rfl), HNO.out, HBW.out⟩
          case measure => simp [intOf]
    · go_wp2_with fail
      refine (rest_any line [103, 114, 111, 117, 112] _ (by omega) (by simp)).mono ?_
      rintro e w' ⟨rfl, rfl⟩
      have hl1 : ((restB line [103, 114, 111, 117, 112]).getD []).length ≤ 4000 := by
        cases hr : restB line [103, 114, 111, 117, 112] with
        | none => simp
        | some a => have := rest_len hr; simp; omega
      obtain ⟨r1, hr1⟩ : ∃ r1, restB line [103, 114, 111, 117, 112] = r1 := ⟨_, rfl⟩
      rw [hr1] at hl1 ⊢
      have HR1 := hid hr1
      clear hr1
      go_wp2_with fail
      refine (read_any (r1.getD []) 3 _ (by omega) (by omega)).mono ?_
      rintro e w2 ⟨v1, rfl, hv1, hb2⟩
      have HV1 := hid hv1
      have HX := hid (HXr.out.below hb2 HXr.out.lt)
      have HZ := hid (HZr.out.below hb2 HZr.out.lt)
      have HB := hid (HBr.out.trans (hb2.mono HBr.out.size))
      have HBW := hid (HBR.out.trans (hb2.mono HBR.out.size))
      clear hb2 hv1 dc ec
      have hcase : (∃ a xs, r1 = some a ∧ readB a 3 = some xs) ∨ (lineN [103, 114, 111, 117, 112] 3 line = none ∧ (r1 = none ∨ ∃ a, r1 = some a ∧ readB a 3 = none)) := by
        cases h1 : r1 with
        | none => exact .inr ⟨by simp [lineN, HR1.out, h1], .inl rfl⟩
        | some a =>
          cases h2 : readB a 3 with
          | none => exact .inr ⟨by simp [lineN, HR1.out, h1, h2], .inr ⟨a, rfl, h2⟩⟩
          | some xs => exact .inl ⟨a, xs, rfl, h2⟩
      have hXl := HX.out.lt
      have hZl := HZ.out.lt
      rcases hcase with ⟨a, xs, rfl, hx⟩ | ⟨hn1, hcase⟩
      · have hlc : Hid (lineS s line = some { s with groups := s.groups ++ [groupSL xs] }) := by
          have z0 := hno.out.1 (by simp [intOf])
          have z : lineN [103, 114, 111, 117, 112] 3 line = some xs := by simp [lineN, HR1.out, hx]
          rw [Hid, lineS]
          simp only [z0, z]
        obtain ⟨x0, x1, x2, rfl⟩ := three_of ((readB_iff (by omega)).1 hx).1
        obtain ⟨ad, cp, rfl, hI⟩ := HV1.out _ hx
        obtain ⟨b, o, rfl, hbl, c0⟩ := hI.at 0 (by simp)
        replace c0 : w2.cell? ⟨b, o, none⟩ = some (.int .i64 x0) := c0
        obtain ⟨b', o', he, _, c1⟩ := hI.at 1 (by simp)
        cases he
        replace c1 : w2.cell? ⟨b, o + 1, none⟩ = some (.int .i64 x1) := c1
        obtain ⟨b', o', he, _, c2⟩ := hI.at 2 (by simp)
        cases he
        replace c2 : w2.cell? ⟨b, o + 2, none⟩ = some (.int .i64 x2) := c2
        have hsm : (readB a 3).isSome = true := by rw [hx]; rfl
        obtain ⟨inf96, i1, i2, i3, i4⟩ := info96
        have I1 := hid i1
        have I2 := hid i2
        have I3 := hid i3
        have I4 := hid i4
        clear i1 i2 i3 i4 hI HV1 hx
        have H2 := hid (H.out.keep HB.out)
        have H2o := hid H2.out.G
        have hvX : (Value.slice ag s.groups.length cg0).ownBlock ≠ some w.heap.size := fun hk => by have := HLT.out _ (.inr (.inr (.inr hk))); omega
        go_wp2_with fail
        refine wp_region_tc [[(2, none)], [(84, some 0)], [(11, none)], [(86, some 2)], [(87, some 3)], [(11, none)], [(89, some 5)], [(90, some 6)], [(11, none)], [(92, some 8)], [(93, some 9)], [(88, some 4), (91, some 7), (94, some 10)], [(95, some 11)], [(85, some 1), (96, some 12)], [(2, none)], [(98, some 14), (97, some 13)]]
          (fun i v => match i with | 0 => v = .pointer (some ⟨w.heap.size, 3, none⟩) | 1 => v = .slice ag s.groups.length cg0 | 2 => v = .slice (some ⟨b, o, none⟩) [x0, x1, x2].length cp | 3 => v = .pointer (some ⟨b, o, none⟩) | 4 => v = .int .i64 x0 | 5 => v = .slice (some ⟨b, o, none⟩) [x0, x1, x2].length cp | 6 => v = .pointer (some ⟨b, o + 1, none⟩) | 7 => v = .int .i64 x1 | 8 => v = .slice (some ⟨b, o, none⟩) [x0, x1, x2].length cp | 9 => v = .pointer (some ⟨b, o + 2, none⟩) | 10 => v = .int .i64 x2 | 11 => v = .agg #[.int .i64 x0, .int .i64 x1, .int .i64 x2] | 12 => True | 13 => True | 14 => v = .pointer (some ⟨w.heap.size, 3, none⟩) | _ => True)
          (AP 3 Gs.cell 96 B w2 (.slice ag s.groups.length cg0) s.groups (groupSL [x0, x1, x2]) w.heap.size 36 #[(.slice ap s.pods.length cp0), (.slice an s.nodes.length cn0), (.slice aw s.works.length cw0), (.slice ag s.groups.length cg0), .int .i64 s.nextPod, .int .i64 s.nextNode] 3 12 13 15 96 97) 121 rfl (by kernel_rfl) (AP.start (by go_grown)) ⟨?_, ?_, ?_, ?_, ?_, ?_, ?_, ?_, ?_, ?_, ?_, ?_, ?_, ?_, ?_, ?_, trivial⟩ ?_
        · rintro t A w1 Q K hsz hts hu hbf haf hC hK ⟨e2, -⟩
          replace e2 : A.tmps[2]?.getD undef = .pointer (some ⟨w.heap.size, 0, none⟩) := e2
          simp [go_sem, e2]
          exact hK _ _ rfl (hC.other 0 84 _ (by decide) (by decide))
        · rintro t A w1 Q K hsz hts hu hbf haf hC hK ⟨e84, -⟩
          replace e84 : A.tmps[84]?.getD undef = .pointer (some ⟨w.heap.size, 3, none⟩) := e84
          have yb := (HX.out.below (hC.pre (haf 13 _ rfl (by kernel_rfl))).1 hXl).cell 3
          simp at yb
          simp [go_sem, e84, yb]
          exact hK _ _ rfl (hC.other 1 85 _ (by decide) (by decide))
        · rintro t A w1 Q K hsz hts hu hbf haf hC hK ⟨e11, -⟩
          replace e11 : A.tmps[11]?.getD undef = .slice (some ⟨b, o, none⟩) [x0, x1, x2].length cp := e11
          simp [go_sem, e11]
          exact hK _ _ rfl (hC.other 2 86 _ (by decide) (by decide))
        · rintro t A w1 Q K hsz hts hu hbf haf hC hK ⟨e86, -⟩
          replace e86 : A.tmps[86]?.getD undef = .slice (some ⟨b, o, none⟩) [x0, x1, x2].length cp := e86
          simp [go_sem, e86]
          exact hK _ _ rfl (hC.other 3 87 _ (by decide) (by decide))
        · rintro t A w1 Q K hsz hts hu hbf haf hC hK ⟨e87, -⟩
          replace e87 : A.tmps[87]?.getD undef = .pointer (some ⟨b, o, none⟩) := e87
          have yb := ((hC.pre (haf 13 _ rfl (by kernel_rfl))).1.cell (p := ⟨b, o, none⟩) hbl).trans c0
          simp [go_sem, e87, yb]
          exact hK _ _ rfl (hC.other 4 88 _ (by decide) (by decide))
        · rintro t A w1 Q K hsz hts hu hbf haf hC hK ⟨e11, -⟩
          replace e11 : A.tmps[11]?.getD undef = .slice (some ⟨b, o, none⟩) [x0, x1, x2].length cp := e11
          simp [go_sem, e11]
          exact hK _ _ rfl (hC.other 5 89 _ (by decide) (by decide))
        · rintro t A w1 Q K hsz hts hu hbf haf hC hK ⟨e89, -⟩
          replace e89 : A.tmps[89]?.getD undef = .slice (some ⟨b, o, none⟩) [x0, x1, x2].length cp := e89
          simp [go_sem, e89]
          exact hK _ _ rfl (hC.other 6 90 _ (by decide) (by decide))
        · rintro t A w1 Q K hsz hts hu hbf haf hC hK ⟨e90, -⟩
          replace e90 : A.tmps[90]?.getD undef = .pointer (some ⟨b, o + 1, none⟩) := e90
          have yb := ((hC.pre (haf 13 _ rfl (by kernel_rfl))).1.cell (p := ⟨b, o + 1, none⟩) hbl).trans c1
          simp [go_sem, e90, yb]
          exact hK _ _ rfl (hC.other 7 91 _ (by decide) (by decide))
        · rintro t A w1 Q K hsz hts hu hbf haf hC hK ⟨e11, -⟩
          replace e11 : A.tmps[11]?.getD undef = .slice (some ⟨b, o, none⟩) [x0, x1, x2].length cp := e11
          simp [go_sem, e11]
          exact hK _ _ rfl (hC.other 8 92 _ (by decide) (by decide))
        · rintro t A w1 Q K hsz hts hu hbf haf hC hK ⟨e92, -⟩
          replace e92 : A.tmps[92]?.getD undef = .slice (some ⟨b, o, none⟩) [x0, x1, x2].length cp := e92
          simp [go_sem, e92]
          exact hK _ _ rfl (hC.other 9 93 _ (by decide) (by decide))
        · rintro t A w1 Q K hsz hts hu hbf haf hC hK ⟨e93, -⟩
          replace e93 : A.tmps[93]?.getD undef = .pointer (some ⟨b, o + 2, none⟩) := e93
          have yb := ((hC.pre (haf 13 _ rfl (by kernel_rfl))).1.cell (p := ⟨b, o + 2, none⟩) hbl).trans c2
          simp [go_sem, e93, yb]
          exact hK _ _ rfl (hC.other 10 94 _ (by decide) (by decide))
        · rintro t A w1 Q K hsz hts hu hbf haf hC hK ⟨e88, e91, e94, -⟩
          replace e88 : A.tmps[88]?.getD undef = .int .i64 x0 := e88
          replace e91 : A.tmps[91]?.getD undef = .int .i64 x1 := e91
          replace e94 : A.tmps[94]?.getD undef = .int .i64 x2 := e94
          simp [go_sem, e88, e91, e94]
          exact hK _ _ rfl (hC.other 11 95 _ (by decide) (by decide))
        · rintro t A w1 Q K hsz hts hu hbf haf hC hK ⟨e95, -⟩
          replace e95 : A.tmps[95]?.getD undef = .agg #[.int .i64 x0, .int .i64 x1, .int .i64 x2] := e95
          simp [go_sem, e95]
          exact hK _ _ trivial (hC.new hu (haf 13 _ rfl (by kernel_rfl)) (haf 15 _ rfl (by kernel_rfl)) (by decide) (by rw [hts]; show 96 < 121; decide) (news := [.int .i64 x0, .int .i64 x1, .int .i64 x2]) rfl)
        · rintro t A w1 Q K hsz hts hu hbf haf hC hK ⟨e85, e96, -⟩
          replace e85 : A.tmps[85]?.getD undef = (.slice ag s.groups.length cg0) := e85
          clear e96
          obtain ⟨hp, hy⟩ := hC.pre (getD_tf hu).1
          obtain ⟨bb, hy, hbk⟩ := hy (hbf 12 (by kernel_rfl))
          replace hy : A.tmps[96]?.getD undef = .slice (some ⟨bb, 0, none⟩) 1 1 := hy
          replace hbk : Blk w1 bb #[.int .i64 x0, .int .i64 x1, .int .i64 x2] 96 := hbk
          refine oper_append_at rfl (.tmp 85) (.tmp 96) 34 rfl B 96 inf96 _ 3 24 Tryz.underlying34 I1.out I2.out I3.out I4.out (by rfl) (by omega) (.slice ag s.groups.length cg0) s.groups.length (flat 3 Gs.cell s.groups) (by simp [go_sem, e85]) (H2o.out.keep hp) ⟨bb, 0, none⟩ 1 1 [.int .i64 x0, .int .i64 x1, .int .i64 x2] (by simp [go_sem, hy]) (by rfl) (fun q u hq => by rw [addmid, Nat.zero_add, hbk.cell]; simpa using hq) (by intro u hu; simp at hu; rcases hu with rfl | rfl | rfl <;> rfl) (by unfold maxLen; omega) (by omega) (by have := hp.size; have := HB.out.size; omega) ?_
          intro z2 w3 hown hgrow hfr
          exact hK z2 w3 trivial (hC.app hu (haf 15 _ rfl (by kernel_rfl)) (by decide) (by rw [hts]; show 97 < 121; decide) HX.out hvX (news := [.int .i64 x0, .int .i64 x1, .int .i64 x2]) rfl hown hgrow hfr)
        · rintro t A w1 Q K hsz hts hu hbf haf hC hK ⟨e2, -⟩
          replace e2 : A.tmps[2]?.getD undef = .pointer (some ⟨w.heap.size, 0, none⟩) := e2
          simp [go_sem, e2]
          exact hK _ _ rfl (hC.other 14 98 _ (by decide) (by decide))
        · rintro t A w1 Q K hsz hts hu hbf haf hC hK ⟨e98, e97, -⟩
          replace e98 : A.tmps[98]?.getD undef = .pointer (some ⟨w.heap.size, 3, none⟩) := e98
          clear e97
          have hA := hbf 13 (by kernel_rfl)
          have hq := hC.mid hA (getD_tf hu).1
          obtain ⟨a9, c9, hz, -⟩ := hq.own.form
          have e68 : A.tmps[97]?.getD undef = .slice a9 (s.groups ++ [(groupSL [x0, x1, x2])]).length c9 := hz
          have X := hq.box.cell 3
          have F := hq.box.frozen 3
          simp at X
          have hl := hC.last (f := 3) hu hA (by decide) hvX hXl (u := undef) hz
          clear hq hC hz
          simp [go_sem, e98, e68, X, F]
          refine hK undef _ trivial ?_
          simpa using hl
        · intro a' w3 ha' hC'
          refine fun v0 h0 v1 h1 v2 h2 v3 h3 v4 h4 v5 h5 v6 h6 v7 h7 v8 h8 v9 h9 v10 h10 v11 h11 v12 h12 v13 h13 v14 h14 => ?_
          intro he
          subst he
          have hq := hC'.fin (by simp)
          simp [Act.put, ev] at hq
          clear hC' ha' hvX h0 h1 h2 h3 h4 h5 h6 h7 h8 h9 h10 h11 h12 h13 h14
          obtain ⟨a9, c9, rfl, -⟩ := hq.own.form
          have hX3 : Blk w3 w.heap.size #[(.slice ap s.pods.length cp0), (.slice an s.nodes.length cn0), (.slice aw s.works.length cw0), (.slice a9 (s.groups ++ [(groupSL [x0, x1, x2])]).length c9), .int .i64 s.nextPod, .int .i64 s.nextNode] 36 := hq.box
          have hZ3 := HZ.out.only hq.only (fun e => e.elim (fun e => by have := HLT.out _ (.inr (.inr (.inr e))); omega) (fun e => by omega))
          have x0c := hX3.cell
          have z0c := hZ3.cell
          have z0f := hZ3.frozen
          have z0l := hZ3.lt
          have x0l := hX3.lt
          simp only [Act.put, List.setIfInBounds_toArray, List.set_cons_zero, List.set_cons_succ]
          have HH := hid (os_group HB.out H2.out HLT.out hq (Nat.le_refl _))
          clear hq hX3 hZ3
          go_wp2
          obtain ⟨g1, g2, g3, g4⟩ := HH.out
          refine bodyPost_ret (v := .tuple #[svl (.slice ap s.pods.length cp0) (.slice an s.nodes.length cn0) (.slice aw s.works.length cw0) (.slice a9 (s.groups ++ [(groupSL [x0, x1, x2])]).length c9) { s with groups := s.groups ++ [(groupSL [x0, x1, x2])] }, .bool true]) (by simp [results, Tryz.results28, go_sem, *]) rfl ⟨(.slice ap s.pods.length cp0), (.slice an s.nodes.length cn0), (.slice aw s.works.length cw0), (.slice a9 (s.groups ++ [(groupSL [x0, x1, x2])]).length c9), ?_, by rw [hlc.out]; rfl, g2, g3.far6 (by omega) _ _ _ _ _ _⟩
          rw [hlc.out]
          refine OS.far6 g1 (fun e => ?_) _ _ _ _ _ _
          have := g4 _ e
          have := HBr.out.size
          omega
      · have HNO : Hid (noS (intOf (.int .i64 2)).toNat line) := ⟨fun _ => hno.out.1 (by simp [intOf]), fun _ => hn1, fun h => by simp [intOf] at h, fun h => by simp [intOf] at h⟩
        clear hno HV1 hn1
        rcases hcase with rfl | ⟨a, rfl, hra⟩
        · go_wp2
          go_roundw
          case rel => exact ⟨.inr (.inr (.inl rfl)), HNO.out, HBW.out⟩
          case measure => simp [intOf]
        · have hrb : (readB a 3).isSome = false := by rw [hra]; rfl
          clear hra
          go_wp2
          go_roundw
          case rel => exact ⟨.inr (.inr (.inl rfl)), HNO.out, HBW.out⟩
          case measure => simp [intOf]
    · go_wp2_with fail
      refine (rest_any line [110, 111, 100, 101] _ (by omega) (by simp)).mono ?_
      rintro e w' ⟨rfl, rfl⟩
      have hl1 : ((restB line [110, 111, 100, 101]).getD []).length ≤ 4000 := by
        cases hr : restB line [110, 111, 100, 101] with
        | none => simp
        | some a => have := rest_len hr; simp; omega
      obtain ⟨r1, hr1⟩ : ∃ r1, restB line [110, 111, 100, 101] = r1 := ⟨_, rfl⟩
      rw [hr1] at hl1 ⊢
      have HR1 := hid hr1
      clear hr1
      go_wp2_with fail
      refine (read_any (r1.getD []) 4 _ (by omega) (by omega)).mono ?_
      rintro e w2 ⟨v1, rfl, hv1, hb2⟩
      have HV1 := hid hv1
      have HX := hid (HXr.out.below hb2 HXr.out.lt)
      have HZ := hid (HZr.out.below hb2 HZr.out.lt)
      have HB := hid (HBr.out.trans (hb2.mono HBr.out.size))
      have HBW := hid (HBR.out.trans (hb2.mono HBR.out.size))
      clear hb2 hv1 dc ec
      have hcase : (∃ a xs, r1 = some a ∧ readB a 4 = some xs) ∨ (lineN [110, 111, 100, 101] 4 line = none ∧ (r1 = none ∨ ∃ a, r1 = some a ∧ readB a 4 = none)) := by
        cases h1 : r1 with
        | none => exact .inr ⟨by simp [lineN, HR1.out, h1], .inl rfl⟩
        | some a =>
          cases h2 : readB a 4 with
          | none => exact .inr ⟨by simp [lineN, HR1.out, h1, h2], .inr ⟨a, rfl, h2⟩⟩
          | some xs => exact .inl ⟨a, xs, rfl, h2⟩
      have hXl := HX.out.lt
      have hZl := HZ.out.lt
      rcases hcase with ⟨a, xs, rfl, hx⟩ | ⟨hn1, hcase⟩
      · have hlc : Hid (lineS s line = some { s with nodes := s.nodes ++ [nodeSL xs] }) := by
          have z0 := hno.out.1 (by simp [intOf])
          have z1 := hno.out.2.1 (by simp [intOf])
          have z : lineN [110, 111, 100, 101] 4 line = some xs := by simp [lineN, HR1.out, hx]
          rw [Hid, lineS]
          simp only [z0, z1, z]
        obtain ⟨x0, x1, x2, x3, rfl⟩ := four_of ((readB_iff (by omega)).1 hx).1
        obtain ⟨ad, cp, rfl, hI⟩ := HV1.out _ hx
        obtain ⟨b, o, rfl, hbl, c0⟩ := hI.at 0 (by simp)
        replace c0 : w2.cell? ⟨b, o, none⟩ = some (.int .i64 x0) := c0
        obtain ⟨b', o', he, _, c1⟩ := hI.at 1 (by simp)
        cases he
        replace c1 : w2.cell? ⟨b, o + 1, none⟩ = some (.int .i64 x1) := c1
        obtain ⟨b', o', he, _, c2⟩ := hI.at 2 (by simp)
        cases he
        replace c2 : w2.cell? ⟨b, o + 2, none⟩ = some (.int .i64 x2) := c2
        obtain ⟨b', o', he, _, c3⟩ := hI.at 3 (by simp)
        cases he
        replace c3 : w2.cell? ⟨b, o + 3, none⟩ = some (.int .i64 x3) := c3
        have hsm : (readB a 4).isSome = true := by rw [hx]; rfl
        obtain ⟨inf98, i1, i2, i3, i4⟩ := info98
        have I1 := hid i1
        have I2 := hid i2
        have I3 := hid i3
        have I4 := hid i4
        clear i1 i2 i3 i4 hI HV1 hx
        have H2 := hid (H.out.keep HB.out)
        have H2o := hid H2.out.N
        have hvX : (Value.slice an s.nodes.length cn0).ownBlock ≠ some w.heap.size := fun hk => by have := HLT.out _ (.inr (.inl hk)); omega
        go_wp2_with fail
        refine wp_region_tc [[(2, none)], [(101, some 0)], [(11, none)], [(103, some 2)], [(104, some 3)], [(11, none)], [(106, some 5)], [(107, some 6)], [(11, none)], [(109, some 8)], [(110, some 9)], [(11, none)], [(112, some 11)], [(113, some 12)], [(105, some 4), (108, some 7), (111, some 10), (114, some 13)], [(115, some 14)], [(102, some 1), (116, some 15)], [(2, none)], [(118, some 17), (117, some 16)]]
          (fun i v => match i with | 0 => v = .pointer (some ⟨w.heap.size, 1, none⟩) | 1 => v = .slice an s.nodes.length cn0 | 2 => v = .slice (some ⟨b, o, none⟩) [x0, x1, x2, x3].length cp | 3 => v = .pointer (some ⟨b, o, none⟩) | 4 => v = .int .i64 x0 | 5 => v = .slice (some ⟨b, o, none⟩) [x0, x1, x2, x3].length cp | 6 => v = .pointer (some ⟨b, o + 1, none⟩) | 7 => v = .int .i64 x1 | 8 => v = .slice (some ⟨b, o, none⟩) [x0, x1, x2, x3].length cp | 9 => v = .pointer (some ⟨b, o + 2, none⟩) | 10 => v = .int .i64 x2 | 11 => v = .slice (some ⟨b, o, none⟩) [x0, x1, x2, x3].length cp | 12 => v = .pointer (some ⟨b, o + 3, none⟩) | 13 => v = .int .i64 x3 | 14 => v = .agg #[.int .i64 x0, .int .i64 x1, .int .i64 x2, .int .i64 x3] | 15 => True | 16 => True | 17 => v = .pointer (some ⟨w.heap.size, 1, none⟩) | _ => True)
          (AP 4 Nd.cell 98 B w2 (.slice an s.nodes.length cn0) s.nodes (nodeSL [x0, x1, x2, x3]) w.heap.size 36 #[(.slice ap s.pods.length cp0), (.slice an s.nodes.length cn0), (.slice aw s.works.length cw0), (.slice ag s.groups.length cg0), .int .i64 s.nextPod, .int .i64 s.nextNode] 1 15 16 18 116 117) 121 rfl (by kernel_rfl) (AP.start (by go_grown)) ⟨?_, ?_, ?_, ?_, ?_, ?_, ?_, ?_, ?_, ?_, ?_, ?_, ?_, ?_, ?_, ?_, ?_, ?_, ?_, trivial⟩ ?_
        · rintro t A w1 Q K hsz hts hu hbf haf hC hK ⟨e2, -⟩
          replace e2 : A.tmps[2]?.getD undef = .pointer (some ⟨w.heap.size, 0, none⟩) := e2
          simp [go_sem, e2]
          exact hK _ _ rfl (hC.other 0 101 _ (by decide) (by decide))
        · rintro t A w1 Q K hsz hts hu hbf haf hC hK ⟨e101, -⟩
          replace e101 : A.tmps[101]?.getD undef = .pointer (some ⟨w.heap.size, 1, none⟩) := e101
          have yb := (HX.out.below (hC.pre (haf 16 _ rfl (by kernel_rfl))).1 hXl).cell 1
          simp at yb
          simp [go_sem, e101, yb]
          exact hK _ _ rfl (hC.other 1 102 _ (by decide) (by decide))
        · rintro t A w1 Q K hsz hts hu hbf haf hC hK ⟨e11, -⟩
          replace e11 : A.tmps[11]?.getD undef = .slice (some ⟨b, o, none⟩) [x0, x1, x2, x3].length cp := e11
          simp [go_sem, e11]
          exact hK _ _ rfl (hC.other 2 103 _ (by decide) (by decide))
        · rintro t A w1 Q K hsz hts hu hbf haf hC hK ⟨e103, -⟩
          replace e103 : A.tmps[103]?.getD undef = .slice (some ⟨b, o, none⟩) [x0, x1, x2, x3].length cp := e103
          simp [go_sem, e103]
          exact hK _ _ rfl (hC.other 3 104 _ (by decide) (by decide))
        · rintro t A w1 Q K hsz hts hu hbf haf hC hK ⟨e104, -⟩
          replace e104 : A.tmps[104]?.getD undef = .pointer (some ⟨b, o, none⟩) := e104
          have yb := ((hC.pre (haf 16 _ rfl (by kernel_rfl))).1.cell (p := ⟨b, o, none⟩) hbl).trans c0
          simp [go_sem, e104, yb]
          exact hK _ _ rfl (hC.other 4 105 _ (by decide) (by decide))
        · rintro t A w1 Q K hsz hts hu hbf haf hC hK ⟨e11, -⟩
          replace e11 : A.tmps[11]?.getD undef = .slice (some ⟨b, o, none⟩) [x0, x1, x2, x3].length cp := e11
          simp [go_sem, e11]
          exact hK _ _ rfl (hC.other 5 106 _ (by decide) (by decide))
        · rintro t A w1 Q K hsz hts hu hbf haf hC hK ⟨e106, -⟩
          replace e106 : A.tmps[106]?.getD undef = .slice (some ⟨b, o, none⟩) [x0, x1, x2, x3].length cp := e106
          simp [go_sem, e106]
          exact hK _ _ rfl (hC.other 6 107 _ (by decide) (by decide))
        · rintro t A w1 Q K hsz hts hu hbf haf hC hK ⟨e107, -⟩
          replace e107 : A.tmps[107]?.getD undef = .pointer (some ⟨b, o + 1, none⟩) := e107
          have yb := ((hC.pre (haf 16 _ rfl (by kernel_rfl))).1.cell (p := ⟨b, o + 1, none⟩) hbl).trans c1
          simp [go_sem, e107, yb]
          exact hK _ _ rfl (hC.other 7 108 _ (by decide) (by decide))
        · rintro t A w1 Q K hsz hts hu hbf haf hC hK ⟨e11, -⟩
          replace e11 : A.tmps[11]?.getD undef = .slice (some ⟨b, o, none⟩) [x0, x1, x2, x3].length cp := e11
          simp [go_sem, e11]
          exact hK _ _ rfl (hC.other 8 109 _ (by decide) (by decide))
        · rintro t A w1 Q K hsz hts hu hbf haf hC hK ⟨e109, -⟩
          replace e109 : A.tmps[109]?.getD undef = .slice (some ⟨b, o, none⟩) [x0, x1, x2, x3].length cp := e109
          simp [go_sem, e109]
          exact hK _ _ rfl (hC.other 9 110 _ (by decide) (by decide))
        · rintro t A w1 Q K hsz hts hu hbf haf hC hK ⟨e110, -⟩
          replace e110 : A.tmps[110]?.getD undef = .pointer (some ⟨b, o + 2, none⟩) := e110
          have yb := ((hC.pre (haf 16 _ rfl (by kernel_rfl))).1.cell (p := ⟨b, o + 2, none⟩) hbl).trans c2
          simp [go_sem, e110, yb]
          exact hK _ _ rfl (hC.other 10 111 _ (by decide) (by decide))
        · rintro t A w1 Q K hsz hts hu hbf haf hC hK ⟨e11, -⟩
          replace e11 : A.tmps[11]?.getD undef = .slice (some ⟨b, o, none⟩) [x0, x1, x2, x3].length cp := e11
          simp [go_sem, e11]
          exact hK _ _ rfl (hC.other 11 112 _ (by decide) (by decide))
        · rintro t A w1 Q K hsz hts hu hbf haf hC hK ⟨e112, -⟩
          replace e112 : A.tmps[112]?.getD undef = .slice (some ⟨b, o, none⟩) [x0, x1, x2, x3].length cp := e112
          simp [go_sem, e112]
          exact hK _ _ rfl (hC.other 12 113 _ (by decide) (by decide))
        · rintro t A w1 Q K hsz hts hu hbf haf hC hK ⟨e113, -⟩
          replace e113 : A.tmps[113]?.getD undef = .pointer (some ⟨b, o + 3, none⟩) := e113
          have yb := ((hC.pre (haf 16 _ rfl (by kernel_rfl))).1.cell (p := ⟨b, o + 3, none⟩) hbl).trans c3
          simp [go_sem, e113, yb]
          exact hK _ _ rfl (hC.other 13 114 _ (by decide) (by decide))
        · rintro t A w1 Q K hsz hts hu hbf haf hC hK ⟨e105, e108, e111, e114, -⟩
          replace e105 : A.tmps[105]?.getD undef = .int .i64 x0 := e105
          replace e108 : A.tmps[108]?.getD undef = .int .i64 x1 := e108
          replace e111 : A.tmps[111]?.getD undef = .int .i64 x2 := e111
          replace e114 : A.tmps[114]?.getD undef = .int .i64 x3 := e114
          simp [go_sem, e105, e108, e111, e114]
          exact hK _ _ rfl (hC.other 14 115 _ (by decide) (by decide))
        · rintro t A w1 Q K hsz hts hu hbf haf hC hK ⟨e115, -⟩
          replace e115 : A.tmps[115]?.getD undef = .agg #[.int .i64 x0, .int .i64 x1, .int .i64 x2, .int .i64 x3] := e115
          simp [go_sem, e115]
          exact hK _ _ trivial (hC.new hu (haf 16 _ rfl (by kernel_rfl)) (haf 18 _ rfl (by kernel_rfl)) (by decide) (by rw [hts]; show 116 < 121; decide) (news := [.int .i64 x0, .int .i64 x1, .int .i64 x2, .int .i64 x3]) rfl)
        · rintro t A w1 Q K hsz hts hu hbf haf hC hK ⟨e102, e116, -⟩
          replace e102 : A.tmps[102]?.getD undef = (.slice an s.nodes.length cn0) := e102
          clear e116
          obtain ⟨hp, hy⟩ := hC.pre (getD_tf hu).1
          obtain ⟨bb, hy, hbk⟩ := hy (hbf 15 (by kernel_rfl))
          replace hy : A.tmps[116]?.getD undef = .slice (some ⟨bb, 0, none⟩) 1 1 := hy
          replace hbk : Blk w1 bb #[.int .i64 x0, .int .i64 x1, .int .i64 x2, .int .i64 x3] 98 := hbk
          refine oper_append_at rfl (.tmp 102) (.tmp 116) 32 rfl B 98 inf98 _ 4 32 Tryz.underlying32 I1.out I2.out I3.out I4.out (by rfl) (by omega) (.slice an s.nodes.length cn0) s.nodes.length (flat 4 Nd.cell s.nodes) (by simp [go_sem, e102]) (H2o.out.keep hp) ⟨bb, 0, none⟩ 1 1 [.int .i64 x0, .int .i64 x1, .int .i64 x2, .int .i64 x3] (by simp [go_sem, hy]) (by rfl) (fun q u hq => by rw [addmid, Nat.zero_add, hbk.cell]; simpa using hq) (by intro u hu; simp at hu; rcases hu with rfl | rfl | rfl | rfl <;> rfl) (by unfold maxLen; omega) (by omega) (by have := hp.size; have := HB.out.size; omega) ?_
          intro z2 w3 hown hgrow hfr
          exact hK z2 w3 trivial (hC.app hu (haf 18 _ rfl (by kernel_rfl)) (by decide) (by rw [hts]; show 117 < 121; decide) HX.out hvX (news := [.int .i64 x0, .int .i64 x1, .int .i64 x2, .int .i64 x3]) rfl hown hgrow hfr)
        · rintro t A w1 Q K hsz hts hu hbf haf hC hK ⟨e2, -⟩
          replace e2 : A.tmps[2]?.getD undef = .pointer (some ⟨w.heap.size, 0, none⟩) := e2
          simp [go_sem, e2]
          exact hK _ _ rfl (hC.other 17 118 _ (by decide) (by decide))
        · rintro t A w1 Q K hsz hts hu hbf haf hC hK ⟨e118, e117, -⟩
          replace e118 : A.tmps[118]?.getD undef = .pointer (some ⟨w.heap.size, 1, none⟩) := e118
          clear e117
          have hA := hbf 16 (by kernel_rfl)
          have hq := hC.mid hA (getD_tf hu).1
          obtain ⟨a9, c9, hz, -⟩ := hq.own.form
          have e68 : A.tmps[117]?.getD undef = .slice a9 (s.nodes ++ [(nodeSL [x0, x1, x2, x3])]).length c9 := hz
          have X := hq.box.cell 1
          have F := hq.box.frozen 1
          simp at X
          have hl := hC.last (f := 1) hu hA (by decide) hvX hXl (u := undef) hz
          clear hq hC hz
          simp [go_sem, e118, e68, X, F]
          refine hK undef _ trivial ?_
          simpa using hl
        · intro a' w3 ha' hC'
          refine fun v0 h0 v1 h1 v2 h2 v3 h3 v4 h4 v5 h5 v6 h6 v7 h7 v8 h8 v9 h9 v10 h10 v11 h11 v12 h12 v13 h13 v14 h14 v15 h15 v16 h16 v17 h17 => ?_
          intro he
          subst he
          have hq := hC'.fin (by simp)
          simp [Act.put, ev] at hq
          clear hC' ha' hvX h0 h1 h2 h3 h4 h5 h6 h7 h8 h9 h10 h11 h12 h13 h14 h15 h16 h17
          obtain ⟨a9, c9, rfl, -⟩ := hq.own.form
          have hX3 : Blk w3 w.heap.size #[(.slice ap s.pods.length cp0), (.slice a9 (s.nodes ++ [(nodeSL [x0, x1, x2, x3])]).length c9), (.slice aw s.works.length cw0), (.slice ag s.groups.length cg0), .int .i64 s.nextPod, .int .i64 s.nextNode] 36 := hq.box
          have hZ3 := HZ.out.only hq.only (fun e => e.elim (fun e => by have := HLT.out _ (.inr (.inl e)); omega) (fun e => by omega))
          have x0c := hX3.cell
          have z0c := hZ3.cell
          have z0f := hZ3.frozen
          have z0l := hZ3.lt
          have x0l := hX3.lt
          simp only [Act.put, List.setIfInBounds_toArray, List.set_cons_zero, List.set_cons_succ]
          have HH := hid (os_node HB.out H2.out HLT.out hq (Nat.le_refl _))
          clear hq hX3 hZ3
          go_wp2
          obtain ⟨g1, g2, g3, g4⟩ := HH.out
          refine bodyPost_ret (v := .tuple #[svl (.slice ap s.pods.length cp0) (.slice a9 (s.nodes ++ [(nodeSL [x0, x1, x2, x3])]).length c9) (.slice aw s.works.length cw0) (.slice ag s.groups.length cg0) { s with nodes := s.nodes ++ [(nodeSL [x0, x1, x2, x3])] }, .bool true]) (by simp [results, Tryz.results28, go_sem, *]) rfl ⟨(.slice ap s.pods.length cp0), (.slice a9 (s.nodes ++ [(nodeSL [x0, x1, x2, x3])]).length c9), (.slice aw s.works.length cw0), (.slice ag s.groups.length cg0), ?_, by rw [hlc.out]; rfl, g2, g3.far6 (by omega) _ _ _ _ _ _⟩
          rw [hlc.out]
          refine OS.far6 g1 (fun e => ?_) _ _ _ _ _ _
          have := g4 _ e
          have := HBr.out.size
          omega
      · have HNO : Hid (noS (intOf (.int .i64 3)).toNat line) := ⟨fun _ => hno.out.1 (by simp [intOf]), fun _ => hno.out.2.1 (by simp [intOf]), fun _ => hn1, fun h => by simp [intOf] at h⟩
        clear hno HV1 hn1
        rcases hcase with rfl | ⟨a, rfl, hra⟩
        · go_wp2
          go_roundw
          case rel => exact ⟨.inr (.inr (.inr (.inl rfl))), HNO.out, HBW.out⟩
          case measure => simp [intOf]
        · have hrb : (readB a 4).isSome = false := by rw [hra]; rfl
          clear hra
          go_wp2
          go_roundw
          case rel => exact ⟨.inr (.inr (.inr (.inl rfl))), HNO.out, HBW.out⟩
          case measure => simp [intOf]
    · go_wp2_with fail
      refine (rest_any line [112, 111, 100] _ (by omega) (by simp)).mono ?_
      rintro e w' ⟨rfl, rfl⟩
      have hl1 : ((restB line [112, 111, 100]).getD []).length ≤ 4000 := by
        cases hr : restB line [112, 111, 100] with
        | none => simp
        | some a => have := rest_len hr; simp; omega
      obtain ⟨r1, hr1⟩ : ∃ r1, restB line [112, 111, 100] = r1 := ⟨_, rfl⟩
      rw [hr1] at hl1 ⊢
      have HR1 := hid hr1
      clear hr1
      go_wp2_with fail
      refine (read_any (r1.getD []) 5 _ (by omega) (by omega)).mono ?_
      rintro e w2 ⟨v1, rfl, hv1, hb2⟩
      have HV1 := hid hv1
      have HX := hid (HXr.out.below hb2 HXr.out.lt)
      have HZ := hid (HZr.out.below hb2 HZr.out.lt)
      have HB := hid (HBr.out.trans (hb2.mono HBr.out.size))
      have HBW := hid (HBR.out.trans (hb2.mono HBR.out.size))
      clear hb2 hv1 dc ec
      have hcase : (∃ a xs, r1 = some a ∧ readB a 5 = some xs) ∨ (lineN [112, 111, 100] 5 line = none ∧ (r1 = none ∨ ∃ a, r1 = some a ∧ readB a 5 = none)) := by
        cases h1 : r1 with
        | none => exact .inr ⟨by simp [lineN, HR1.out, h1], .inl rfl⟩
        | some a =>
          cases h2 : readB a 5 with
          | none => exact .inr ⟨by simp [lineN, HR1.out, h1, h2], .inr ⟨a, rfl, h2⟩⟩
          | some xs => exact .inl ⟨a, xs, rfl, h2⟩
      have hXl := HX.out.lt
      have hZl := HZ.out.lt
      rcases hcase with ⟨a, xs, rfl, hx⟩ | ⟨hn1, hcase⟩
      · have hlc : Hid (lineS s line = some { s with pods := s.pods ++ [podSL xs] }) := by
          have z0 := hno.out.1 (by simp [intOf])
          have z1 := hno.out.2.1 (by simp [intOf])
          have z2 := hno.out.2.2.1 (by simp [intOf])
          have z : lineN [112, 111, 100] 5 line = some xs := by simp [lineN, HR1.out, hx]
          rw [Hid, lineS]
          simp only [z0, z1, z2, z]
        obtain ⟨x0, x1, x2, x3, x4, rfl⟩ := five_of ((readB_iff (by omega)).1 hx).1
        obtain ⟨ad, cp, rfl, hI⟩ := HV1.out _ hx
        obtain ⟨b, o, rfl, hbl, c0⟩ := hI.at 0 (by simp)
        replace c0 : w2.cell? ⟨b, o, none⟩ = some (.int .i64 x0) := c0
        obtain ⟨b', o', he, _, c1⟩ := hI.at 1 (by simp)
        cases he
        replace c1 : w2.cell? ⟨b, o + 1, none⟩ = some (.int .i64 x1) := c1
        obtain ⟨b', o', he, _, c2⟩ := hI.at 2 (by simp)
        cases he
        replace c2 : w2.cell? ⟨b, o + 2, none⟩ = some (.int .i64 x2) := c2
        obtain ⟨b', o', he, _, c3⟩ := hI.at 3 (by simp)
        cases he
        replace c3 : w2.cell? ⟨b, o + 3, none⟩ = some (.int .i64 x3) := c3
        obtain ⟨b', o', he, _, c4⟩ := hI.at 4 (by simp)
        cases he
        replace c4 : w2.cell? ⟨b, o + 4, none⟩ = some (.int .i64 x4) := c4
        have hsm : (readB a 5).isSome = true := by rw [hx]; rfl
        obtain ⟨inf100, i1, i2, i3, i4⟩ := info100
        have I1 := hid i1
        have I2 := hid i2
        have I3 := hid i3
        have I4 := hid i4
        clear i1 i2 i3 i4 hI HV1 hx
        have H2 := hid (H.out.keep HB.out)
        have H2o := hid H2.out.P
        have hvX : (Value.slice ap s.pods.length cp0).ownBlock ≠ some w.heap.size := fun hk => by have := HLT.out _ (.inl hk); omega
        go_wp2_with fail
        refine wp_region_tc [[(2, none)], [(44, some 0)], [(11, none)], [(46, some 2)], [(47, some 3)], [(11, none)], [(49, some 5)], [(50, some 6)], [(11, none)], [(52, some 8)], [(53, some 9)], [(11, none)], [(55, some 11)], [(56, some 12)], [(11, none)], [(58, some 14)], [(59, some 15)], [(48, some 4), (51, some 7), (54, some 10), (57, some 13), (60, some 16)], [(61, some 17)], [(45, some 1), (62, some 18)], [(2, none)], [(64, some 20), (63, some 19)]]
          (fun i v => match i with | 0 => v = .pointer (some ⟨w.heap.size, 0, none⟩) | 1 => v = .slice ap s.pods.length cp0 | 2 => v = .slice (some ⟨b, o, none⟩) [x0, x1, x2, x3, x4].length cp | 3 => v = .pointer (some ⟨b, o, none⟩) | 4 => v = .int .i64 x0 | 5 => v = .slice (some ⟨b, o, none⟩) [x0, x1, x2, x3, x4].length cp | 6 => v = .pointer (some ⟨b, o + 1, none⟩) | 7 => v = .int .i64 x1 | 8 => v = .slice (some ⟨b, o, none⟩) [x0, x1, x2, x3, x4].length cp | 9 => v = .pointer (some ⟨b, o + 2, none⟩) | 10 => v = .int .i64 x2 | 11 => v = .slice (some ⟨b, o, none⟩) [x0, x1, x2, x3, x4].length cp | 12 => v = .pointer (some ⟨b, o + 3, none⟩) | 13 => v = .int .i64 x3 | 14 => v = .slice (some ⟨b, o, none⟩) [x0, x1, x2, x3, x4].length cp | 15 => v = .pointer (some ⟨b, o + 4, none⟩) | 16 => v = .int .i64 x4 | 17 => v = .agg #[.int .i64 x0, .int .i64 x1, .int .i64 x2, .int .i64 x3, .int .i64 x4] | 18 => True | 19 => True | 20 => v = .pointer (some ⟨w.heap.size, 0, none⟩) | _ => True)
          (AP 5 Pd.cell 100 B w2 (.slice ap s.pods.length cp0) s.pods (podSL [x0, x1, x2, x3, x4]) w.heap.size 36 #[(.slice ap s.pods.length cp0), (.slice an s.nodes.length cn0), (.slice aw s.works.length cw0), (.slice ag s.groups.length cg0), .int .i64 s.nextPod, .int .i64 s.nextNode] 0 18 19 21 62 63) 121 rfl (by kernel_rfl) (AP.start (by go_grown)) ⟨?_, ?_, ?_, ?_, ?_, ?_, ?_, ?_, ?_, ?_, ?_, ?_, ?_, ?_, ?_, ?_, ?_, ?_, ?_, ?_, ?_, ?_, trivial⟩ ?_
        · rintro t A w1 Q K hsz hts hu hbf haf hC hK ⟨e2, -⟩
          replace e2 : A.tmps[2]?.getD undef = .pointer (some ⟨w.heap.size, 0, none⟩) := e2
          simp [go_sem, e2]
          exact hK _ _ rfl (hC.other 0 44 _ (by decide) (by decide))
        · rintro t A w1 Q K hsz hts hu hbf haf hC hK ⟨e44, -⟩
          replace e44 : A.tmps[44]?.getD undef = .pointer (some ⟨w.heap.size, 0, none⟩) := e44
          have yb := (HX.out.below (hC.pre (haf 19 _ rfl (by kernel_rfl))).1 hXl).cell 0
          simp at yb
          simp [go_sem, e44, yb]
          exact hK _ _ rfl (hC.other 1 45 _ (by decide) (by decide))
        · rintro t A w1 Q K hsz hts hu hbf haf hC hK ⟨e11, -⟩
          replace e11 : A.tmps[11]?.getD undef = .slice (some ⟨b, o, none⟩) [x0, x1, x2, x3, x4].length cp := e11
          simp [go_sem, e11]
          exact hK _ _ rfl (hC.other 2 46 _ (by decide) (by decide))
        · rintro t A w1 Q K hsz hts hu hbf haf hC hK ⟨e46, -⟩
          replace e46 : A.tmps[46]?.getD undef = .slice (some ⟨b, o, none⟩) [x0, x1, x2, x3, x4].length cp := e46
          simp [go_sem, e46]
          exact hK _ _ rfl (hC.other 3 47 _ (by decide) (by decide))
        · rintro t A w1 Q K hsz hts hu hbf haf hC hK ⟨e47, -⟩
          replace e47 : A.tmps[47]?.getD undef = .pointer (some ⟨b, o, none⟩) := e47
          have yb := ((hC.pre (haf 19 _ rfl (by kernel_rfl))).1.cell (p := ⟨b, o, none⟩) hbl).trans c0
          simp [go_sem, e47, yb]
          exact hK _ _ rfl (hC.other 4 48 _ (by decide) (by decide))
        · rintro t A w1 Q K hsz hts hu hbf haf hC hK ⟨e11, -⟩
          replace e11 : A.tmps[11]?.getD undef = .slice (some ⟨b, o, none⟩) [x0, x1, x2, x3, x4].length cp := e11
          simp [go_sem, e11]
          exact hK _ _ rfl (hC.other 5 49 _ (by decide) (by decide))
        · rintro t A w1 Q K hsz hts hu hbf haf hC hK ⟨e49, -⟩
          replace e49 : A.tmps[49]?.getD undef = .slice (some ⟨b, o, none⟩) [x0, x1, x2, x3, x4].length cp := e49
          simp [go_sem, e49]
          exact hK _ _ rfl (hC.other 6 50 _ (by decide) (by decide))
        · rintro t A w1 Q K hsz hts hu hbf haf hC hK ⟨e50, -⟩
          replace e50 : A.tmps[50]?.getD undef = .pointer (some ⟨b, o + 1, none⟩) := e50
          have yb := ((hC.pre (haf 19 _ rfl (by kernel_rfl))).1.cell (p := ⟨b, o + 1, none⟩) hbl).trans c1
          simp [go_sem, e50, yb]
          exact hK _ _ rfl (hC.other 7 51 _ (by decide) (by decide))
        · rintro t A w1 Q K hsz hts hu hbf haf hC hK ⟨e11, -⟩
          replace e11 : A.tmps[11]?.getD undef = .slice (some ⟨b, o, none⟩) [x0, x1, x2, x3, x4].length cp := e11
          simp [go_sem, e11]
          exact hK _ _ rfl (hC.other 8 52 _ (by decide) (by decide))
        · rintro t A w1 Q K hsz hts hu hbf haf hC hK ⟨e52, -⟩
          replace e52 : A.tmps[52]?.getD undef = .slice (some ⟨b, o, none⟩) [x0, x1, x2, x3, x4].length cp := e52
          simp [go_sem, e52]
          exact hK _ _ rfl (hC.other 9 53 _ (by decide) (by decide))
        · rintro t A w1 Q K hsz hts hu hbf haf hC hK ⟨e53, -⟩
          replace e53 : A.tmps[53]?.getD undef = .pointer (some ⟨b, o + 2, none⟩) := e53
          have yb := ((hC.pre (haf 19 _ rfl (by kernel_rfl))).1.cell (p := ⟨b, o + 2, none⟩) hbl).trans c2
          simp [go_sem, e53, yb]
          exact hK _ _ rfl (hC.other 10 54 _ (by decide) (by decide))
        · rintro t A w1 Q K hsz hts hu hbf haf hC hK ⟨e11, -⟩
          replace e11 : A.tmps[11]?.getD undef = .slice (some ⟨b, o, none⟩) [x0, x1, x2, x3, x4].length cp := e11
          simp [go_sem, e11]
          exact hK _ _ rfl (hC.other 11 55 _ (by decide) (by decide))
        · rintro t A w1 Q K hsz hts hu hbf haf hC hK ⟨e55, -⟩
          replace e55 : A.tmps[55]?.getD undef = .slice (some ⟨b, o, none⟩) [x0, x1, x2, x3, x4].length cp := e55
          simp [go_sem, e55]
          exact hK _ _ rfl (hC.other 12 56 _ (by decide) (by decide))
        · rintro t A w1 Q K hsz hts hu hbf haf hC hK ⟨e56, -⟩
          replace e56 : A.tmps[56]?.getD undef = .pointer (some ⟨b, o + 3, none⟩) := e56
          have yb := ((hC.pre (haf 19 _ rfl (by kernel_rfl))).1.cell (p := ⟨b, o + 3, none⟩) hbl).trans c3
          simp [go_sem, e56, yb]
          exact hK _ _ rfl (hC.other 13 57 _ (by decide) (by decide))
        · rintro t A w1 Q K hsz hts hu hbf haf hC hK ⟨e11, -⟩
          replace e11 : A.tmps[11]?.getD undef = .slice (some ⟨b, o, none⟩) [x0, x1, x2, x3, x4].length cp := e11
          simp [go_sem, e11]
          exact hK _ _ rfl (hC.other 14 58 _ (by decide) (by decide))
        · rintro t A w1 Q K hsz hts hu hbf haf hC hK ⟨e58, -⟩
          replace e58 : A.tmps[58]?.getD undef = .slice (some ⟨b, o, none⟩) [x0, x1, x2, x3, x4].length cp := e58
          simp [go_sem, e58]
          exact hK _ _ rfl (hC.other 15 59 _ (by decide) (by decide))
        · rintro t A w1 Q K hsz hts hu hbf haf hC hK ⟨e59, -⟩
          replace e59 : A.tmps[59]?.getD undef = .pointer (some ⟨b, o + 4, none⟩) := e59
          have yb := ((hC.pre (haf 19 _ rfl (by kernel_rfl))).1.cell (p := ⟨b, o + 4, none⟩) hbl).trans c4
          simp [go_sem, e59, yb]
          exact hK _ _ rfl (hC.other 16 60 _ (by decide) (by decide))
        · rintro t A w1 Q K hsz hts hu hbf haf hC hK ⟨e48, e51, e54, e57, e60, -⟩
          replace e48 : A.tmps[48]?.getD undef = .int .i64 x0 := e48
          replace e51 : A.tmps[51]?.getD undef = .int .i64 x1 := e51
          replace e54 : A.tmps[54]?.getD undef = .int .i64 x2 := e54
          replace e57 : A.tmps[57]?.getD undef = .int .i64 x3 := e57
          replace e60 : A.tmps[60]?.getD undef = .int .i64 x4 := e60
          simp [go_sem, e48, e51, e54, e57, e60]
          exact hK _ _ rfl (hC.other 17 61 _ (by decide) (by decide))
        · rintro t A w1 Q K hsz hts hu hbf haf hC hK ⟨e61, -⟩
          replace e61 : A.tmps[61]?.getD undef = .agg #[.int .i64 x0, .int .i64 x1, .int .i64 x2, .int .i64 x3, .int .i64 x4] := e61
          simp [go_sem, e61]
          exact hK _ _ trivial (hC.new hu (haf 19 _ rfl (by kernel_rfl)) (haf 21 _ rfl (by kernel_rfl)) (by decide) (by rw [hts]; show 62 < 121; decide) (news := [.int .i64 x0, .int .i64 x1, .int .i64 x2, .int .i64 x3, .int .i64 x4]) rfl)
        · rintro t A w1 Q K hsz hts hu hbf haf hC hK ⟨e45, e62, -⟩
          replace e45 : A.tmps[45]?.getD undef = (.slice ap s.pods.length cp0) := e45
          clear e62
          obtain ⟨hp, hy⟩ := hC.pre (getD_tf hu).1
          obtain ⟨bb, hy, hbk⟩ := hy (hbf 18 (by kernel_rfl))
          replace hy : A.tmps[62]?.getD undef = .slice (some ⟨bb, 0, none⟩) 1 1 := hy
          replace hbk : Blk w1 bb #[.int .i64 x0, .int .i64 x1, .int .i64 x2, .int .i64 x3, .int .i64 x4] 100 := hbk
          refine oper_append_at rfl (.tmp 45) (.tmp 62) 31 rfl B 100 inf100 _ 5 40 Tryz.underlying31 I1.out I2.out I3.out I4.out (by rfl) (by omega) (.slice ap s.pods.length cp0) s.pods.length (flat 5 Pd.cell s.pods) (by simp [go_sem, e45]) (H2o.out.keep hp) ⟨bb, 0, none⟩ 1 1 [.int .i64 x0, .int .i64 x1, .int .i64 x2, .int .i64 x3, .int .i64 x4] (by simp [go_sem, hy]) (by rfl) (fun q u hq => by rw [addmid, Nat.zero_add, hbk.cell]; simpa using hq) (by intro u hu; simp at hu; rcases hu with rfl | rfl | rfl | rfl | rfl <;> rfl) (by unfold maxLen; omega) (by omega) (by have := hp.size; have := HB.out.size; omega) ?_
          intro z2 w3 hown hgrow hfr
          exact hK z2 w3 trivial (hC.app hu (haf 21 _ rfl (by kernel_rfl)) (by decide) (by rw [hts]; show 63 < 121; decide) HX.out hvX (news := [.int .i64 x0, .int .i64 x1, .int .i64 x2, .int .i64 x3, .int .i64 x4]) rfl hown hgrow hfr)
        · rintro t A w1 Q K hsz hts hu hbf haf hC hK ⟨e2, -⟩
          replace e2 : A.tmps[2]?.getD undef = .pointer (some ⟨w.heap.size, 0, none⟩) := e2
          simp [go_sem, e2]
          exact hK _ _ rfl (hC.other 20 64 _ (by decide) (by decide))
        · rintro t A w1 Q K hsz hts hu hbf haf hC hK ⟨e64, e63, -⟩
          replace e64 : A.tmps[64]?.getD undef = .pointer (some ⟨w.heap.size, 0, none⟩) := e64
          clear e63
          have hA := hbf 19 (by kernel_rfl)
          have hq := hC.mid hA (getD_tf hu).1
          obtain ⟨a9, c9, hz, -⟩ := hq.own.form
          have e68 : A.tmps[63]?.getD undef = .slice a9 (s.pods ++ [(podSL [x0, x1, x2, x3, x4])]).length c9 := hz
          have X := hq.box.cell 0
          have F := hq.box.frozen 0
          simp at X
          have hl := hC.last (f := 0) hu hA (by decide) hvX hXl (u := undef) hz
          clear hq hC hz
          simp [go_sem, e64, e68, X, F]
          refine hK undef _ trivial ?_
          simpa using hl
        · intro a' w3 ha' hC'
          refine fun v0 h0 v1 h1 v2 h2 v3 h3 v4 h4 v5 h5 v6 h6 v7 h7 v8 h8 v9 h9 v10 h10 v11 h11 v12 h12 v13 h13 v14 h14 v15 h15 v16 h16 v17 h17 v18 h18 v19 h19 v20 h20 => ?_
          intro he
          subst he
          have hq := hC'.fin (by simp)
          simp [Act.put, ev] at hq
          clear hC' ha' hvX h0 h1 h2 h3 h4 h5 h6 h7 h8 h9 h10 h11 h12 h13 h14 h15 h16 h17 h18 h19 h20
          obtain ⟨a9, c9, rfl, -⟩ := hq.own.form
          have hX3 : Blk w3 w.heap.size #[(.slice a9 (s.pods ++ [(podSL [x0, x1, x2, x3, x4])]).length c9), (.slice an s.nodes.length cn0), (.slice aw s.works.length cw0), (.slice ag s.groups.length cg0), .int .i64 s.nextPod, .int .i64 s.nextNode] 36 := hq.box
          have hZ3 := HZ.out.only hq.only (fun e => e.elim (fun e => by have := HLT.out _ (.inl e); omega) (fun e => by omega))
          have x0c := hX3.cell
          have z0c := hZ3.cell
          have z0f := hZ3.frozen
          have z0l := hZ3.lt
          have x0l := hX3.lt
          simp only [Act.put, List.setIfInBounds_toArray, List.set_cons_zero, List.set_cons_succ]
          have HH := hid (os_pod HB.out H2.out HLT.out hq (Nat.le_refl _))
          clear hq hX3 hZ3
          go_wp2
          obtain ⟨g1, g2, g3, g4⟩ := HH.out
          refine bodyPost_ret (v := .tuple #[svl (.slice a9 (s.pods ++ [(podSL [x0, x1, x2, x3, x4])]).length c9) (.slice an s.nodes.length cn0) (.slice aw s.works.length cw0) (.slice ag s.groups.length cg0) { s with pods := s.pods ++ [(podSL [x0, x1, x2, x3, x4])] }, .bool true]) (by simp [results, Tryz.results28, go_sem, *]) rfl ⟨(.slice a9 (s.pods ++ [(podSL [x0, x1, x2, x3, x4])]).length c9), (.slice an s.nodes.length cn0), (.slice aw s.works.length cw0), (.slice ag s.groups.length cg0), ?_, by rw [hlc.out]; rfl, g2, g3.far6 (by omega) _ _ _ _ _ _⟩
          rw [hlc.out]
          refine OS.far6 g1 (fun e => ?_) _ _ _ _ _ _
          have := g4 _ e
          have := HBr.out.size
          omega
      · have HNO : Hid (noS (intOf (.int .i64 4)).toNat line) := ⟨fun _ => hno.out.1 (by simp [intOf]), fun _ => hno.out.2.1 (by simp [intOf]), fun _ => hno.out.2.2.1 (by simp [intOf]), fun _ => hn1⟩
        clear hno HV1 hn1
        rcases hcase with rfl | ⟨a, rfl, hra⟩
        · go_wp2
          go_roundw
          case rel => exact ⟨.inr (.inr (.inr (.inr rfl))), HNO.out, HBW.out⟩
          case measure => simp [intOf]
        · have hrb : (readB a 5).isSome = false := by rw [hra]; rfl
          clear hra
          go_wp2
          go_roundw
          case rel => exact ⟨.inr (.inr (.inr (.inr rfl))), HNO.out, HBW.out⟩
          case measure => simp [intOf]
    · have hno2 : Hid (lineS s line = none) := by
        have z0 := hno.out.1 (by simp [intOf])
        have z1 := hno.out.2.1 (by simp [intOf])
        have z2 := hno.out.2.2.1 (by simp [intOf])
        have z3 := hno.out.2.2.2 (by simp [intOf])
        rw [Hid, lineS]
        simp only [z0, z1, z2, z3]
      have x0c := HXr.out.cell
      have z0c := HZr.out.cell
      have z0f := HZr.out.frozen
      have zlr := HZr.out.lt
      clear hno dc ec
      go_wp2
      refine bodyPost_ret (v := .tuple #[svl (.slice ap s.pods.length cp0) (.slice an s.nodes.length cn0) (.slice aw s.works.length cw0) (.slice ag s.groups.length cg0) s, .bool false]) (by simp [results, Tryz.results28, go_sem, *]) rfl ⟨(.slice ap s.pods.length cp0), (.slice an s.nodes.length cn0), (.slice aw s.works.length cw0), (.slice ag s.groups.length cg0), ?_, by rw [hno2.out]; rfl, fun k hk => .inl hk, (Only.of_below HBr.out).far6 (by omega) _ _ _ _ _ _⟩
      rw [hno2.out]
      exact (H.out.keep HBr.out).far6 (fun e => by have := HLT.out _ e; omega) _ _ _ _ _ _
end Go.Proofs.YthdlkpgialmlfaaGreatDoor
