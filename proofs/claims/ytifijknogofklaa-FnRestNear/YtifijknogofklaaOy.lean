/- Worlds in which nothing but the blocks of a set has turned. -/
import Derived.Test.YtifijknogofklaaDd
namespace Go.Proofs.Ytifijknogofklaa
open Go.RowKit

/-- Nothing has turned but blocks of S. -/
structure Only (S : Nat → Prop) (w w' : World) : Prop where
  os : w'.os = w.os
  tape : w'.tape = w.tape
  output : w'.output = w.output
  size : w.heap.size ≤ w'.heap.size
  block : ∀ k, k < w.heap.size → ¬ S k → w'.heap[k]? = w.heap[k]?
theorem Only.refl (S : Nat → Prop) (w : World) : Only S w w := ⟨rfl, rfl, rfl, Nat.le_refl _, fun _ _ _ => rfl⟩
theorem Only.trans {S : Nat → Prop} {w w' w'' : World} (h : Only S w w') (h' : Only S w' w'') : Only S w w'' :=
  ⟨h'.os.trans h.os, h'.tape.trans h.tape, h'.output.trans h.output, Nat.le_trans h.size h'.size, fun k hk hS => (h'.block k (Nat.lt_of_lt_of_le hk h.size) hS).trans (h.block k hk hS)⟩
theorem Only.mono {S S' : Nat → Prop} {w w' : World} (h : Only S w w') (hS : ∀ k, S k → S' k) : Only S' w w' := ⟨h.os, h.tape, h.output, h.size, fun k hk h' => h.block k hk (fun e => h' (hS k e))⟩
theorem Only.set {S : Nat → Prop} {w w' : World} (h : Only S w w') {p : Addr} (hp : S p.block) (u : Value) : Only S w (w'.setCell p u) :=
  ⟨h.os, h.tape, h.output, by simpa using h.size, fun k hk hS => (Below.heap_setCell _ _ _ _ (fun e => hS (by rw [e]; exact hp))).trans (h.block k hk hS)⟩
theorem Only.of_below {S : Nat → Prop} {w w' : World} (h : Below w.heap.size w w') : Only S w w' := ⟨h.os, h.tape, h.output, h.size, fun k hk _ => h.block k hk⟩
theorem Only.of_but {S : Nat → Prop} {w w' : World} {r : Nat} (h : But r w w') (hr : S r) : Only S w w' := ⟨h.os, h.tape, h.output, h.size, fun k hk hS => h.block k (fun e => hS (e ▸ hr)) hk⟩
theorem Only.drew {S : Nat → Prop} {w w' : World} (h : Only S w w') : Only S w w'.drew := ⟨h.os, h.tape, h.output, h.size, h.block⟩
theorem Only.alloc {S : Nat → Prop} {w w' : World} (h : Only S w w') (o : Obj) : Only S w (w'.alloc o) :=
  h.trans (.of_below (by go_grown))
theorem Only.below {S : Nat → Prop} {w w' : World} {B : Nat} (h : Only S w w') (hB : ∀ k, k < B → k < w.heap.size ∧ ¬ S k) : Below B w w' := ⟨h.os, h.tape, h.output, h.size, fun k hk => h.block k (hB k hk).1 (hB k hk).2⟩
theorem Blk.only {S : Nat → Prop} {w w' : World} {b : Nat} {cs : Array Value} {T : TypeId} (h : Blk w b cs T) (ho : Only S w w') (hb : ¬ S b) : Blk w' b cs T := (ho.block b h.lt hb).trans h
theorem Only.cell0 {S : Nat → Prop} {w w' : World} {g : Nat} (ho : Only S w w') (hs : ¬ S g) (hl : g < w.heap.size) (o : Nat) : w'.cell? ⟨g, o, none⟩ = w.cell? ⟨g, o, none⟩ := by
  have h := ho.block g hl hs
  simp only [World.cell?, h]
theorem WorksAt.only {S : Nat → Prop} {w w' : World} {g : Nat} {l : List Wk} (h : WorksAt w (some ⟨g, 0, none⟩) l) (ho : Only S w w') (hs : ¬ S g) : WorksAt w' (some ⟨g, 0, none⟩) l := by
  rcases h with h | ⟨b, o, ha, hl, hc⟩
  · exact .inl h
  · cases ha
    exact .inr ⟨g, 0, rfl, Nat.lt_of_lt_of_le hl ho.size, fun i hi j hj => (ho.cell0 hs hl _).trans (hc i hi j hj)⟩
theorem GroupsAt.only {S : Nat → Prop} {w w' : World} {g : Nat} {l : List Gp} (h : GroupsAt w (some ⟨g, 0, none⟩) l) (ho : Only S w w') (hs : ¬ S g) : GroupsAt w' (some ⟨g, 0, none⟩) l := by
  rcases h with h | ⟨b, o, ha, hl, hc⟩
  · exact .inl h
  · cases ha
    exact .inr ⟨g, 0, rfl, Nat.lt_of_lt_of_le hl ho.size, fun i hi j hj => (ho.cell0 hs hl _).trans (hc i hi j hj)⟩
end Go.Proofs.Ytifijknogofklaa
