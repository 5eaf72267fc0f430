/- Regions that draw their order and lay a record behind a row of one's own. -/
import Derived.Test.YthdlkpgialmlfaaGreatDoorTy
import Derived.Test.YthdlkpgialmlfaaGreatDoorOw
namespace Go.Proofs.YthdlkpgialmlfaaGreatDoor
open Go.RowKit

/-- What is asked of one operation. -/
def obligc (P : Program) (l : List Oper) (a0 : Act) (T : Nat → Value → Prop) (C : Array Bool → Act → World → Prop) (i : Nat) (o : Oper) (row : Src) : Prop :=
  ∀ (s : Array Bool) (A : Act) (w : World) (Q : Exit → Act → World → Prop) (K : Act → World → Prop), s.size = l.length → A.tmps.size = a0.tmps.size → s.getD i true = false → (∀ j, waits l (l.length + 1) o j = true → s.getD j false = true) → (∀ j y, l[j]? = some y → waits l (l.length + 1) y i = true → s.getD j false = false) → C s A w → (∀ v w', T i v → C (s.setIfInBounds i true) (A.put o.dst v) w' → K (A.put o.dst v) w') → facts l a0 A (fun j v _ => T j v) w row → o.wp P A w K Q
def obligcs (P : Program) (l : List Oper) (a0 : Act) (T : Nat → Value → Prop) (C : Array Bool → Act → World → Prop) : Nat → List Oper → List Src → Prop
  | i, o :: os, r :: rs => obligc P l a0 T C i o r ∧ obligcs P l a0 T C (i + 1) os rs
  | _, [], _ => True
  | _, _ :: _, [] => False
theorem obligcs_at {P : Program} {l : List Oper} {a0 : Act} {T : Nat → Value → Prop} {C : Array Bool → Act → World → Prop} : ∀ (os : List Oper) (rs : List Src) (i k : Nat) (o : Oper) (r : Src), obligcs P l a0 T C i os rs → os[k]? = some o → rs[k]? = some r → obligc P l a0 T C (i + k) o r
  | [], _, _, _, _, _, _, h, _ => by simp at h
  | _ :: _, [], _, _, _, _, h, _, _ => h.elim
  | x :: os, y :: rs, i, 0, o, r, h, h1, h2 => by
    simp at h1 h2
    subst h1 h2
    exact h.1
  | x :: os, y :: rs, i, k + 1, o, r, h, h1, h2 => by
    have := obligcs_at os rs (i + 1) k o r h.2 (by simpa using h1) (by simpa using h2)
    rwa [show i + (k + 1) = i + 1 + k by omega]

structure TcJ (l : List Oper) (a0 : Act) (T : Nat → Value → Prop) (C : Array Bool → Act → World → Prop) (s : Array Bool) (a : Act) (w : World) : Prop where
  size : s.size = l.length
  closed : Closed l s
  defers : a.defers = a0.defers
  tsize : a.tmps.size = a0.tmps.size
  old : ∀ t, (∀ j, dstOf l t = some j → s.getD j false = false) → ev a t = ev a0 t
  new : ∀ j o d, l[j]? = some o → o.dst = some d → s.getD j false = true → under l a o (T j (ev a d))
  cls : C s a w

section
variable {l : List Oper} {tbl : List Src} {a0 : Act} {T : Nat → Value → Prop} {C : Array Bool → Act → World → Prop} {s : Array Bool} {a : Act} {w : World}

theorem TcJ.facts (hJ : TcJ l a0 T C s a w) {i : Nat} {o : Oper} (hi : l[i]? = some o) (hu : s.getD i true = false) (hall : ∀ e ∈ o.after, Region.binds .any e = true → s.getD e.on false = true) :
    ∀ row : Src, rowOk l i o row = true → Proofs.YthdlkpgialmlfaaGreatDoor.facts l a0 a (fun j v _ => T j v) w row
  | [], _ => trivial
  | (t, src) :: r, h => by
    unfold rowOk at h
    rw [List.all_cons, Bool.and_eq_true] at h
    have hr := TcJ.facts hJ hi hu hall r h.2
    have h1 := h.1
    simp only at h1
    have hno := (getD_tf hu).1
    cases src with
    | none =>
      refine ⟨hJ.old t (fun j hj => ?_), hr⟩
      rw [hj] at h1
      simp only [Bool.or_eq_true, beq_iff_eq] at h1
      rcases h1 with rfl | h1
      · exact hno
      · cases hy : l[j]? with
        | none => rw [hy] at h1; cases h1
        | some y =>
          rw [hy] at h1
          cases hs : s.getD j false with
          | false => rfl
          | true =>
            have := waits_listed hJ.closed _ y i (hJ.closed j y hy hs) h1
            rw [hno] at this
            cases this
    | some j' =>
      cases hj : dstOf l t with
      | none => rw [hj] at h1; cases h1
      | some j =>
        rw [hj] at h1
        simp only [Bool.and_eq_true, beq_iff_eq] at h1
        obtain ⟨rfl, h1⟩ := h1
        obtain ⟨y, hy, hd⟩ := dstOf_some hj
        refine ⟨?_, hr⟩
        rw [hy]
        exact hJ.new j y t hy hd (waits_listed hJ.closed _ o j hall h1)

theorem TcJ.put (hJ : TcJ l a0 T C s a w) (hc : chk l tbl = true) (hsz : ∀ o ∈ l, ∀ d, o.dst = some d → d < a0.tmps.size) {i : Nat} {o : Oper} (hi : l[i]? = some o) (hr : i ∈ Region.ready .any l.toArray s) {v : Value} {w' : World} (hv : under l a o (T i v)) (hw : C (s.setIfInBounds i true) (a.put o.dst v) w') :
    TcJ l a0 T C (s.setIfInBounds i true) (a.put o.dst v) w' := by
  obtain ⟨hu, o', ho', hall⟩ := mem_ready.1 hr
  have : o' = o := by
    have h1 : l[i]? = some o' := by simpa using ho'
    rw [hi] at h1; exact (Option.some.inj h1).symm
  subst this
  obtain ⟨row, _, _, _, hdo, hgo⟩ := chk_at hc hi
  have hlt := (getD_tf hu).2
  refine ⟨by simpa using hJ.size, hJ.closed.next i hr, ?_, ?_, fun t ht => ?_, fun j x d hx hd hs => ?_, hw⟩
  · rw [← hJ.defers]; cases o'.dst <;> rfl
  · rw [← hJ.tsize]; cases o'.dst <;> simp [Act.put]
  · have hne : ∀ d, o'.dst = some d → Operand.tmp t ≠ .tmp d := fun d hd e => by
      cases e
      have := ht i (hdo _ hd)
      rw [getD_set_self hlt] at this
      cases this
    rw [ev_put hne]
    refine hJ.old t (fun j hj => ?_)
    by_cases hji : i = j
    · subst hji; exact (getD_tf hu).1
    · have := ht j hj
      rwa [getD_set_ne false hji] at this
  · by_cases hji : i = j
    · subst hji
      rw [hi] at hx
      cases hx
      have hdl : d < a.tmps.size := by rw [hJ.tsize]; exact hsz o' (List.mem_of_getElem? hi) d hd
      have : ev (a.put o'.dst v) d = v := by rw [hd]; simp [ev, Act.put, hdl]
      rw [this]
      exact under_put hc hi (fun g b hg => by
        obtain ⟨e, he, hb, heg⟩ := hgo g b hg
        rw [← heg]; exact hall e he hb) hu v hv
    · rw [getD_set_ne false hji] at hs
      obtain ⟨_, _, _, _, hdx, hgx⟩ := chk_at hc hx
      have hne : ∀ d', o'.dst = some d' → Operand.tmp d ≠ .tmp d' := fun d' hd' e => by
        cases e
        have h1 := hdo _ hd'
        have h2 := hdx _ hd
        rw [h1] at h2
        cases h2
        exact hji rfl
      rw [ev_put hne]
      have h1 := hJ.new j x d hx hd hs
      exact under_put hc hi (fun g b hg => by
        obtain ⟨e, he, hb, heg⟩ := hgx g b hg
        rw [← heg]; exact hJ.closed j x hx hs e he hb) hu v h1

theorem TcJ.step {P : Program} {Q : Exit → Act → World → Prop} (hc : chk l tbl = true) (hng : ∀ o ∈ l, o.guard = none) (hsz : ∀ o ∈ l, ∀ d, o.dst = some d → d < a0.tmps.size) (hob : obligcs P l a0 T C 0 l tbl) (hJ : TcJ l a0 T C s a w) (i : Nat) (hr : i ∈ Region.ready .any l.toArray s) :
    wpOp P l.toArray Q i (TcJ l a0 T C (s.setIfInBounds i true)) a w := by
  obtain ⟨hu, o, ho, hall⟩ := mem_ready.1 hr
  have hi : l[i]? = some o := by simpa using ho
  obtain ⟨row, hrow, hok, _, _⟩ := chk_at hc hi
  have hF := hJ.facts hi hu hall row hok
  have hg := hng o (List.mem_of_getElem? hi)
  have hO := obligcs_at l tbl 0 i o row hob hi hrow s a w Q (fun A' w' => ∃ v, A' = a.put o.dst v ∧ T i v ∧ C (s.setIfInBounds i true) (a.put o.dst v) w') hJ.size hJ.tsize (by rw [Nat.zero_add]; exact hu) (fun j hj => waits_listed hJ.closed _ o j hall hj) (fun j y hy hw => by
      cases hs : s.getD j false with
      | false => rfl
      | true =>
        rw [Nat.zero_add] at hw
        have := waits_listed hJ.closed _ y i (hJ.closed j y hy hs) hw
        rw [(getD_tf hu).1] at this
        cases this) hJ.cls (fun v w' h1 h2 => ⟨v, rfl, by rw [Nat.zero_add] at h1; exact h1, by rw [Nat.zero_add] at h2; exact h2⟩) hF
  unfold wpOp
  rw [ho]
  simp only
  rw [if_pos (by simp [Region.wanted, hg])]
  refine .inl (Oper.wp_mono (fun A' w' h => ?_) hO)
  obtain ⟨v, rfl, h1, h2⟩ := h
  exact hJ.put hc hsz hi hr (by unfold under; rw [hg]; exact h1) h2

/-- A region that draws its order, with no guards; the class leans on what has come up and on the slots. -/
theorem wp_region_tc {P : Program} {id : Nat} {l : List Oper} {Q : Exit → Act → World → Prop} {a : Act} {w : World} (tbl : List Src) (T : Nat → Value → Prop) (C : Array Bool → Act → World → Prop) (n : Nat) (hn : a.tmps.size = n) (hc : (P.follows .mixedOrders && chk l tbl && l.all (fun o => o.guard.isNone) && l.all (fun o => match o.dst with | some d => decide (d < n) | none => true)) = true) (hC : C (Array.replicate l.length false) a w.drew) (hob : obligcs P l a T C 0 l tbl) (hQ : ∀ a' w', a'.tmps.size = n → C (Array.replicate l.length true) a' w' → upto T (fun a'' => a'' = a' → Q .normal a' w') 0 l a) : (Code.region id l.toArray true).wp P Q a w := by
  simp only [Bool.and_eq_true] at hc
  obtain ⟨⟨⟨hm, hc⟩, hg⟩, hz⟩ := hc
  have hng : ∀ o ∈ l, o.guard = none := fun o ho => by simpa using List.all_eq_true.1 hg o ho
  have hsz : ∀ o ∈ l, ∀ d, o.dst = some d → d < a.tmps.size := fun o ho d hd => by
    have := List.all_eq_true.1 hz o ho
    rw [hd] at this
    rw [hn]
    simpa using this
  refine wp_region_any hm (wpAny_inv (TcJ l a T C) (fun s a' w' i hJ hr => hJ.step hc hng hsz hob i hr) (fun s a' w' hJ hr => ?_) _ _ _ _ ?_ ⟨by simp, ?_, rfl, rfl, fun _ _ => rfl, fun j o d hj hd hs => ?_, by simpa using hC⟩)
  · have hall := ready_all hc hJ.size hr
    have hs : s = Array.replicate l.length true := by
      apply Array.ext (by simp [hJ.size])
      intro j h1 h2
      have := hall j (by rw [← hJ.size]; exact h1)
      simpa [Array.getD, h1] using this
    have := upto_puts (a := a') l 0 a (hQ a' w' (hJ.tsize.trans hn) (hs ▸ hJ.cls)) (fun k o d ho hd hg' => by
      rw [Nat.zero_add]
      have := hJ.new k o d ho hd (hall k (List.getElem?_eq_some_iff.1 ho).1)
      unfold under at this
      rw [hg'] at this
      exact this)
    exact this (putsOf_self hJ.defers hJ.tsize (fun t ht => hJ.old t (fun j hj => by
      obtain ⟨o, ho, hd⟩ := dstOf_some hj
      exact absurd hd (ht o (List.mem_of_getElem? ho)))))
  · unfold unl
    exact Nat.le_trans List.countP_le_length (by simp)
  · intro i x hx hs
    simp [Array.getD] at hs
  · simp [Array.getD] at hs
end


theorem getD_set_ne2 {s : Array Bool} {i j : Nat} (h : i ≠ j) : (s.setIfInBounds i true).getD j false = s.getD j false := getD_set_ne false h
theorem getD_set_eq {s : Array Bool} {i : Nat} (h : s.getD i true = false) : (s.setIfInBounds i true).getD i false = true := getD_set_self (getD_tf h).2
theorem ev_ne {A : Act} {d t : Nat} {v : Value} (h : d ≠ t) : ev (A.put (some d) v) t = ev A t := ev_put (fun d' hd e => by cases hd; cases e; exact h rfl)
theorem ev_eq {A : Act} {d : Nat} {v : Value} (h : d < A.tmps.size) : ev (A.put (some d) v) d = v := by simp [ev, Act.put, h]
theorem addmid (b o j : Nat) : (⟨b, o, none⟩ : Addr).add j = ⟨b, o + j, none⟩ := by unfold Addr.add; split <;> simp_all
/-- Nothing has turned but blocks of S. -/
structure Only (S : Nat → Prop) (w w' : World) : Prop where
  os : w'.os = w.os
  tape : w'.tape = w.tape
  output : w'.output = w.output
  size : w.heap.size ≤ w'.heap.size
  block : ∀ k, k < w.heap.size → ¬ S k → w'.heap[k]? = w.heap[k]?
theorem Only.refl (S : Nat → Prop) (w : World) : Only S w w := ⟨rfl, rfl, rfl, Nat.le_refl _, fun _ _ _ => rfl⟩
theorem Only.trans {S : Nat → Prop} {w w' w'' : World} (h : Only S w w') (h' : Only S w' w'') : Only S w w'' :=
  ⟨h'.os.trans h.os, h'.tape.trans h.tape, h'.output.trans h.output, Nat.le_trans h.size h'.size, fun k hk hS => (h'.block k (Nat.lt_of_lt_of_le hk h.size) hS).trans (h.block k hk hS)⟩
theorem Only.of_below {S : Nat → Prop} {w w' : World} (h : Below w.heap.size w w') : Only S w w' := ⟨h.os, h.tape, h.output, h.size, fun k hk _ => h.block k hk⟩
theorem Only.of_grown {S : Nat → Prop} {w w' : World} {row : Option Nat} (h : w.grownBy w' row) (hr : ∀ k, row = some k → S k) : Only S w w' :=
  ⟨h.os, h.tape, h.output, h.size, fun k hk hS => h.block k hk (fun e => hS (hr k e.symm))⟩

/-- append to a row of one's own, as one step of a region that draws; where the answer lies. -/
theorem step_append_at {P : Program} {ops : Array Oper} {o : Oper} {a : Act} {w : World} {K : Act → World → Prop} {Q : Exit → Act → World → Prop} {E : Prop}
    (hg : o.guard = none) (s x : Operand) (t : TypeId) (hop : o.op = Op.call { callee := Callee.builtin Builtin.append, args := #[s, x], argTypes := #[t, t] })
    (base : Nat) (e : TypeId) (i : TypeInfo) (z : Value) (size bytes : Nat) (h1 : P.underlying t = some (.slice e)) (h2 : P.info? e = some i) (h3 : i.zero = some z) (h4 : i.size = size) (h5 : i.bytes = bytes) (h6 : z.cells.size = size) (h7 : 0 < size)
    (v : Value) (n : Nat) (xs : List Value) (hs : a.eval s = v) (hown : w.ownsRow base e size v n xs)
    (ad : Addr) (m c : Nat) (news : List Value) (hx : a.eval x = .slice (some ad) m c) (hn : news.length = m * size) (hc : ∀ j u, news[j]? = some u → w.cell? (ad.add j) = some u) (h1c : ∀ u ∈ news, u.oneCell' = true)
    (b1 : n + m ≤ maxLen) (b2 : (n + m) * bytes ≤ 140737488355328) (hb : base ≤ w.heap.size)
    (hK : ∀ v' w', w'.ownsRow base e size v' (n + m) (xs ++ news) → w.grownBy w' v.ownBlock → (v'.ownBlock = v.ownBlock ∨ v'.ownBlock = some w.heap.size) → K (a.put o.dst v') w') :
    if Region.wanted o (yielded ops a.tmps) = true then Oper.wp P o a w K Q else E := by
  have hw : Region.wanted o (yielded ops a.tmps) = true := by simp [Region.wanted, hg]
  rw [if_pos hw]
  obtain ⟨v', w', hrun, r1, r2, _, r4⟩ := run_append_own_at (P := P) w base t o.type e i z size bytes h1 h2 h3 h4 h5 h6 h7 v n xs hown ad m c news hn hc h1c b1 b2 hb
  unfold Oper.wp
  simp [execOp, hop, resolve, invoke, builtin, hs, hx, hrun, Result.andThen]
  exact hK v' w' r1 r2 r4

theorem oper_append_at {P : Program} {o : Oper} {a : Act} {w : World} {K : Act → World → Prop} {Q : Exit → Act → World → Prop}
    (hg : o.guard = none) (s x : Operand) (t : TypeId) (hop : o.op = Op.call { callee := Callee.builtin Builtin.append, args := #[s, x], argTypes := #[t, t] })
    (base : Nat) (e : TypeId) (i : TypeInfo) (z : Value) (size bytes : Nat) (h1 : P.underlying t = some (.slice e)) (h2 : P.info? e = some i) (h3 : i.zero = some z) (h4 : i.size = size) (h5 : i.bytes = bytes) (h6 : z.cells.size = size) (h7 : 0 < size)
    (v : Value) (n : Nat) (xs : List Value) (hs : a.eval s = v) (hown : w.ownsRow base e size v n xs)
    (ad : Addr) (m c : Nat) (news : List Value) (hx : a.eval x = .slice (some ad) m c) (hn : news.length = m * size) (hc : ∀ j u, news[j]? = some u → w.cell? (ad.add j) = some u) (h1c : ∀ u ∈ news, u.oneCell' = true)
    (b1 : n + m ≤ maxLen) (b2 : (n + m) * bytes ≤ 140737488355328) (hb : base ≤ w.heap.size)
    (hK : ∀ v' w', w'.ownsRow base e size v' (n + m) (xs ++ news) → w.grownBy w' v.ownBlock → (v'.ownBlock = v.ownBlock ∨ v'.ownBlock = some w.heap.size) → K (a.put o.dst v') w') : Oper.wp P o a w K Q := by
  have := step_append_at (ops := #[]) (E := True) (Q := Q) hg s x t hop base e i z size bytes h1 h2 h3 h4 h5 h6 h7 v n xs hs hown ad m c news hx hn hc h1c b1 b2 hb hK
  rwa [if_pos (by simp [Region.wanted, hg])] at this

/-- What is so while a record is laid behind a row of one's own, which a field of the record at bx points to. -/
structure AQ {α : Type} (m : Nat) (cell : α → Nat → Int) (T : TypeId) (B : Nat) (w0 : World) (v : Value) (l : List α) (x : α) (bx : Nat) (TB : TypeId) (w : World) (v' : Value) (cs : Array Value) : Prop where
  only : Only (fun k => v.ownBlock = some k ∨ k = bx) w0 w
  box : Blk w bx cs TB
  own : Owns m cell T B w v' (l ++ [x])
  from' : v'.ownBlock = v.ownBlock ∨ ∃ k, v'.ownBlock = some k ∧ w0.heap.size ≤ k
structure AP {α : Type} (m : Nat) (cell : α → Nat → Int) (T : TypeId) (B : Nat) (w0 : World) (v : Value) (l : List α) (x : α) (bx : Nat) (TB : TypeId) (cs : Array Value) (f iB iA iS tB tA : Nat) (t : Array Bool) (A : Act) (w : World) : Prop where
  pre : t.getD iA false = false → Below w0.heap.size w0 w ∧ (t.getD iB false = true → ∃ b, ev A tB = .slice (some ⟨b, 0, none⟩) 1 1 ∧ Blk w b (rowOf m cell x).toArray T)
  mid : t.getD iA false = true → t.getD iS false = false → AQ m cell T B w0 v l x bx TB w (ev A tA) cs
  fin : t.getD iS false = true → AQ m cell T B w0 v l x bx TB w (ev A tA) (cs.setIfInBounds f (ev A tA))
section
variable {α : Type} {m : Nat} {cell : α → Nat → Int} {T : TypeId} {B : Nat} {w0 w w' : World} {v : Value} {l : List α} {x : α} {bx : Nat} {TB : TypeId} {cs : Array Value} {f iB iA iS tB tA : Nat} {t : Array Bool} {A : Act}
theorem AP.start {n : Nat} (hb : Below w0.heap.size w0 w) : AP m cell T B w0 v l x bx TB cs f iB iA iS tB tA (Array.replicate n false) A w where
  pre := fun _ => ⟨hb, fun h => by simp [Array.getD, Array.getElem_replicate] at h⟩
  mid := fun h => by simp [Array.getD, Array.getElem_replicate] at h
  fin := fun h => by simp [Array.getD, Array.getElem_replicate] at h
theorem AP.other (h : AP m cell T B w0 v l x bx TB cs f iB iA iS tB tA t A w) (i d : Nat) (u : Value) (hi : i ≠ iB ∧ i ≠ iA ∧ i ≠ iS) (hd : d ≠ tB ∧ d ≠ tA) : AP m cell T B w0 v l x bx TB cs f iB iA iS tB tA (t.setIfInBounds i true) (A.put (some d) u) w where
  pre := by
    rw [getD_set_ne2 hi.1, getD_set_ne2 hi.2.1, ev_ne hd.1]
    exact h.pre
  mid := by
    rw [getD_set_ne2 hi.2.2, getD_set_ne2 hi.2.1, ev_ne hd.2]
    exact h.mid
  fin := by
    rw [getD_set_ne2 hi.2.2, ev_ne hd.2]
    exact h.fin
theorem AP.new (h : AP m cell T B w0 v l x bx TB cs f iB iA iS tB tA t A w) (hu : t.getD iB true = false) (hA : t.getD iA false = false) (hS : t.getD iS false = false) (h1 : iB ≠ iA ∧ iB ≠ iS) (hs : tB < A.tmps.size) {news : List Value} (hn : rowOf m cell x = news) :
    AP m cell T B w0 v l x bx TB cs f iB iA iS tB tA (t.setIfInBounds iB true) (A.put (some tB) (.slice (some ⟨w.heap.size, 0, none⟩) 1 1)) (w.alloc (.cells news.toArray T)) where
  pre := fun _ => by
    subst hn
    rw [getD_set_eq hu, ev_eq hs]
    have hp := (h.pre hA).1
    exact ⟨hp.trans ((show Below w.heap.size w (w.alloc (.cells (rowOf m cell x).toArray T)) by go_grown).mono hp.size), fun _ => ⟨_, rfl, Blk.new _ _ _⟩⟩
  mid := by
    rw [getD_set_ne2 h1.1, hA]
    intro h; cases h
  fin := by
    rw [getD_set_ne2 h1.2, hS]
    intro h; cases h
theorem AP.app (h : AP m cell T B w0 v l x bx TB cs f iB iA iS tB tA t A w) (hu : t.getD iA true = false) (hS : t.getD iS false = false) (h1 : iA ≠ iS) (hs : tA < A.tmps.size) (hbx : Blk w0 bx cs TB) (hne : v.ownBlock ≠ some bx) {news : List Value} (hn : rowOf m cell x = news) {v' : Value}
    (ho : w'.ownsRow B T m v' (l.length + 1) (flat m cell l ++ news)) (hg : w.grownBy w' v.ownBlock) (hf : v'.ownBlock = v.ownBlock ∨ v'.ownBlock = some w.heap.size) :
    AP m cell T B w0 v l x bx TB cs f iB iA iS tB tA (t.setIfInBounds iA true) (A.put (some tA) v') w' where
  pre := by
    rw [getD_set_eq hu]
    intro h; cases h
  mid := fun _ _ => by
    rw [ev_eq hs]
    have hp := (h.pre (getD_tf hu).1).1
    refine ⟨(Only.of_below hp).trans (Only.of_grown hg (fun k hk => .inl hk)), ?_, ?_, ?_⟩
    · exact (hbx.below hp hbx.lt).grown hg (fun e => hne e.symm)
    · unfold Owns
      rw [List.length_append, flat_append, flat_one, hn]
      exact ho
    · rcases hf with hf | hf
      · exact .inl hf
      · exact .inr ⟨_, hf, hp.size⟩
  fin := by
    rw [getD_set_ne2 h1, hS]
    intro h; cases h
theorem AQ.store {v' : Value} (h : AQ m cell T B w0 v l x bx TB w v' cs) (hne : v.ownBlock ≠ some bx) (hlt : bx < w0.heap.size) : AQ m cell T B w0 v l x bx TB (w.setCell ⟨bx, f, none⟩ v') v' (cs.setIfInBounds f v') where
  only := h.only.trans ⟨rfl, rfl, rfl, by simp, fun k _ hk => Below.heap_setCell _ _ _ _ (fun e => hk (.inr (e ▸ rfl)))⟩
  box := h.box.set f v'
  own := h.own.far (p := ⟨bx, f, none⟩) v' (fun k hk e => by
    rcases h.from' with hf | ⟨k', hf, hk'⟩
    · rw [hf] at hk; simp only at e; subst e; exact hne hk
    · rw [hf] at hk; cases hk; simp only at e; omega)
  from' := h.from'
theorem AP.last (h : AP m cell T B w0 v l x bx TB cs f iB iA iS tB tA t A w) (hu : t.getD iS true = false) (hA : t.getD iA false = true) (h1 : iA ≠ iS) (hne : v.ownBlock ≠ some bx) (hlt : bx < w0.heap.size) {u z : Value} (hz : ev A tA = z) :
    AP m cell T B w0 v l x bx TB cs f iB iA iS tB tA (t.setIfInBounds iS true) (A.put none u) (w.setCell ⟨bx, f, none⟩ z) where
  pre := by
    rw [getD_set_ne2 h1.symm, hA]
    intro h; cases h
  mid := by
    rw [getD_set_eq hu]
    intro _ h; cases h
  fin := fun _ => by
    subst hz
    exact (h.mid hA (getD_tf hu).1).store hne hlt
end
theorem Owns.only {α : Type} {m : Nat} {cell : α → Nat → Int} {T : TypeId} {base : Nat} {w w' : World} {v : Value} {l : List α} {S : Nat → Prop} (h : Owns m cell T base w v l) (ho : Only S w w') (hS : ∀ k, v.ownBlock = some k → ¬ S k) : Owns m cell T base w' v l := by
  refine ⟨h.1, ?_⟩
  rcases h.2 with h2 | ⟨g, cap, cur, h1, h2, h3, h4⟩
  · exact .inl h2
  · have hg : v.ownBlock = some g := by rw [h1]; rfl
    exact .inr ⟨g, cap, cur, h1, h2, (ho.block g (h.lt g hg).2 (hS g hg)).trans h3, h4⟩
theorem Blk.only {w w' : World} {b : Nat} {cs : Array Value} {T : TypeId} {S : Nat → Prop} (h : Blk w b cs T) (ho : Only S w w') (hS : ¬ S b) : Blk w' b cs T := (ho.block b h.lt hS).trans h
theorem Only.from_ {S S' : Nat → Prop} {w w1 w2 : World} (h : Below w.heap.size w w1) (h2 : Only S w1 w2) (hS : ∀ k, k < w.heap.size → S k → S' k) : Only S' w w2 :=
  ⟨h2.os.trans h.os, h2.tape.trans h.tape, h2.output.trans h.output, Nat.le_trans h.size h2.size, fun k hk hn => (h2.block k (Nat.lt_of_lt_of_le hk h.size) (fun e => hn (hS k hk e))).trans (h.block k hk)⟩
theorem Only.far {S : Nat → Prop} {w w1 : World} (h : Only S w w1) {p : Addr} (hp : w.heap.size ≤ p.block) (u : Value) : Only S w (w1.setCell p u) :=
  ⟨h.os, h.tape, h.output, by simpa using h.size, fun k hk hn => (Below.heap_setCell _ _ _ _ (fun e => by omega)).trans (h.block k hk hn)⟩
theorem Only.far6 {S : Nat → Prop} {w w1 : World} (h : Only S w w1) {b : Nat} (hp : w.heap.size ≤ b) (u0 u1 u2 u3 u4 u5 : Value) : Only S w ((((((w1.setCell ⟨b, 0, none⟩ u0).setCell ⟨b, 1, none⟩ u1).setCell ⟨b, 2, none⟩ u2).setCell ⟨b, 3, none⟩ u3).setCell ⟨b, 4, none⟩ u4).setCell ⟨b, 5, none⟩ u5) :=
  (((((h.far (p := ⟨b, 0, none⟩) hp u0).far (p := ⟨b, 1, none⟩) hp u1).far (p := ⟨b, 2, none⟩) hp u2).far (p := ⟨b, 3, none⟩) hp u3).far (p := ⟨b, 4, none⟩) hp u4).far (p := ⟨b, 5, none⟩) hp u5
end Go.Proofs.YthdlkpgialmlfaaGreatDoor
