/- Regions that draw their order, whose operations are known by what each yields. -/
import Derived.Test.YthdlkpgialmlfaaGreatDoorLas
namespace Go.Proofs.YthdlkpgialmlfaaGreatDoor
open Go.RowKit

abbrev Src := List (Tmp × Option Nat)
/-- Which operation writes a slot. -/
def dstOf (l : List Oper) (t : Tmp) : Option Nat := l.findIdx? fun o => o.dst == some t
def rowOk (l : List Oper) (i : Nat) (o : Oper) (row : Src) : Bool :=
  row.all fun e => match dstOf l e.1, e.2 with
    | none, none => true
    | some j, some j' => j == j' && waits l (l.length + 1) o j
    | some j, none => j == i || (match l[j]? with | some y => waits l (l.length + 1) y i | none => false)
    | none, some _ => false
def chk (l : List Oper) (tbl : List Src) : Bool :=
  tbl.length == l.length && (List.range l.length).all (fun i => match l[i]?, tbl[i]? with
    | some o, some row => rowOk l i o row && o.after.all (fun e => !Region.binds .any e || e.on < i) && (match o.dst with | some d => dstOf l d == some i | none => true) && (match o.guard with | some (g, _) => o.after.any (fun e => Region.binds .any e && e.on == g) | none => true)
    | _, _ => false)
/-- What a slot holds. -/
abbrev ev (a : Act) (t : Nat) : Value := a.tmps[t]?.getD undef
theorem ev_put {a : Act} {dst : Option Tmp} {v : Value} {t : Nat} (h : ∀ d, dst = some d → Operand.tmp t ≠ .tmp d) : ev (a.put dst v) t = ev a t := by
  have := Act.eval_put (a := a) (v := v) h
  simpa [Act.eval, ev] using this
/-- Where an operation is guarded: if its guard lets it by. -/
def under (l : List Oper) (A : Act) (o : Oper) (X : Prop) : Prop :=
  match o.guard with
  | none => X
  | some (g, b) => match (l[g]?).bind (·.dst) with
    | none => True
    | some d => ev A d = .bool b → X
/-- What is known of the slots that an operation looks at. -/
def facts (l : List Oper) (a0 A : Act) (T : Nat → Value → World → Prop) (w : World) : Src → Prop
  | [] => True
  | (t, some j) :: r => (match l[j]? with | some y => under l A y (T j (ev A t) w) | none => True) ∧ facts l a0 A T w r
  | (t, none) :: r => ev A t = ev a0 t ∧ facts l a0 A T w r
/-- What is asked of one operation: in whatever world of the class it comes up. -/
def oblig (P : Program) (l : List Oper) (a0 : Act) (T : Nat → Value → World → Prop) (C : World → Prop) (R : World → World → Prop) (i : Nat) (o : Oper) (row : Src) : Prop :=
  ∀ (A : Act) (w : World) (Q : Exit → Act → World → Prop) (K : Act → World → Prop), C w → (∀ v w', T i v w' → C w' → R w w' → K (A.put o.dst v) w') → facts l a0 A T w row → under l A o (o.wp P A w K Q)
def obligs (P : Program) (l : List Oper) (a0 : Act) (T : Nat → Value → World → Prop) (C : World → Prop) (R : World → World → Prop) : Nat → List Oper → List Src → Prop
  | i, o :: os, r :: rs => oblig P l a0 T C R i o r ∧ obligs P l a0 T C R (i + 1) os rs
  | _, [], _ => True
  | _, _ :: _, [] => False
/-- What follows, for all values that the operations may have yielded. -/
def upto (T : Nat → Value → Prop) (Q : Act → Prop) : Nat → List Oper → Act → Prop
  | _, [], a => Q a
  | i, o :: os, a => match o.dst with
    | some d => ∀ v, (match o.guard with | none => T i v | some _ => True) → upto T Q (i + 1) os (a.put (some d) v)
    | none => upto T Q (i + 1) os a

theorem obligs_at {P : Program} {l : List Oper} {a0 : Act} {T : Nat → Value → World → Prop} {C : World → Prop} {R : World → World → Prop} : ∀ (os : List Oper) (rs : List Src) (i k : Nat) (o : Oper) (r : Src), obligs P l a0 T C R i os rs → os[k]? = some o → rs[k]? = some r → oblig P l a0 T C R (i + k) o r
  | [], _, _, _, _, _, _, h, _ => by simp at h
  | _ :: _, [], _, _, _, _, h, _, _ => h.elim
  | x :: os, y :: rs, i, 0, o, r, h, h1, h2 => by
    simp at h1 h2
    subst h1 h2
    exact h.1
  | x :: os, y :: rs, i, k + 1, o, r, h, h1, h2 => by
    have := obligs_at os rs (i + 1) k o r h.2 (by simpa using h1) (by simpa using h2)
    rwa [show i + (k + 1) = i + 1 + k by omega]

/-- The frame in which these slots hold what another one holds. -/
def putsOf (a : Act) : List Oper → Act → Act
  | [], b => b
  | o :: os, b => putsOf a os (match o.dst with | some d => b.put (some d) (ev a d) | none => b)
theorem upto_puts {T : Nat → Value → Prop} {Q : Act → Prop} {a : Act} : ∀ (os : List Oper) (i : Nat) (b : Act), upto T Q i os b → (∀ k o d, os[k]? = some o → o.dst = some d → o.guard = none → T (i + k) (ev a d)) → Q (putsOf a os b)
  | [], _, _, h, _ => h
  | o :: os, i, b, h, ht => by
    unfold upto at h
    unfold putsOf
    have ht' : ∀ k x d, os[k]? = some x → x.dst = some d → x.guard = none → T (i + 1 + k) (ev a d) := fun k x d hx hd hg => by
      have := ht (k + 1) x d (by simpa using hx) hd hg
      rwa [show i + 1 + k = i + (k + 1) by omega]
    cases hd : o.dst with
    | none =>
      rw [hd] at h
      exact upto_puts os (i + 1) b h ht'
    | some d =>
      rw [hd] at h
      refine upto_puts os (i + 1) _ (h _ ?_) ht'
      cases hg : o.guard with
      | none => exact ht 0 o d rfl hd hg
      | some _ => trivial
theorem put_get (b : Act) (d : Tmp) (v : Value) (t : Nat) : (b.put (some d) v).tmps[t]? = if d = t ∧ t < b.tmps.size then some v else b.tmps[t]? := by
  simp only [Act.put, Array.getElem?_setIfInBounds]
  split
  · rename_i h; subst h
    by_cases h2 : d < b.tmps.size
    · simp [h2]
    · simp [h2]
  · rename_i h; rw [if_neg (fun e => h e.1)]
theorem putsOf_defers (a : Act) : ∀ (os : List Oper) (b : Act), (putsOf a os b).defers = b.defers ∧ (putsOf a os b).tmps.size = b.tmps.size
  | [], _ => ⟨rfl, rfl⟩
  | o :: os, b => by
    unfold putsOf
    cases o.dst with
    | none => exact putsOf_defers a os b
    | some d =>
      have := putsOf_defers a os (b.put (some d) (ev a d))
      refine ⟨this.1, this.2.trans (by simp [Act.put])⟩
theorem putsOf_get (a : Act) : ∀ (os : List Oper) (b : Act) (t : Nat), (putsOf a os b).tmps[t]? = if (∃ o ∈ os, o.dst = some t) ∧ t < b.tmps.size then some (ev a t) else b.tmps[t]?
  | [], b, t => by simp [putsOf]
  | o :: os, b, t => by
    unfold putsOf
    cases hd : o.dst with
    | none =>
      rw [putsOf_get a os b t]
      simp [hd]
    | some d =>
      rw [putsOf_get a os _ t, put_get]
      have hs : (b.put (some d) (ev a d)).tmps.size = b.tmps.size := by simp [Act.put]
      rw [hs]
      by_cases h1 : (∃ o ∈ os, o.dst = some t) ∧ t < b.tmps.size
      · rw [if_pos h1, if_pos ⟨⟨h1.1.choose, List.mem_cons_of_mem _ h1.1.choose_spec.1, h1.1.choose_spec.2⟩, h1.2⟩]
      · rw [if_neg h1]
        by_cases h2 : d = t ∧ t < b.tmps.size
        · rw [if_pos h2, if_pos ⟨⟨o, List.mem_cons_self, by rw [hd, h2.1]⟩, h2.2⟩, h2.1]
        · rw [if_neg h2, if_neg]
          rintro ⟨⟨x, hx, hxd⟩, ht⟩
          rcases List.mem_cons.1 hx with rfl | hx
          · exact h2 ⟨by rw [hd] at hxd; exact Option.some.inj hxd, ht⟩
          · exact h1 ⟨⟨x, hx, hxd⟩, ht⟩
theorem putsOf_self {a a0 : Act} {l : List Oper} (hd : a.defers = a0.defers) (hs : a.tmps.size = a0.tmps.size) (h : ∀ t, (∀ o ∈ l, o.dst ≠ some t) → ev a t = ev a0 t) : putsOf a l a0 = a := by
  obtain ⟨h1, h2⟩ := putsOf_defers a l a0
  have h3 : (putsOf a l a0).tmps = a.tmps := by
    apply Array.ext_getElem?
    intro t
    rw [putsOf_get]
    have ev' : ∀ b : Act, t < b.tmps.size → b.tmps[t]? = some (ev b t) := fun b hb => by simp [ev, hb]
    by_cases ht : t < a0.tmps.size
    · by_cases hx : ∃ o ∈ l, o.dst = some t
      · rw [if_pos ⟨hx, ht⟩, ev' a (by omega)]
      · rw [if_neg (fun e => hx e.1), ev' a0 ht, ev' a (by omega), h t (fun o ho e => hx ⟨o, ho, e⟩)]
    · rw [if_neg (fun e => ht e.2), Array.getElem?_eq_none (by omega), Array.getElem?_eq_none (by omega)]
  cases hp : putsOf a l a0
  cases a
  rw [hp] at h1 h3
  simp at h1 h3 hd
  rw [h3, h1, hd]

def unl (s : Array Bool) : Nat := s.toList.countP (fun b => !b)
theorem unl_set {s : Array Bool} {i : Nat} (h : s.getD i true = false) : unl (s.setIfInBounds i true) + 1 = unl s := by
  have hi : i < s.size := by
    rcases Nat.lt_or_ge i s.size with h' | h'
    · exact h'
    · simp [Array.getD, Nat.not_lt.2 h'] at h
  have hv : s.toList[i]'(by simpa using hi) = false := by simpa [Array.getD, hi] using h
  unfold unl
  rw [Array.toList_setIfInBounds, List.countP_set (by simpa using hi)]
  have h1 : 0 < s.toList.countP (fun b => !b) := List.countP_pos_iff.2 ⟨false, by rw [← hv]; exact List.getElem_mem _, rfl⟩
  simp only [hv, Bool.not_false, Bool.not_true, if_true, Bool.false_eq_true, if_false]
  omega
theorem wpAny_inv {P : Program} {ops : Array Oper} {md : Region.Mode} {Q : Exit → Act → World → Prop} (J : Array Bool → Act → World → Prop)
    (hstep : ∀ s a w i, J s a w → i ∈ Region.ready md ops s → wpOp P ops Q i (J (s.setIfInBounds i true)) a w)
    (hend : ∀ s a w, J s a w → Region.ready md ops s = [] → Q .normal a w) : ∀ (fuel : Nat) (s : Array Bool) (a : Act) (w : World), unl s ≤ fuel → J s a w → wpAny P md ops Q fuel s a w
  | 0, s, a, w, hu, hJ => by
    have hr : Region.ready md ops s = [] := by
      rw [List.eq_nil_iff_forall_not_mem]
      intro i hi
      have := unl_set (mem_ready.1 hi).1
      omega
    exact ⟨hr, hend s a w hJ hr⟩
  | fuel + 1, s, a, w, hu, hJ => by
    refine ⟨fun hr => hend s a w hJ hr, fun i hi => ?_⟩
    have := unl_set (mem_ready.1 hi).1
    exact wpOp_mono (fun a' w' h => wpAny_inv J hstep hend fuel _ a' w' (by omega) h) (hstep s a w i hJ hi)

theorem chk_at {l : List Oper} {tbl : List Src} (h : chk l tbl = true) {i : Nat} {o : Oper} (hi : l[i]? = some o) :
    ∃ row, tbl[i]? = some row ∧ rowOk l i o row = true ∧ (∀ e ∈ o.after, Region.binds .any e = true → e.on < i) ∧ (∀ d, o.dst = some d → dstOf l d = some i) ∧ (∀ g b, o.guard = some (g, b) → ∃ e ∈ o.after, Region.binds .any e = true ∧ e.on = g) := by
  unfold chk at h
  rw [Bool.and_eq_true] at h
  have hlt : i < l.length := (List.getElem?_eq_some_iff.1 hi).1
  have h1 := List.all_eq_true.1 h.2 i (by simpa using hlt)
  rw [hi] at h1
  cases ht : tbl[i]? with
  | none => rw [ht] at h1; cases h1
  | some row =>
    rw [ht] at h1
    simp only [Bool.and_eq_true] at h1
    refine ⟨row, rfl, h1.1.1.1, fun e he hb => ?_, fun d hd => ?_, fun g b hg => ?_⟩
    · have := Array.all_eq_true_iff_forall_mem.1 h1.1.1.2 e he
      simpa [hb] using this
    · have := h1.1.2
      rw [hd] at this
      simpa using this
    · have := h1.2
      rw [hg] at this
      obtain ⟨e, he, hb⟩ := Array.any_eq_true'.1 this
      simp only [Bool.and_eq_true, beq_iff_eq] at hb
      exact ⟨e, he, hb⟩
theorem dstOf_some {l : List Oper} {t : Tmp} {j : Nat} (h : dstOf l t = some j) : ∃ o, l[j]? = some o ∧ o.dst = some t := by
  unfold dstOf at h
  rw [List.findIdx?_eq_some_iff_getElem] at h
  obtain ⟨h1, h2, _⟩ := h
  exact ⟨l[j], by simp [h1], by simpa using h2⟩
theorem getD_tf {s : Array Bool} {i : Nat} (h : s.getD i true = false) : s.getD i false = false ∧ i < s.size := by
  rcases Nat.lt_or_ge i s.size with h' | h'
  · refine ⟨?_, h'⟩
    simpa [Array.getD, h'] using h
  · simp [Array.getD, Nat.not_lt.2 h'] at h
theorem getD_set_self {s : Array Bool} {i : Nat} (h : i < s.size) : (s.setIfInBounds i true).getD i false = true := by simp [Array.getD, h]

structure TyJ (l : List Oper) (a0 : Act) (T : Nat → Value → World → Prop) (C : World → Prop) (s : Array Bool) (a : Act) (w : World) : Prop where
  size : s.size = l.length
  closed : Closed l s
  defers : a.defers = a0.defers
  tsize : a.tmps.size = a0.tmps.size
  old : ∀ t, (∀ j, dstOf l t = some j → s.getD j false = false) → ev a t = ev a0 t
  new : ∀ j o d, l[j]? = some o → o.dst = some d → s.getD j false = true → under l a o (T j (ev a d) w)
  cls : C w

section
variable {l : List Oper} {tbl : List Src} {a0 : Act} {T : Nat → Value → World → Prop} {C : World → Prop} {R : World → World → Prop} {s : Array Bool} {a : Act} {w : World}

theorem TyJ.facts (hJ : TyJ l a0 T C s a w) {i : Nat} {o : Oper} (hi : l[i]? = some o) (hu : s.getD i true = false) (hall : ∀ e ∈ o.after, Region.binds .any e = true → s.getD e.on false = true) :
    ∀ row : Src, rowOk l i o row = true → Proofs.YthdlkpgialmlfaaGreatDoor.facts l a0 a T w row
  | [], _ => trivial
  | (t, src) :: r, h => by
    unfold rowOk at h
    rw [List.all_cons, Bool.and_eq_true] at h
    have hr := TyJ.facts hJ hi hu hall r h.2
    have h1 := h.1
    simp only at h1
    have hno := (getD_tf hu).1
    cases src with
    | none =>
      refine ⟨hJ.old t (fun j hj => ?_), hr⟩
      rw [hj] at h1
      simp only [Bool.or_eq_true, beq_iff_eq] at h1
      rcases h1 with rfl | h1
      · exact hno
      · cases hy : l[j]? with
        | none => rw [hy] at h1; cases h1
        | some y =>
          rw [hy] at h1
          cases hs : s.getD j false with
          | false => rfl
          | true =>
            have := waits_listed hJ.closed _ y i (hJ.closed j y hy hs) h1
            rw [hno] at this
            cases this
    | some j' =>
      cases hj : dstOf l t with
      | none => rw [hj] at h1; cases h1
      | some j =>
        rw [hj] at h1
        simp only [Bool.and_eq_true, beq_iff_eq] at h1
        obtain ⟨rfl, h1⟩ := h1
        obtain ⟨y, hy, hd⟩ := dstOf_some hj
        refine ⟨?_, hr⟩
        rw [hy]
        exact hJ.new j y t hy hd (waits_listed hJ.closed _ o j hall h1)

theorem under_put (hc : chk l tbl = true) {i : Nat} {o y : Oper} (hi : l[i]? = some o) (hs : ∀ g b, y.guard = some (g, b) → s.getD g false = true) (hu : s.getD i true = false) (v : Value) {X : Prop} (h : under l a y X) : under l (a.put o.dst v) y X := by
  unfold under at h ⊢
  cases hg : y.guard with
  | none => rw [hg] at h; exact h
  | some gb =>
    obtain ⟨g, b⟩ := gb
    rw [hg] at h
    simp only at h ⊢
    cases hd : (l[g]?).bind (·.dst) with
    | none => trivial
    | some d =>
      rw [hd] at h
      simp only at h ⊢
      intro he
      apply h
      rw [← he]
      refine (ev_put fun d' hd' e => ?_).symm
      cases e
      cases hz : l[g]? with
      | none => rw [hz] at hd; cases hd
      | some z =>
        rw [hz] at hd
        obtain ⟨_, _, _, _, h1, _⟩ := chk_at hc hi
        obtain ⟨_, _, _, _, h2, _⟩ := chk_at hc hz
        have e1 := h1 _ hd'
        have e2 := h2 _ hd
        rw [e1] at e2
        cases e2
        have := hs _ b hg
        rw [(getD_tf hu).1] at this
        cases this

theorem TyJ.put (hJ : TyJ l a0 T C s a w) (hst : ∀ i v w w', C w → R w w' → T i v w → T i v w') (hc : chk l tbl = true) (hsz : ∀ o ∈ l, ∀ d, o.dst = some d → d < a0.tmps.size) {i : Nat} {o : Oper} (hi : l[i]? = some o) (hr : i ∈ Region.ready .any l.toArray s) {v : Value} {w' : World} (hv : under l a o (T i v w')) (hw : C w') (hR : R w w') :
    TyJ l a0 T C (s.setIfInBounds i true) (a.put o.dst v) w' := by
  obtain ⟨hu, o', ho', hall⟩ := mem_ready.1 hr
  have : o' = o := by
    have h1 : l[i]? = some o' := by simpa using ho'
    rw [hi] at h1; exact (Option.some.inj h1).symm
  subst this
  obtain ⟨row, _, _, _, hdo, hgo⟩ := chk_at hc hi
  have hlt := (getD_tf hu).2
  refine ⟨by simpa using hJ.size, hJ.closed.next i hr, ?_, ?_, fun t ht => ?_, fun j x d hx hd hs => ?_, hw⟩
  · rw [← hJ.defers]; cases o'.dst <;> rfl
  · rw [← hJ.tsize]; cases o'.dst <;> simp [Act.put]
  · have hne : ∀ d, o'.dst = some d → Operand.tmp t ≠ .tmp d := fun d hd e => by
      cases e
      have := ht i (hdo _ hd)
      rw [getD_set_self hlt] at this
      cases this
    rw [ev_put hne]
    refine hJ.old t (fun j hj => ?_)
    by_cases hji : i = j
    · subst hji; exact (getD_tf hu).1
    · have := ht j hj
      rwa [getD_set_ne false hji] at this
  · by_cases hji : i = j
    · subst hji
      rw [hi] at hx
      cases hx
      have hdl : d < a.tmps.size := by rw [hJ.tsize]; exact hsz o' (List.mem_of_getElem? hi) d hd
      have : ev (a.put o'.dst v) d = v := by rw [hd]; simp [ev, Act.put, hdl]
      rw [this]
      exact under_put hc hi (fun g b hg => by
        obtain ⟨e, he, hb, heg⟩ := hgo g b hg
        rw [← heg]; exact hall e he hb) hu v hv
    · rw [getD_set_ne false hji] at hs
      obtain ⟨_, _, _, _, hdx, hgx⟩ := chk_at hc hx
      have hne : ∀ d', o'.dst = some d' → Operand.tmp d ≠ .tmp d' := fun d' hd' e => by
        cases e
        have h1 := hdo _ hd'
        have h2 := hdx _ hd
        rw [h1] at h2
        cases h2
        exact hji rfl
      rw [ev_put hne]
      have h1 := hJ.new j x d hx hd hs
      have h2 : under l a x (T j (ev a d) w') := by
        unfold under at h1 ⊢
        revert h1
        cases x.guard with
        | none => exact hst _ _ _ _ hJ.cls hR
        | some gb =>
          simp only
          cases (l[gb.1]?).bind (·.dst) with
          | none => exact id
          | some d' => exact fun h he => hst _ _ _ _ hJ.cls hR (h he)
      exact under_put hc hi (fun g b hg => by
        obtain ⟨e, he, hb, heg⟩ := hgx g b hg
        rw [← heg]; exact hJ.closed j x hx hs e he hb) hu v h2

theorem TyJ.step {P : Program} {Q : Exit → Act → World → Prop} (hst : ∀ i v w w', C w → R w w' → T i v w → T i v w') (hrf : ∀ w, R w w) (hc : chk l tbl = true) (hsz : ∀ o ∈ l, ∀ d, o.dst = some d → d < a0.tmps.size) (hob : obligs P l a0 T C R 0 l tbl) (hJ : TyJ l a0 T C s a w) (i : Nat) (hr : i ∈ Region.ready .any l.toArray s) :
    wpOp P l.toArray Q i (TyJ l a0 T C (s.setIfInBounds i true)) a w := by
  obtain ⟨hu, o, ho, hall⟩ := mem_ready.1 hr
  have hi : l[i]? = some o := by simpa using ho
  obtain ⟨row, hrow, hok, _, _⟩ := chk_at hc hi
  have hF := hJ.facts hi hu hall row hok
  have hO := obligs_at l tbl 0 i o row hob hi hrow a w Q (fun A' w' => ∃ v, A' = a.put o.dst v ∧ T i v w' ∧ C w' ∧ R w w') hJ.cls (fun v w' h1 h2 h3 => ⟨v, rfl, by rw [Nat.zero_add] at h1; exact h1, h2, h3⟩) hF
  have hput : ∀ A' w', (∃ v, A' = a.put o.dst v ∧ under l a o (T i v w') ∧ C w' ∧ R w w') → TyJ l a0 T C (s.setIfInBounds i true) A' w' := by
    rintro A' w' ⟨v, rfl, h1, h2, h3⟩
    exact hJ.put hst hc hsz hi hr h1 h2 h3
  unfold wpOp
  rw [ho]
  simp only
  cases hg : o.guard with
  | none =>
    unfold under at hO
    rw [hg] at hO
    rw [if_pos (by simp [Region.wanted, hg])]
    refine .inl (Oper.wp_mono (fun A' w' h => hput A' w' ?_) hO)
    obtain ⟨v, h1, h2, h3⟩ := h
    exact ⟨v, h1, by unfold under; rw [hg]; exact h2, h3⟩
  | some gb =>
    obtain ⟨g, b⟩ := gb
    unfold under at hO
    rw [hg] at hO
    simp only at hO
    cases hd : (l[g]?).bind (·.dst) with
    | none =>
      rw [if_neg (by simp [Region.wanted, hg, yielded, hd])]
      exact hput _ _ ⟨undef, rfl, by unfold under; rw [hg]; simp only; rw [hd]; trivial, hJ.cls, hrf _⟩
    | some d =>
      rw [hd] at hO
      simp only at hO
      by_cases he : ev a d = .bool b
      · have hw : Region.wanted o (yielded l.toArray a.tmps) = true := by
          have hs : a.tmps[d]? = some (.bool b) := by
            cases hs : a.tmps[d]? with
            | none => rw [ev, hs] at he; simp [undef] at he
            | some u => rw [ev, hs] at he; simpa using he
          simp [Region.wanted, hg, yielded, hd, hs]
        rw [if_pos hw]
        refine .inl (Oper.wp_mono (fun A' w' h => hput A' w' ?_) (hO he))
        obtain ⟨v, h1, h2, h3⟩ := h
        refine ⟨v, h1, ?_, h3⟩
        unfold under
        rw [hg]
        simp only
        rw [hd]
        exact fun _ => h2
      · have hw : Region.wanted o (yielded l.toArray a.tmps) = false := by
          simp only [Region.wanted, hg, yielded]
          have hd' : (l.toArray[g]?).bind (·.dst) = some d := by simpa using hd
          rw [hd']
          simp only [Option.bind_some]
          cases hs : a.tmps[d]? with
          | none => rfl
          | some u =>
            have hu' : ev a d = u := by simp [ev, hs]
            rw [hu'] at he
            cases u <;> first | rfl | skip
            rename_i b'
            simp at he
            simpa using he
        rw [if_neg (by rw [hw]; simp)]
        refine hput _ _ ⟨undef, rfl, ?_, hJ.cls, hrf _⟩
        unfold under
        rw [hg]
        simp only
        rw [hd]
        exact fun h => absurd h he

theorem ready_all (hc : chk l tbl = true) (hs : s.size = l.length) (hr : Region.ready .any l.toArray s = []) (j : Nat) (hj : j < l.length) : s.getD j false = true := by
  induction j using Nat.strongRecOn with
  | ind j ih =>
    cases hd : s.getD j false with
    | true => rfl
    | false =>
      obtain ⟨_, _, _, hb, _⟩ := chk_at hc (i := j) (o := l[j]) (by simp [hj])
      have : j ∈ Region.ready .any l.toArray s := by
        refine mem_ready.2 ⟨?_, l[j], by simp [hj], fun e he hbe => ?_⟩
        · have hlt : j < s.size := by omega
          simpa [Array.getD, hlt] using hd
        · have := hb e he hbe
          exact ih e.on this (by omega)
      rw [hr] at this
      cases this

/-- A region that draws its order: each operation by itself, in whatever world of the class; then whatever they have yielded. -/
theorem wp_region_tw {P : Program} {id : Nat} {l : List Oper} {Q : Exit → Act → World → Prop} {a : Act} {w : World} (tbl : List Src) (T : Nat → Value → World → Prop) (C : World → Prop) (R : World → World → Prop) (n : Nat) (hn : a.tmps.size = n) (hc : (P.follows .mixedOrders && chk l tbl && l.all (fun o => match o.dst with | some d => decide (d < n) | none => true)) = true) (hst : ∀ i v w w', C w → R w w' → T i v w → T i v w') (hrf : ∀ w, R w w) (hC : C w.drew) (hob : obligs P l a T C R 0 l tbl) (hQ : ∀ w', C w' → upto (fun i v => T i v w') (fun a' => Q .normal a' w') 0 l a) : (Code.region id l.toArray true).wp P Q a w := by
  simp only [Bool.and_eq_true] at hc
  obtain ⟨⟨hm, hc⟩, hz⟩ := hc
  have hsz : ∀ o ∈ l, ∀ d, o.dst = some d → d < a.tmps.size := fun o ho d hd => by
    have := List.all_eq_true.1 hz o ho
    rw [hd] at this
    rw [hn]
    simpa using this
  refine wp_region_any hm (wpAny_inv (TyJ l a T C) (fun s a' w' i hJ hr => hJ.step hst hrf hc hsz hob i hr) (fun s a' w' hJ hr => ?_) _ _ _ _ ?_ ⟨by simp, ?_, rfl, rfl, fun _ _ => rfl, fun j o d hj hd hs => ?_, hC⟩)
  · have hall := ready_all hc hJ.size hr
    have := upto_puts (a := a') l 0 a (hQ w' hJ.cls) (fun k o d ho hd hg => by
      rw [Nat.zero_add]
      have := hJ.new k o d ho hd (hall k (List.getElem?_eq_some_iff.1 ho).1)
      unfold under at this
      rw [hg] at this
      exact this)
    rwa [putsOf_self hJ.defers hJ.tsize (fun t ht => hJ.old t (fun j hj => by
      obtain ⟨o, ho, hd⟩ := dstOf_some hj
      exact absurd hd (ht o (List.mem_of_getElem? ho))))] at this
  · unfold unl
    exact Nat.le_trans List.countP_le_length (by simp)
  · intro i x hx hs
    simp [Array.getD] at hs
  · simp [Array.getD] at hs
/-- The same where what is yielded does not lean on the world. -/
theorem wp_region_ty {P : Program} {id : Nat} {l : List Oper} {Q : Exit → Act → World → Prop} {a : Act} {w : World} (tbl : List Src) (T : Nat → Value → Prop) (C : World → Prop) (n : Nat) (hn : a.tmps.size = n) (hc : (P.follows .mixedOrders && chk l tbl && l.all (fun o => match o.dst with | some d => decide (d < n) | none => true)) = true) (hC : C w.drew) (hob : obligs P l a (fun i v _ => T i v) C (fun _ _ => True) 0 l tbl) (hQ : ∀ w', C w' → upto T (fun a' => Q .normal a' w') 0 l a) : (Code.region id l.toArray true).wp P Q a w :=
  wp_region_tw tbl (fun i v _ => T i v) C (fun _ _ => True) n hn hc (fun _ _ _ _ _ _ h => h) (fun _ => trivial) hC hob hQ
/-- The first i of n. -/
def firstN (n i : Nat) : Array Bool := (List.replicate i true ++ List.replicate (n - i) false).toArray
theorem firstN_lt {n i j : Nat} (h : j < i) : (firstN n i).getD j false = true := by
  simp [firstN, List.getElem?_append_left, h]
theorem firstN_at {n i : Nat} (h : i < n) : (firstN n i).getD i true = false := by
  have h1 : 0 < n - i := by omega
  simp [firstN, h1]
theorem firstN_set {n i : Nat} (h : i < n) : (firstN n i).setIfInBounds i true = firstN n (i + 1) := by
  unfold firstN
  simp only [List.setIfInBounds_toArray]
  congr 1
  rw [List.set_append_right _ _ (by simp)]
  simp only [List.length_replicate, Nat.sub_self]
  have : n - i = (n - (i + 1)) + 1 := by omega
  rw [this, List.replicate_succ, List.set_cons_zero, List.replicate_succ', List.append_assoc]
  rfl
theorem firstN_size {n i : Nat} (h : i ≤ n) : (firstN n i).size = n := by simp [firstN]; omega
theorem wpOps_ty {P : Program} {Q : Exit → Act → World → Prop} (hst : ∀ i v w w', C w → R w w' → T i v w → T i v w') (hrf : ∀ w, R w w) (hc : chk l tbl = true) (hsz : ∀ o ∈ l, ∀ d, o.dst = some d → d < a0.tmps.size) (hob : obligs P l a0 T C R 0 l tbl)
    (hend : ∀ a w, TyJ l a0 T C (firstN l.length l.length) a w → Q .normal a w) : ∀ (k i : Nat) (a : Act) (w : World), i + k = l.length → TyJ l a0 T C (firstN l.length i) a w → wpOps P l.toArray Q (List.range' i k) a w
  | 0, i, a, w, hi, hJ => by
    have : i = l.length := by omega
    subst this
    exact hend a w hJ
  | k + 1, i, a, w, hi, hJ => by
    have hlt : i < l.length := by omega
    rw [List.range'_succ, wpOps_cons]
    have hr : i ∈ Region.ready .any l.toArray (firstN l.length i) := by
      obtain ⟨_, _, _, hb, _⟩ := chk_at hc (i := i) (o := l[i]) (by simp [hlt])
      exact mem_ready.2 ⟨firstN_at hlt, l[i], by simp [hlt], fun e he hbe => firstN_lt (hb e he hbe)⟩
    refine wpOp_mono (fun a' w' h => ?_) (hJ.step hst hrf hc hsz hob i hr)
    rw [firstN_set hlt] at h
    exact wpOps_ty hst hrf hc hsz hob hend k (i + 1) a' w' (by omega) h
/-- The same of a region that has an order of its own. -/
theorem wp_region_ts {P : Program} {id : Nat} {l : List Oper} {Q : Exit → Act → World → Prop} {a : Act} {w : World} (tbl : List Src) (T : Nat → Value → Prop) (C : World → Prop) (n : Nat) (hn : a.tmps.size = n) (hc : (chk l tbl && l.all (fun o => match o.dst with | some d => decide (d < n) | none => true)) = true) (hC : C w) (hob : obligs P l a (fun i v _ => T i v) C (fun _ _ => True) 0 l tbl) (hQ : ∀ w', C w' → upto T (fun a' => Q .normal a' w') 0 l a) : (Code.region id l.toArray false).wp P Q a w := by
  simp only [Bool.and_eq_true] at hc
  obtain ⟨hc, hz⟩ := hc
  have hsz : ∀ o ∈ l, ∀ d, o.dst = some d → d < a.tmps.size := fun o ho d hd => by
    have := List.all_eq_true.1 hz o ho
    rw [hd] at this
    rw [hn]
    simpa using this
  refine wp_region ?_
  have h0 := wpOps_ty (P := P) (Q := Q) (T := fun i v _ => T i v) (C := C) (R := fun _ _ => True) (fun _ _ _ _ _ _ h => h) (fun _ => trivial) hc hsz hob (fun a' w' hJ => ?_) l.length 0 a w (by omega) ⟨firstN_size (by omega), ?_, rfl, rfl, fun _ _ => rfl, fun j o d hj hd hs => ?_, hC⟩
  · rw [List.size_toArray, List.range_eq_range']
    exact h0
  · have hall : ∀ j, j < l.length → (firstN l.length l.length).getD j false = true := fun j hj => firstN_lt hj
    have := upto_puts (a := a') l 0 a (hQ w' hJ.cls) (fun k o d ho hd hg => by
      rw [Nat.zero_add]
      have := hJ.new k o d ho hd (hall k (List.getElem?_eq_some_iff.1 ho).1)
      unfold under at this
      rw [hg] at this
      exact this)
    rwa [putsOf_self hJ.defers hJ.tsize (fun t ht => hJ.old t (fun j hj => by
      obtain ⟨o, ho, hd⟩ := dstOf_some hj
      exact absurd hd (ht o (List.mem_of_getElem? ho))))] at this
  · intro i x hx hs
    simp [firstN, Array.getD] at hs
  · simp [firstN, Array.getD] at hs
end
end Go.Proofs.YthdlkpgialmlfaaGreatDoor
