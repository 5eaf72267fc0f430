/- A region that draws its order, whose last operation waits for all others, be it by way of others. -/
import Derived.Test.YthdlkpgialmlfaaGreatDoorLast
namespace Go.Proofs.YthdlkpgialmlfaaGreatDoor
open Go.RowKit

/-- x waits for number j, at once or by way of others. -/
def waits (l : List Oper) : Nat → Oper → Nat → Bool
  | 0, _, _ => false
  | f + 1, x, j => x.after.any fun e => Region.binds .any e && (e.on == j || (match l[e.on]? with | some y => waits l f y j | none => false))
def lastT (l : List Oper) (o : Oper) : Bool :=
  (List.range l.length).all (fun j => waits l (l.length + 1) o j) && o.after.all (fun e => e.on < l.length) && l.all (fun x => match x.guard with | none => true | some (j, _) => j < l.length) && (match o.guard with | none => true | _ => false) &&
  (List.range l.length).all (fun i => (l[i]?).all fun x => x.after.all fun e => !Region.binds .any e || e.on < i)
/-- Whoever has come up has all that it waits for behind it. -/
def Closed (l : List Oper) (s : Array Bool) : Prop := ∀ i x, l[i]? = some x → s.getD i false = true → ∀ e ∈ x.after, Region.binds .any e = true → s.getD e.on false = true
theorem waits_listed {l : List Oper} {s : Array Bool} (hD : Closed l s) : ∀ (f : Nat) (x : Oper) (j : Nat), (∀ e ∈ x.after, Region.binds .any e = true → s.getD e.on false = true) → waits l f x j = true → s.getD j false = true
  | 0, _, _, _, h => by simp [waits] at h
  | f + 1, x, j, hx, h => by
    unfold waits at h
    obtain ⟨e, he, hb⟩ := Array.any_eq_true'.1 h
    simp only [Bool.and_eq_true, Bool.or_eq_true, beq_iff_eq] at hb
    have h1 := hx e he hb.1
    rcases hb.2 with h2 | h2
    · rw [← h2]; exact h1
    · cases hy : l[e.on]? with
      | none => rw [hy] at h2; cases h2
      | some y =>
        rw [hy] at h2
        exact waits_listed hD f y j (hD e.on y hy h1) h2
theorem Closed.next {l : List Oper} {s : Array Bool} (hD : Closed l s) (i : Nat) (hi : i ∈ Region.ready .any l.toArray s) : Closed l (s.setIfInBounds i true) := by
  obtain ⟨_, y, hy, hall⟩ := mem_ready.1 hi
  intro k x hx hk e he hb
  by_cases hki : i = k
  · subst hki
    have : x = y := by
      have h1 : l[i]? = some y := by simpa using hy
      rw [hx] at h1; exact Option.some.inj h1
    subst this
    exact getD_set_true (hall e he hb)
  · rw [getD_set_ne false hki] at hk
    exact getD_set_true (hD k x hx hk e he hb)

section
variable {P : Program} {l : List Oper} {o : Oper} {Q : Exit → Act → World → Prop}

theorem back_edgeT (hB : lastT l o = true) (i : Nat) (x : Oper) (hx : l[i]? = some x) (e : Edge) (he : e ∈ x.after) (hb : Region.binds .any e = true) : e.on < i := by
  simp only [lastT, Bool.and_eq_true] at hB
  have hi : i < l.length := (List.getElem?_eq_some_iff.1 hx).1
  have h1 := List.all_eq_true.1 hB.2 i (by simpa using hi)
  rw [hx] at h1
  have h3 : (x.after.all fun e => !Region.binds .any e || e.on < i) = true := h1
  have h2 := Array.all_eq_true_iff_forall_mem.1 h3 e he
  simpa [hb] using h2

theorem ready_frontT (hB : lastT l o = true) (s : Array Bool) (hs : s.size = l.length) (j : Nat) (hj : j < l.length) :
    j ∈ Region.ready .any (l ++ [o]).toArray (s.push false) ↔ j ∈ Region.ready .any l.toArray s := by
  rw [mem_ready, mem_ready, getD_push _ _ _ _ (by omega)]
  have e1 : (l ++ [o]).toArray[j]? = l.toArray[j]? := by simp [List.getElem?_append_left hj]
  rw [e1]
  constructor
  · rintro ⟨h0, x, hx, hall⟩
    refine ⟨h0, x, hx, fun e he hb => ?_⟩
    have hlt := back_edgeT hB j x (by simpa using hx) e he hb
    have := hall e he hb
    rwa [getD_push _ _ _ _ (by omega)] at this
  · rintro ⟨h0, x, hx, hall⟩
    refine ⟨h0, x, hx, fun e he hb => ?_⟩
    have hlt := back_edgeT hB j x (by simpa using hx) e he hb
    rw [getD_push _ _ _ _ (by omega)]
    exact hall e he hb

/-- The last one comes up just when all others have. -/
theorem ready_lastT (hB : lastT l o = true) (s : Array Bool) (hs : s.size = l.length) (hD : Closed l s) :
    l.length ∈ Region.ready .any (l ++ [o]).toArray (s.push false) ↔ ∀ j, j < l.length → s.getD j false = true := by
  simp only [lastT, Bool.and_eq_true] at hB
  obtain ⟨⟨⟨⟨h1, h2⟩, _⟩, _⟩, _⟩ := hB
  rw [mem_ready]
  have e1 : (l ++ [o]).toArray[l.length]? = some o := by simp
  rw [e1]
  constructor
  · rintro ⟨_, x, hx, hall⟩ j hj
    cases hx
    have := List.all_eq_true.1 h1 j (by simpa using hj)
    refine waits_listed hD _ o j (fun e he hb => ?_) this
    have hlt : e.on < l.length := by simpa using Array.all_eq_true_iff_forall_mem.1 h2 e he
    have h3 := hall e he hb
    rwa [getD_push _ _ _ _ (by omega)] at h3
  · intro h
    refine ⟨by rw [← hs]; simp, o, rfl, fun e he _ => ?_⟩
    have := Array.all_eq_true_iff_forall_mem.1 h2 e he
    have hlt : e.on < l.length := by simpa using this
    rw [getD_push _ _ _ _ (by omega)]
    exact h _ hlt

/-- The least one that has not come up may come up. -/
theorem ready_leastT (hB : lastT l o = true) (s : Array Bool) (hs : s.size = l.length) (j : Nat) (hj : j < l.length) (hu : s.getD j false = false) : Region.ready .any l.toArray s ≠ [] := by
  have key : ∀ n j, j ≤ n → j < l.length → s.getD j false = false → ∃ i, i ∈ Region.ready .any l.toArray s := by
    intro n
    induction n with
    | zero =>
      intro j hn hj hu
      have h0 : j = 0 := by omega
      subst h0
      refine ⟨0, mem_ready.2 ⟨?_, l[0], by simp [hj], fun e he hb => ?_⟩⟩
      · have hlt : 0 < s.size := by omega
        simp only [Array.getD_eq_getD_getElem?, Array.getElem?_eq_getElem hlt, Option.getD_some] at hu ⊢
        exact hu
      · have := back_edgeT hB 0 l[0] (by simp [hj]) e he hb
        omega
    | succ n ih =>
      intro j hn hj hu
      by_cases hex : ∃ k, k < j ∧ s.getD k false = false
      · obtain ⟨k, hk, hku⟩ := hex
        exact ih k (by omega) (by omega) hku
      · refine ⟨j, mem_ready.2 ⟨?_, l[j], by simp [hj], fun e he hb => ?_⟩⟩
        · have hlt : j < s.size := by omega
          simp only [Array.getD_eq_getD_getElem?, Array.getElem?_eq_getElem hlt, Option.getD_some] at hu ⊢
          exact hu
        · have hlt := back_edgeT hB j l[j] (by simp [hj]) e he hb
          cases hc : s.getD e.on false
          · exact absurd ⟨e.on, hlt, hc⟩ hex
          · rfl
  obtain ⟨i, hi⟩ := key j j (Nat.le_refl _) hj hu
  intro h
  rw [h] at hi
  cases hi

theorem wpOp_frontT (hB : lastT l o = true) {K : Act → World → Prop} (i : Nat) (hi : i < l.length) (a : Act) (w : World) (h : wpOp P l.toArray (lastQ P o Q) i K a w) : wpOp P (l ++ [o]).toArray Q i K a w := by
  have e1 : (l ++ [o]).toArray[i]? = l.toArray[i]? := by simp [List.getElem?_append_left hi]
  unfold wpOp at *
  rw [e1]
  have e2 : l.toArray[i]? = some l[i] := by simp [hi]
  rw [e2] at h ⊢
  have hy : Region.wanted l[i] (yielded (l ++ [o]).toArray a.tmps) = Region.wanted l[i] (yielded l.toArray a.tmps) := by
    simp only [lastT, Bool.and_eq_true] at hB
    obtain ⟨⟨⟨⟨_, _⟩, h3⟩, _⟩, _⟩ := hB
    have := List.all_eq_true.1 h3 l[i] (List.getElem_mem hi)
    unfold Region.wanted
    cases hg : l[i].guard with
    | none => rfl
    | some jb =>
      obtain ⟨j, b⟩ := jb
      rw [hg] at this
      have hj : j < l.length := by simpa using this
      simp only [yielded]
      have e3 : (l ++ [o]).toArray[j]? = l.toArray[j]? := by simp [List.getElem?_append_left hj]
      rw [e3]
  simp only [hy]
  exact h

theorem wpAny_lastT (hB : lastT l o = true) : ∀ (fuel : Nat) (s : Array Bool) (a : Act) (w : World), s.size = l.length → Closed l s → s.toList.count false = fuel →
    wpAny P .any l.toArray (lastQ P o Q) fuel s a w → wpAny P .any (l ++ [o]).toArray Q (fuel + 1) (s.push false) a w
  | 0, s, a, w, hs, hD, hc, h => by
    have hall : ∀ j, j < l.length → s.getD j false = true := by
      intro j hj
      cases hv : s.getD j false
      · have hlt : j < s.size := by omega
        have hm : false ∈ s.toList := by
          simp only [Array.getD_eq_getD_getElem?, Array.getElem?_eq_getElem hlt, Option.getD_some] at hv
          rw [← hv]; exact Array.getElem_mem_toList hlt
        have := List.count_pos_iff.2 hm
        omega
      · rfl
    have hr := (ready_lastT hB s hs hD).2 hall
    refine ⟨fun h0 => (by rw [h0] at hr; cases hr), fun i hi => ?_⟩
    have hin : i < l.length + 1 := by
      obtain ⟨_, x, hx, _⟩ := mem_ready.1 hi
      have := (Array.getElem?_eq_some_iff.1 hx).1
      simpa using this
    by_cases hil : i < l.length
    · have := (ready_frontT hB s hs i hil).1 hi
      rw [h.1] at this
      cases this
    · have : i = l.length := by omega
      subst this
      unfold wpOp
      have e1 : (l ++ [o]).toArray[l.length]? = some o := by simp
      rw [e1]
      simp only [lastT, Bool.and_eq_true] at hB
      obtain ⟨⟨⟨⟨_, _⟩, _⟩, h4⟩, _⟩ := hB
      have hg : o.guard = none := by
        cases hg : o.guard with
        | none => rfl
        | some x => rw [hg] at h4; cases h4
      simp only [Region.wanted, hg, if_true]
      refine .inl (Oper.wp_mono (fun a' w' hq => ⟨?_, hq⟩) h.2)
      cases hrr : Region.ready .any (l ++ [o]).toArray ((s.push false).setIfInBounds l.length true) with
      | nil => rfl
      | cons i r =>
        have hi' : i ∈ Region.ready .any (l ++ [o]).toArray ((s.push false).setIfInBounds l.length true) := by rw [hrr]; exact List.mem_cons_self
        obtain ⟨h0, x, hx, _⟩ := mem_ready.1 hi'
        have hlt := (Array.getElem?_eq_some_iff.1 hx).1
        have hlt' : i < l.length + 1 := by simpa using hlt
        by_cases hil : i = l.length
        · subst hil
          rw [Array.getD_eq_getD_getElem?, Array.getElem?_setIfInBounds] at h0
          simp [hs] at h0
        · rw [getD_set_ne true (Ne.symm hil), getD_push _ _ _ _ (by omega)] at h0
          have := hall i (by omega)
          have hlt2 : i < s.size := by omega
          simp only [Array.getD_eq_getD_getElem?, Array.getElem?_eq_getElem hlt2, Option.getD_some] at h0 this
          rw [h0] at this
          cases this
  | fuel + 1, s, a, w, hs, hD, hc, h => by
    have hm : false ∈ s.toList := List.count_pos_iff.1 (by omega)
    obtain ⟨j, hj, hv⟩ := List.getElem_of_mem hm
    have hj' : j < l.length := by simpa [hs] using hj
    have hu : s.getD j false = false := by
      have hlt : j < s.size := by omega
      simp only [Array.getD_eq_getD_getElem?, Array.getElem?_eq_getElem hlt, Option.getD_some]
      simpa using hv
    have hne := ready_leastT hB s hs j hj' hu
    refine ⟨fun h0 => ?_, fun i hi => ?_⟩
    · exfalso
      cases hr : Region.ready .any l.toArray s with
      | nil => exact hne hr
      | cons k r =>
        have hk : k ∈ Region.ready .any l.toArray s := by rw [hr]; exact List.mem_cons_self
        obtain ⟨_, x, hx, _⟩ := mem_ready.1 hk
        have hkl : k < l.length := by simpa using (Array.getElem?_eq_some_iff.1 hx).1
        have := (ready_frontT hB s hs k hkl).2 hk
        rw [h0] at this
        cases this
    · have hin : i < l.length + 1 := by
        obtain ⟨_, x, hx, _⟩ := mem_ready.1 hi
        have := (Array.getElem?_eq_some_iff.1 hx).1
        simpa using this
      by_cases hil : i < l.length
      · have hi' := (ready_frontT hB s hs i hil).1 hi
        refine wpOp_frontT hB i hil a w (wpOp_mono (fun a' w' hq => ?_) (h.2 i hi'))
        rw [set_push _ _ _ _ (by omega)]
        refine wpAny_lastT hB fuel _ a' w' (by simp [hs]) (hD.next i hi') ?_ hq
        have hiu := (mem_ready.1 hi').1
        have hlt : i < s.size := by omega
        have hsi : s[i] = false := by simpa [hlt] using hiu
        rw [Array.setIfInBounds_def, dif_pos hlt, Array.toList_set, List.count_set (by simpa using hlt)]
        rw [Array.getElem_toList, hsi, if_pos (by rfl), if_neg (by decide)]
        omega
      · have : i = l.length := by omega
        subst this
        have := (ready_lastT hB s hs hD).1 hi j hj'
        rw [hu] at this
        cases this

/-- One walk of the others, in whatever order; then the last. -/
theorem wp_region_lastT {id : Nat} {a : Act} {w : World} (hm : P.follows .mixedOrders = true) (hB : lastT l o = true)
    (h : wpAny P .any l.toArray (lastQ P o Q) l.length (Array.replicate l.length false) a { w with drawn := w.drawn + 1 }) : (Code.region id (l ++ [o]).toArray true).wp P Q a w := by
  refine wp_region_any hm ?_
  have := wpAny_lastT (Q := Q) hB l.length (Array.replicate l.length false) a { w with drawn := w.drawn + 1 } (by simp) (fun i x _ hi => by exfalso; simp [Array.getElem?_replicate] at hi; split at hi <;> simp at hi) (by simp) h
  have e : (l ++ [o]).toArray.size = l.length + 1 := by simp
  rw [e, Array.replicate_succ]
  exact this

/-- The others quiet in a class of worlds, walked once in the order of the text; then the last, in every world of the class. -/
theorem wp_region_quiet_lastT {C : World → Prop} {id : Nat} {a : Act} {w : World} (hm : P.follows .mixedOrders = true) (hB : lastT l o = true) (hL : Region.lexB .any l.toArray = true) (hC : C w.drew)
    (h : wpQuiet P l.toArray C (fun a' => ∀ w', C w' → o.wp P a' w' (fun a'' w'' => Q .normal a'' w'') Q) l a) : (Code.region id (l ++ [o]).toArray true).wp P Q a w := by
  refine wp_region_lastT hm hB ?_
  simp only [Region.lexB, Bool.and_eq_true] at hL
  refine wpAny_of_quiet (C := C) (Q := fun a' => ∀ w', C w' → o.wp P a' w' (fun a'' w'' => Q .normal a'' w'') Q) (fun _ w' hw' h => h w' hw') _ _ _ _ hC ?_
  have := wpAnyQ_lex (C := C) (md := .any) hL.1 l 0 (Array.replicate l.length false) a (by simp) (by simpa using hL.2) h
  simpa using this

/-- The others quiet in the class 'nothing that was there has turned', walked once in the order of the text; then the last. -/
theorem wp_region_below_lastT {L : List Oper} {id : Nat} {a : Act} {W : World} (hm : P.follows .mixedOrders = true) (hne : L ≠ []) (hB : lastT (frontOf L) (lastOf L) = true) (hL : Region.lexB .any (frontOf L).toArray = true)
    (h : wpQuiet P (frontOf L).toArray (fun w' => Below W.heap.size W w') (fun a' => ∀ w', Below W.heap.size W w' → (lastOf L).wp P a' w' (fun a'' w'' => Q .normal a'' w'') Q) (frontOf L) a) : (Code.region id L.toArray true).wp P Q a W := by
  have := wp_region_quiet_lastT (id := id) (Q := Q) (w := W) hm hB hL (C := fun w' => Below W.heap.size W w') ((Below.refl _ _).drew) h
  rwa [front_last L hne] at this
end
end Go.Proofs.YthdlkpgialmlfaaGreatDoor
