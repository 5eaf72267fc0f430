/- Texts: rows of numbers, as the document reads them. -/
import Derived.Test.YthdlkpgialmlfaaGreatDoorTh
namespace Go.Proofs.YthdlkpgialmlfaaGreatDoor
open Go.RowKit

def inM (n : Int) : Bool := decide (-1000000 ≤ n ∧ n ≤ 1000000)
def numIn (s : List UInt8) : Option Int := match numOf s with
  | some n => if inM n then some n else none
  | none => none
def readP : List (List UInt8) → Option (List Int)
  | [] => some []
  | s :: r => match numIn s, readP r with
    | some n, some xs => some (n :: xs)
    | _, _ => none
def readB (t : List UInt8) (n : Nat) : Option (List Int) :=
  if (cutB 32 t).length = n then match readP (cutB 32 t) with
    | some xs => if numsB xs = t then some xs else none
    | none => none
  else none

theorem readP_snoc : ∀ (ws : List (List UInt8)) (s : List UInt8), readP (ws ++ [s]) = match readP ws, numIn s with
    | some xs, some n => some (xs ++ [n])
    | _, _ => none
  | [], s => by
    simp only [List.nil_append, readP]
    cases numIn s <;> rfl
  | a :: ws, s => by
    simp only [List.cons_append, readP, readP_snoc ws s]
    cases numIn a <;> cases readP ws <;> cases numIn s <;> simp
theorem readP_none : ∀ (ws : List (List UInt8)) (k : Nat) (h : k < ws.length), numIn ws[k] = none → readP ws = none
  | a :: ws, 0, _, h => by
    simp only [List.getElem_cons_zero] at h
    simp [readP, h]
  | a :: ws, k + 1, hk, h => by
    have := readP_none ws k (by simpa using hk) (by simpa using h)
    simp only [readP, this]
    cases numIn a <;> rfl
theorem readP_length : ∀ (ws : List (List UInt8)) (xs : List Int), readP ws = some xs → xs.length = ws.length
  | [], xs, h => by simp [readP] at h; simp [← h]
  | a :: ws, xs, h => by
    simp only [readP] at h
    split at h
    · rename_i n ys h1 h2
      have := readP_length ws ys h2
      simp at h
      simp [← h, this]
    · simp at h
theorem readP_in : ∀ (ws : List (List UInt8)) (xs : List Int), readP ws = some xs → ∀ x ∈ xs, inM x = true
  | [], xs, h => by
    simp [readP] at h
    subst h
    intro x hx
    simp at hx
  | a :: ws, xs, h => by
    simp only [readP] at h
    split at h
    · rename_i n ys h1 h2
      have h3 := readP_in ws ys h2
      simp at h
      subst h
      intro x hx
      simp only [List.mem_cons] at hx
      rcases hx with rfl | hx
      · unfold numIn at h1
        split at h1
        · split at h1
          · simp at h1
            subst h1
            assumption
          · simp at h1
        · simp at h1
      · exact h3 x hx
    · simp at h

theorem cut_mem (c : UInt8) : ∀ (l p : List UInt8), p ∈ cutB c l → p.length ≤ l.length
  | [], p, h => by simp [cutB] at h; simp [h]
  | b :: r, p, h => by
    have ih := cut_mem c r
    simp only [cutB] at h
    split at h
    · simp only [List.mem_cons] at h
      rcases h with rfl | h
      · simp
      · have := ih p h
        simp
        omega
    · split at h
      · simp only [List.mem_singleton] at h
        subst h
        simp
      · rename_i q qs hq
        simp only [List.mem_cons] at h
        rcases h with rfl | h
        · have := ih q (by rw [hq]; simp)
          simp
          omega
        · have := ih p (by rw [hq]; simp [h])
          simp
          omega
theorem inM_i64 {n : Int} (h : inM n = true) : I64 n := by
  simp only [inM, decide_eq_true_eq] at h
  exact ⟨by omega, by omega⟩

theorem info3 : (Tryz.prog.info? 3).map (fun i => (i.zero, i.size, i.bytes)) = some (some (.int .i64 0), 1, 8) := by kernel_rfl
/-- A row of numbers of one's own. -/
def IR (W : World) (base : Nat) (v : Value) (ks : List Int) : Prop := W.ownsRow base 3 1 v ks.length (ks.map (Value.int .i64))
theorem IR.new (W : World) {base : Nat} (h : base ≤ W.heap.size) : IR (W.alloc (.cells #[] 3)) base (.slice (some ⟨W.heap.size, 0, none⟩) 0 0) [] :=
  ⟨by simp, .inr ⟨W.heap.size, 0, #[], rfl, h, heap_alloc_new W _, Nat.le_refl _, by unfold maxLen; omega, by simp, by simp⟩⟩
theorem addmid0 (b o j : Nat) : (⟨b, o, none⟩ : Addr).add j = ⟨b, o + j, none⟩ := by unfold Addr.add; split <;> simp_all
theorem SR.cell {W : World} {base g n c : Nat} {ks : List (List UInt8)} (h : SR W base (.slice (some ⟨g, 0, none⟩) n c) ks) (i : Nat) (hi : i < ks.length) : W.cell? ⟨g, i, none⟩ = some (str ks[i]) := by
  have := World.ownsRow.cells h rfl i (str ks[i]) (by simp [hi])
  rw [addmid0, Nat.zero_add] at this
  exact this
theorem IR.ints {W : World} {base g n c : Nat} {ks : List Int} (h : IR W base (.slice (some ⟨g, 0, none⟩) n c) ks) : IntsAt W (some ⟨g, 0, none⟩) ks := by
  refine .inr ⟨g, 0, rfl, (World.ownsRow.lt h g rfl).2, fun i hi => ?_⟩
  have := World.ownsRow.cells h rfl i (.int .i64 ks[i]) (by simp [hi])
  rw [addmid0] at this
  exact this
theorem SR.below {W W' : World} {base : Nat} {v : Value} {ks : List (List UInt8)} (h : SR W base v ks) (hb : Below W.heap.size W W') : SR W' base v ks :=
  World.ownsRow.kept (row := none) h ⟨hb.os, hb.tape, hb.output, hb.size, fun k hk _ => hb.block k hk⟩ (by cases hv : v.ownBlock <;> simp)
theorem IR.below {W W' : World} {base : Nat} {v : Value} {ks : List Int} (h : IR W base v ks) (hb : Below W.heap.size W W') : IR W' base v ks :=
  World.ownsRow.kept (row := none) h ⟨hb.os, hb.tape, hb.output, hb.size, fun k hk _ => hb.block k hk⟩ (by cases hv : v.ownBlock <;> simp)
theorem cut32 (l : List UInt8) (w : World) (hl : l.length ≤ 2000000) :
    Calls Tryz.prog 15 #[str l, .int .u8 32] w fun e w' => ∃ g cp, e = .returned (.slice (some ⟨g, 0, none⟩) (cutB 32 l).length cp) ∧ SR w' w.heap.size (.slice (some ⟨g, 0, none⟩) (cutB 32 l).length cp) (cutB 32 l) ∧ Below w.heap.size w w' := by
  refine (cut_any l 32 w hl).mono ?_
  rintro e w' ⟨v, rfl, hS, hb⟩
  have hp := cut_pos 32 l
  obtain ⟨m, hm⟩ : ∃ m, (cutB 32 l).length = m + 1 := ⟨(cutB 32 l).length - 1, by omega⟩
  have hS' := hS
  unfold SR at hS'
  rw [hm] at hS'
  obtain ⟨g, cp, rfl⟩ := row_form hS'
  rw [← hm] at hS ⊢
  exact ⟨g, cp, rfl, hS, hb⟩

set_option maxRecDepth 100000 in
set_option maxHeartbeats 4000000 in
theorem read_any (t : List UInt8) (n : Nat) (w : World) (hl : t.length ≤ 2000000) (hn : n ≤ 100) :
    Calls Tryz.prog 17 #[str t, .int .i64 n] w fun e w' => ∃ v, e = .returned (.tuple #[v, .bool (readB t n).isSome]) ∧ (∀ xs, readB t n = some xs → ∃ a c, v = .slice a xs.length c ∧ IntsAt w' a xs) ∧ Below w.heap.size w w' := by
  obtain ⟨inf3, i1, i2, i3, i4⟩ := info_parts info3
  have I1 := hid i1
  have I2 := hid i2
  have I3 := hid i3
  have I4 := hid i4
  clear i1 i2 i3 i4
  go_enter Tryz.func17, Tryz.ntmps17
  go_wp2_with fail
  refine (cut32 t w hl).mono ?_
  rintro e w1 ⟨g, cp, rfl, hS, hb1⟩
  have hcl := cut_length 32 t
  by_cases hcn : (cutB 32 t).length = n
  · have e1 : (((cutB 32 t).length : Int) != (n : Int)) = false := by simp [hcn]
    have HS := hid hS
    have HB1 := hid hb1
    clear hS hb1
    have HRB : Hid (readB t n = match readP (cutB 32 t) with
      | some xs => if numsB xs = t then some xs else none
      | none => none) := by rw [Hid, readB, if_pos hcn]
    have HCN := hid hcn
    clear hcn
    have HPL := hid (cut_mem 32 t)
    generalize hws : cutB 32 t = ws at *
    clear hws
    have hgl := HS.out.lt
    go_wp2
    go_loopw [7, 8] (fun o i w' => ∃ (go co k : Nat) (out : List Int), o = .slice (some ⟨go, 0, none⟩) out.length co ∧ i = .int .i64 k ∧ k ≤ n ∧ out.length = k ∧ Hid (readP (ws.take k) = some out) ∧ IR w' w1.heap.size (.slice (some ⟨go, 0, none⟩) out.length co) out ∧ SR w' w.heap.size (.slice (some ⟨g, 0, none⟩) ws.length cp) ws ∧ Below w.heap.size w w') (fun _ i _ => n - (intOf i).toNat)
    case atStart => exact ⟨w1.heap.size, 0, 0, [], rfl, rfl, by omega, rfl, rfl, IR.new w1 (Nat.le_refl _), HS.out.below (by go_grown), HB1.out.alloc HB1.out.size _⟩
    case round =>
      obtain ⟨go, co, k, out, rfl, rfl, hk, hok, hrp, hO, hSr, hb⟩ := hrel
      have hgo := World.ownsRow.lt hO go rfl
      have HO := hid hO
      have HSr := hid hSr
      have HB := hid hb
      have hsz : w1.heap.size ≤ wr.heap.size := by omega
      have hol : out.length ≤ n := by omega
      have HOK := hid hok
      clear hO hb hok
      by_cases hkn : k < n
      · have hkl : k < ws.length := by rw [HCN.out]; exact hkn
        have hcell := hSr.cell k hkl
        have hk0 : (0 : Int) ≤ (k : Int) := by omega
        have hk1 : (k : Int) < (ws.length : Int) := by omega
        have hk2 : (k : Int) < (n : Int) := by omega
        have hpl := HPL.out ws[k] (List.getElem_mem hkl)
        have HNONE := hid (readP_none ws k hkl)
        have HSN := hid (readP_snoc (ws.take k) ws[k])
        have HTK : Hid (ws.take (k + 1) = ws.take k ++ [ws[k]]) := List.take_succ_eq_append_getElem hkl
        clear hSr
        go_wp2_with fail
        refine (num_any ws[k] _ (by omega)).mono ?_
        rintro e w2 ⟨rfl, rfl⟩
        cases hnum : numOf ws[k] with
        | none =>
          have hno : Hid (readB t n = none) := by rw [Hid, HRB.out, HNONE.out (by simp [numIn, hnum])]
          clear HNONE HSN
          go_wp2
          go_ret2
          exact ⟨_, by rw [hno.out]; rfl, (fun xs h => by rw [hno.out] at h; cases h), HB.out⟩
        | some m =>
          by_cases hlo : m < -1000000
          · have hno : Hid (readB t n = none) := by rw [Hid, HRB.out, HNONE.out (by simp [numIn, hnum, inM]; omega)]
            clear HNONE HSN
            go_wp2
            go_ret2
            exact ⟨_, by rw [hno.out]; rfl, (fun xs h => by rw [hno.out] at h; cases h), HB.out⟩
          · by_cases hhi : 1000000 < m
            · have hno : Hid (readB t n = none) := by rw [Hid, HRB.out, HNONE.out (by simp [numIn, hnum, inM]; omega)]
              clear HNONE HSN
              go_wp2
              go_ret2
              exact ⟨_, by rw [hno.out]; rfl, (fun xs h => by rw [hno.out] at h; cases h), HB.out⟩
            · have hnew : Hid (readP (ws.take (k + 1)) = some (out ++ [m])) := by
                have h1 : numIn ws[k] = some m := by
                  have h2 : inM m = true := by simp [inM]; omega
                  simp [numIn, hnum, h2]
                rw [Hid, HTK.out, HSN.out, hrp.out, h1]
              clear HNONE HSN hrp
              go_wp2_with (refine wpList_append_own_at _ (by rfl) _ _ _ (by rfl) w1.heap.size 3 inf3 _ 1 8 Tryz.underlying45 I1.out I2.out I3.out I4.out (by rfl) (by omega) (.slice (some ⟨go, 0, none⟩) out.length co) out.length (out.map (Value.int .i64)) (by rfl) (World.ownsRow.alloc HO.out _) _ 1 1 [.int .i64 m] (by rfl) (by rfl) (cell_one_new _ _ _) (by intro u hu; simp at hu; subst hu; rfl) (by unfold maxLen; omega) (by omega) (by simp; omega) ?_; intro vd W5 hown' hgrow hnil hfr; obtain ⟨g2, c2, rfl⟩ := row_form hown')
              have hO5 : IR W5 w1.heap.size (.slice (some ⟨g2, 0, none⟩) (out ++ [m]).length c2) (out ++ [m]) := by
                unfold IR
                rw [List.map_append, List.length_append]
                exact hown'
              have hB5 : Below w.heap.size w W5 := below_grown2 (HB.out.alloc HB.out.size _) hgrow (by have := HB.out.size; simp; omega) (fun j e => by simp [Value.ownBlock] at e; omega)
              have hS5 : SR W5 w.heap.size (.slice (some ⟨g, 0, none⟩) ws.length cp) ws := by
                have h1 : SR (w2.alloc (.cells #[.int .i64 m] 3)) w.heap.size (.slice (some ⟨g, 0, none⟩) ws.length cp) ws := HSr.out.below (by go_grown)
                exact World.ownsRow.kept h1 hgrow (.inr (by simp [Value.ownBlock]; omega))
              have HO5 := hid hO5
              have HB5 := hid hB5
              have HS5 := hid hS5
              clear hO5 hB5 hS5 hown' hgrow hnil hfr HO HB HSr
              refine ⟨⟨g2, c2, k + 1, out ++ [m], by simp, by simp, by omega, by simp [HOK.out], hnew, HO5.out, HS5.out, HB5.out⟩, ?_⟩
              simp [intOf]
              omega
      · have hkk : k = n := by omega
        have hk2 : ¬ (k : Int) < (n : Int) := by omega
        have hrp2 : readP ws = some out := by
          have := hrp.out
          rwa [List.take_of_length_le (by rw [HCN.out]; omega)] at this
        have hin := readP_in ws out hrp2
        have hR : Hid (readB t n = if numsB out = t then some out else none) := by rw [Hid, HRB.out, hrp2]
        clear hrp2 hrp hSr
        go_wp2_with fail
        refine (nums_any _ _ _ out _ rfl (by omega) (IR.ints HO.out) (fun x hx => inM_i64 (hin x hx))).mono ?_
        rintro e w2 ⟨rfl, hb2⟩
        have hfin := Below.trans HB.out (hb2.mono HB.out.size)
        have hIn := (IR.ints HO.out).keep hb2
        by_cases heq : numsB out = t
        · have e2 : (numsB out == t) = true := by simp [heq]
          have hyes : Hid (readB t n = some out) := by rw [Hid, hR.out, if_pos heq]
          clear heq hin
          go_wp2
          go_ret2
          exact ⟨_, by rw [hyes.out]; rfl, (fun xs h => by rw [hyes.out] at h; cases h; exact ⟨_, _, rfl, hIn⟩), hfin⟩
        · have e2 : (numsB out == t) = false := by simp [heq]
          have hno : Hid (readB t n = none) := by rw [Hid, hR.out, if_neg heq]
          clear heq hin
          go_wp2
          go_ret2
          exact ⟨_, by rw [hno.out]; rfl, (fun xs h => by rw [hno.out] at h; cases h), hfin⟩
  · have e1 : (((cutB 32 t).length : Int) != (n : Int)) = true := by rw [bne_iff_ne]; omega
    have hno : Hid (readB t n = none) := by rw [Hid, readB, if_neg hcn]
    clear hcn
    go_wp2
    go_ret2
    exact ⟨_, by rw [hno.out]; rfl, (fun xs h => by rw [hno.out] at h; cases h), hb1⟩
end Go.Proofs.YthdlkpgialmlfaaGreatDoor
