/- Texts: the pieces of a text between bytes, as the document cuts them. -/
import Derived.Test.YthdlkpgialmlfaaGreatDoorTg
import Derived.Maps.AppendAt
import Derived.Deep.RegionLaw
import Derived.Deep.DeepCutAuto
namespace Go.Proofs.YthdlkpgialmlfaaGreatDoor
open Go.RowKit

def cutB (c : UInt8) : List UInt8 → List (List UInt8)
  | [] => [[]]
  | b :: r => if b = c then [] :: cutB c r else match cutB c r with
    | [] => [[b]]
    | p :: ps => (b :: p) :: ps
theorem cut_none {c : UInt8} : ∀ {l : List UInt8}, c ∉ l → cutB c l = [l]
  | [], _ => rfl
  | b :: r, h => by
    have h1 : ¬ b = c := fun e => h (by simp [e])
    have h2 := cut_none (c := c) (l := r) (fun e => h (by simp [e]))
    simp [cutB, h1, h2]
theorem cut_some {c : UInt8} : ∀ {p : List UInt8} (q : List UInt8), c ∉ p → cutB c (p ++ c :: q) = p :: cutB c q
  | [], q, _ => by simp [cutB]
  | b :: p, q, h => by
    have h1 : ¬ b = c := fun e => h (by simp [e])
    have h2 := cut_some (c := c) (p := p) q (fun e => h (by simp [e]))
    simp [cutB, h1, h2]

theorem info9 : (Tryz.prog.info? 9).map (fun i => (i.zero, i.size, i.bytes)) = some (some (.string ⟨#[]⟩), 1, 16) := by kernel_rfl

theorem row_form {base size n : Nat} {e : TypeId} {v : Value} {xs : List Value} {w : World} (h : w.ownsRow base e size v (n + 1) xs) : ∃ g cap, v = .slice (some ⟨g, 0, none⟩) (n + 1) cap := by
  rcases h.2 with ⟨_, h0⟩ | ⟨g, cap, _, hv, _⟩
  · omega
  · exact ⟨g, cap, hv⟩
/-- A row of texts of one's own. -/
def SR (W : World) (base : Nat) (v : Value) (ks : List (List UInt8)) : Prop := W.ownsRow base 9 1 v ks.length (ks.map str)
theorem SR.new (W : World) {base : Nat} (h : base ≤ W.heap.size) : SR (W.alloc (.cells #[] 9)) base (.slice (some ⟨W.heap.size, 0, none⟩) 0 0) [] :=
  ⟨by simp, .inr ⟨W.heap.size, 0, #[], rfl, h, heap_alloc_new W _, Nat.le_refl _, by unfold maxLen; omega, by simp, by simp⟩⟩
theorem SR.lt {W : World} {base g n c : Nat} {ks : List (List UInt8)} (h : SR W base (.slice (some ⟨g, 0, none⟩) n c) ks) : base ≤ g ∧ g < W.heap.size := World.ownsRow.lt h g rfl
theorem below_grown2 {B : Nat} {w U w' : World} {row : Option Nat} (h : Below B w U) (hg : U.grownBy w' row) (hB : B ≤ U.heap.size) (hr : ∀ k, row = some k → B ≤ k) : Below B w w' := by
  refine h.trans ⟨hg.os, hg.tape, hg.output, hg.size, fun k hk => hg.block k (by omega) ?_⟩
  intro e
  have := hr k e.symm
  omega

theorem cut_pos (c : UInt8) : ∀ l : List UInt8, 1 ≤ (cutB c l).length
  | [] => by simp [cutB]
  | b :: r => by
    simp only [cutB]
    split
    · simp
    · split <;> simp
theorem drop_split {l : List UInt8} {fr k : Nat} (h1 : fr ≤ k) (h2 : k < l.length) : l.drop fr = (l.drop fr).take (k - fr) ++ l[k] :: l.drop (k + 1) := by
  have h3 : (l.drop fr).drop (k - fr) = l.drop k := by rw [List.drop_drop]; congr 1; omega
  rw [← List.drop_eq_getElem_cons h2, ← h3, List.take_append_drop]
theorem take_more {l : List UInt8} {fr k : Nat} (h1 : fr ≤ k) (h2 : k < l.length) : (l.drop fr).take (k + 1 - fr) = (l.drop fr).take (k - fr) ++ [l[k]] := by
  have h3 : k + 1 - fr = (k - fr) + 1 := by omega
  rw [h3, List.take_succ_eq_append_getElem (by simp; omega), List.getElem_drop]
  congr 3
  omega
/-- A piece that is being cut: what stands ahead of it is cut, and it holds no such byte. -/
def CutAt (c : UInt8) (l : List UInt8) (i from_ : Nat) (out : List (List UInt8)) : Prop :=
  (i ≤ l.length ∧ from_ ≤ i ∧ out ++ cutB c (l.drop from_) = cutB c l ∧ c ∉ (l.drop from_).take (i - from_)) ∨ (i = l.length + 1 ∧ out = cutB c l)

theorem cut_length (c : UInt8) : ∀ l : List UInt8, (cutB c l).length ≤ l.length + 1
  | [] => by simp [cutB]
  | b :: r => by
    have := cut_length c r
    simp only [cutB]
    split
    · simp; omega
    · split <;> simp_all; omega

set_option maxRecDepth 100000 in
set_option maxHeartbeats 2000000 in
theorem cut_any (l : List UInt8) (c : UInt8) (w : World) (hl : l.length ≤ 2000000) :
    Calls Tryz.prog 15 #[str l, .int .u8 c.toNat] w fun e w' => ∃ v, e = .returned v ∧ SR w' w.heap.size v (cutB c l) ∧ Below w.heap.size w w' := by
  obtain ⟨inf9, i1, i2, i3, i4⟩ := info_parts info9
  have I1 := hid i1
  have I2 := hid i2
  have I3 := hid i3
  have I4 := hid i4
  clear i1 i2 i3 i4
  have hcl := cut_length c l
  have hx : ∀ a b, (ByteArray.mk l.toArray).extract a b = ByteArray.mk ((l.drop a).take (b - a)).toArray := ByteArray.extract_mk l
  go_enter Tryz.func15, Tryz.ntmps15
  go_wp2
  go_loopw [5, 6, 7] (fun o f i w' => ∃ (g cp fr k : Nat) (out : List (List UInt8)), o = .slice (some ⟨g, 0, none⟩) out.length cp ∧ f = .int .i64 fr ∧ i = .int .i64 k ∧ k ≤ l.length + 1 ∧ Hid (CutAt c l k fr out) ∧ SR w' w.heap.size (.slice (some ⟨g, 0, none⟩) out.length cp) out ∧ Below w.heap.size w w') (fun _ _ i _ => l.length + 1 - (intOf i).toNat)
  case atStart => exact ⟨w.heap.size, 0, 0, 0, [], rfl, rfl, rfl, by omega, .inl ⟨by omega, by omega, by simp, by simp⟩, SR.new w (Nat.le_refl _), by go_grown⟩
  case round =>
    obtain ⟨g, cp, fr, k, out, rfl, rfl, rfl, hk, hc, hO, hb⟩ := hrel
    have HO := hid hO
    have HB := hid hb
    have hgl := hO.lt
    have hsz : w.heap.size ≤ wr.heap.size := hb.size
    clear hO hb
    by_cases hkl : k ≤ l.length
    · have hc2 : fr ≤ k ∧ out ++ cutB c (l.drop fr) = cutB c l ∧ c ∉ (l.drop fr).take (k - fr) := by
        rcases hc.out with h | h
        · exact h.2
        · omega
      obtain ⟨f1, f2, f3⟩ := hc2
      have hk0 : (0 : Int) ≤ (k : Int) := by omega
      have hkn : (k : Int) ≤ (l.length : Int) := by omega
      have hf0 : (0 : Int) ≤ (fr : Int) := by omega
      have hfk : (fr : Int) ≤ (k : Int) := by omega
      have hol : out.length + 1 ≤ l.length + 1 := by
        have h1 := congrArg List.length f2
        have h2 := cut_pos c (l.drop fr)
        simp at h1
        omega
      by_cases hend : k = l.length
      · have e1 : ((k : Int) == (l.length : Int)) = true := by simp [hend]
        have hkl2 : l.length ≤ k := by omega
        clear hend
        go_wp2_with (refine wpList_append_own_at _ (by rfl) _ _ _ (by rfl) w.heap.size 9 inf9 _ 1 16 Tryz.underlying41 I1.out I2.out I3.out I4.out (by rfl) (by omega) (.slice (some ⟨g, 0, none⟩) out.length cp) out.length (out.map str) (by rfl) (World.ownsRow.alloc HO.out _) _ 1 1 [str ((l.drop fr).take (k - fr))] (by rfl) (by rfl) (cell_one_new _ _ _) (by intro u hu; simp at hu; subst hu; rfl) (by unfold maxLen; omega) (by omega) (by simp; omega) ?_; intro vd W5 hown' hgrow hnil hfr; obtain ⟨g2, c2, rfl⟩ := row_form hown')
        have hO5 : SR W5 w.heap.size (.slice (some ⟨g2, 0, none⟩) (out ++ [(l.drop fr).take (k - fr)]).length c2) (out ++ [(l.drop fr).take (k - fr)]) := by
          unfold SR
          rw [List.map_append, List.length_append]
          exact hown'
        have hB5 : Below w.heap.size w W5 := below_grown2 (HB.out.alloc HB.out.size _) hgrow (by have := HB.out.size; simp; omega) (fun g e => by simp [Value.ownBlock] at e; omega)
        have HC : Hid (CutAt c l (k + 1) (k + 1) (out ++ [(l.drop fr).take (k - fr)])) := by
          refine .inr ⟨by omega, ?_⟩
          rw [← f2]
          have h3 : (l.drop fr).take (k - fr) = l.drop fr := List.take_of_length_le (by simp; omega)
          rw [h3] at f3 ⊢
          rw [cut_none f3]
        have HO5 := hid hO5
        have HB5 := hid hB5
        clear hO5 hB5 hown' hgrow hnil hfr f2 f3 hc HO HB
        refine ⟨⟨g2, c2, k + 1, k + 1, out ++ [(l.drop fr).take (k - fr)], by simp, by simp, by simp, by omega, HC, HO5.out, HB5.out⟩, ?_⟩
        simp [intOf]
        omega
      · have e1 : ((k : Int) == (l.length : Int)) = false := by simp; omega
        have hlt : k < l.length := by omega
        have hkn2 : (k : Int) < (l.length : Int) := by omega
        have hget : ∀ h, (ByteArray.mk l.toArray)[k]'h = l[k] := fun h => ba_get l k h
        by_cases hbc : l[k] = c
        · have e2 : ((l[k].toNat : Int) == (c.toNat : Int)) = true := by simp [hbc]
          go_wp2_with (refine wpList_append_own_at _ (by rfl) _ _ _ (by rfl) w.heap.size 9 inf9 _ 1 16 Tryz.underlying41 I1.out I2.out I3.out I4.out (by rfl) (by omega) (.slice (some ⟨g, 0, none⟩) out.length cp) out.length (out.map str) (by rfl) (World.ownsRow.alloc HO.out _) _ 1 1 [str ((l.drop fr).take (k - fr))] (by rfl) (by rfl) (cell_one_new _ _ _) (by intro u hu; simp at hu; subst hu; rfl) (by unfold maxLen; omega) (by omega) (by simp; omega) ?_; intro vd W5 hown' hgrow hnil hfr; obtain ⟨g2, c2, rfl⟩ := row_form hown')
          have hO5 : SR W5 w.heap.size (.slice (some ⟨g2, 0, none⟩) (out ++ [(l.drop fr).take (k - fr)]).length c2) (out ++ [(l.drop fr).take (k - fr)]) := by
            unfold SR
            rw [List.map_append, List.length_append]
            exact hown'
          have hB5 : Below w.heap.size w W5 := below_grown2 (HB.out.alloc HB.out.size _) hgrow (by have := HB.out.size; simp; omega) (fun g e => by simp [Value.ownBlock] at e; omega)
          have HC : Hid (CutAt c l (k + 1) (k + 1) (out ++ [(l.drop fr).take (k - fr)])) := by
            refine .inl ⟨by omega, by omega, ?_, by simp⟩
            have h3 := drop_split f1 hlt
            rw [hbc] at h3
            have h4 := cut_some (l.drop (k + 1)) f3
            rw [← h3] at h4
            rw [← f2, h4, List.append_assoc]
            rfl
          have HO5 := hid hO5
          have HB5 := hid hB5
          clear hO5 hB5 hown' hgrow hnil hfr f2 f3 hc HO HB
          refine ⟨⟨g2, c2, k + 1, k + 1, out ++ [(l.drop fr).take (k - fr)], by simp, by simp, by simp, by omega, HC, HO5.out, HB5.out⟩, ?_⟩
          simp [intOf]
          omega
        · have e2 : ((l[k].toNat : Int) == (c.toNat : Int)) = false := u8_neb hbc
          have HC : Hid (CutAt c l (k + 1) fr out) := by
            refine .inl ⟨by omega, by omega, f2, ?_⟩
            rw [take_more f1 hlt]
            simp only [List.mem_append, List.mem_singleton, not_or]
            exact ⟨f3, fun e => hbc e.symm⟩
          clear f2 f3 hc
          go_wp2
          refine ⟨⟨g, cp, fr, k + 1, out, rfl, rfl, by simp, by omega, HC, HO.out, HB.out⟩, ?_⟩
          simp [intOf]
          omega
    · have hkn : ¬ (k : Int) ≤ (l.length : Int) := by omega
      go_wp2
      go_ret
      have hq : out = cutB c l := by
        rcases hc.out with h | h
        · omega
        · exact h.2
      exact ⟨_, rfl, by rw [← hq]; exact HO.out, HB.out⟩
end Go.Proofs.YthdlkpgialmlfaaGreatDoor
