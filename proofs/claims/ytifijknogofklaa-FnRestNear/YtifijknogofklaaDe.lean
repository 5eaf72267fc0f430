/- What is drawn to be asked, bent. -/
import Derived.Test.YtifijknogofklaaOy
namespace Go.Proofs.Ytifijknogofklaa
open Go.RowKit

/-- A value that reads as what is asked, and stays so when blocks below base are written. -/
def Firm (w : World) (base : Nat) (v : Value) (c : Cf) : Prop := CfgAt w v c ∧ ∀ w', Only (fun k => k < base) w w' → CfgAt w' v c

/-- The answer's box is written: what was drawn stands. -/
theorem Mine.fin {r : Nat} {w w' : World} {base N C g1 n1 c1 g2 n2 c2 : Nat} {s k i b : Int} {xs1 xs2 : List Value} {cN : Array Value} {bd : Int} (h : Mine r w w' base N C g1 n1 c1 g2 n2 c2 s k i b xs1 xs2 cN bd) (h1 : n1 ≤ 3) (h2 : n2 ≤ 3) (hw : w.heap.size ≤ N) (hr : r < N) (hN : N < base) (a0 a1 a2 a3 a4 a5 : Value) :
    Firm ((((((w'.setCell ⟨N, 0, none⟩ a0).setCell ⟨N, 1, none⟩ a1).setCell ⟨N, 2, none⟩ a2).setCell ⟨N, 3, none⟩ a3).setCell ⟨N, 4, none⟩ a4).setCell ⟨N, 5, none⟩ a5) N (.agg #[.slice (some ⟨g1, 0, none⟩) n1 c1, .slice (some ⟨g2, 0, none⟩) n2 c2, .int .i64 s, .int .i64 k, .int .i64 i, .int .i64 b]) ⟨wksOf xs1 n1, gpsOf xs2 n2, s, k, i, b⟩ ∧ Rd ((((((w'.setCell ⟨N, 0, none⟩ a0).setCell ⟨N, 1, none⟩ a1).setCell ⟨N, 2, none⟩ a2).setCell ⟨N, 3, none⟩ a3).setCell ⟨N, 4, none⟩ a4).setCell ⟨N, 5, none⟩ a5) r bd ∧ But r w ((((((w'.setCell ⟨N, 0, none⟩ a0).setCell ⟨N, 1, none⟩ a1).setCell ⟨N, 2, none⟩ a2).setCell ⟨N, 3, none⟩ a3).setCell ⟨N, 4, none⟩ a4).setCell ⟨N, 5, none⟩ a5) := by
  have hb1 := (h.2.2.2.2.1.lt g1 rfl).1
  have hb2 := (h.2.2.2.2.2.2.1.lt g2 rfl).1
  have hW : WorksAt ((((((w'.setCell ⟨N, 0, none⟩ a0).setCell ⟨N, 1, none⟩ a1).setCell ⟨N, 2, none⟩ a2).setCell ⟨N, 3, none⟩ a3).setCell ⟨N, 4, none⟩ a4).setCell ⟨N, 5, none⟩ a5) (some ⟨g1, 0, none⟩) (wksOf xs1 n1) := by
    refine works_of (base := base) (c := c1) ?_ h.2.2.2.2.2.1
    repeat (refine owns_far ?_ _ (fun k hk => by simp [Value.ownBlock] at hk; simp; omega))
    exact h.2.2.2.2.1
  have hG : GroupsAt ((((((w'.setCell ⟨N, 0, none⟩ a0).setCell ⟨N, 1, none⟩ a1).setCell ⟨N, 2, none⟩ a2).setCell ⟨N, 3, none⟩ a3).setCell ⟨N, 4, none⟩ a4).setCell ⟨N, 5, none⟩ a5) (some ⟨g2, 0, none⟩) (gpsOf xs2 n2) := by
    refine groups_of (base := base) (c := c2) ?_ h.2.2.2.2.2.2.2
    repeat (refine owns_far ?_ _ (fun k hk => by simp [Value.ownBlock] at hk; simp; omega))
    exact h.2.2.2.2.2.2.1
  refine ⟨⟨⟨_, _, _, _, _, _, rfl, ⟨by simp [wksOf], by omega, hW⟩, ⟨by simp [gpsOf], by omega, hG⟩⟩, fun w'' hB => ⟨_, _, _, _, _, _, rfl, ⟨by simp [wksOf], by omega, hW.only hB (by show ¬ g1 < N; omega)⟩, ⟨by simp [gpsOf], by omega, hG.only hB (by show ¬ g2 < N; omega)⟩⟩⟩, ?_, ?_⟩
  · refine Rd.far (w := w') h.2.1 ?_
    repeat (refine Below.setCell ?_ (by simp; omega) _)
    exact Below.refl _ _
  · repeat (refine But.setCell ?_ (.inr (by simp; omega)) _)
    exact h.1
theorem Mine.finNil {r : Nat} {w w' : World} {base N C g1 n1 c1 g2 n2 c2 : Nat} {s k i b : Int} {xs1 xs2 : List Value} {cN : Array Value} {bd : Int} (h : Mine r w w' base N C g1 n1 c1 g2 n2 c2 s k i b xs1 xs2 cN bd) (h2 : n2 ≤ 3) (hw : w.heap.size ≤ N) (hr : r < N) (hN : N < base) (hC : N < C) (hg : C ≠ g2) (u a0 a1 a2 a3 a4 a5 : Value) :
    Firm (((((((w'.setCell ⟨C, 0, none⟩ u).setCell ⟨N, 0, none⟩ a0).setCell ⟨N, 1, none⟩ a1).setCell ⟨N, 2, none⟩ a2).setCell ⟨N, 3, none⟩ a3).setCell ⟨N, 4, none⟩ a4).setCell ⟨N, 5, none⟩ a5) N (.agg #[.slice none 0 0, .slice (some ⟨g2, 0, none⟩) n2 c2, .int .i64 s, .int .i64 k, .int .i64 i, .int .i64 b]) ⟨[], gpsOf xs2 n2, s, k, i, b⟩ ∧ Rd (((((((w'.setCell ⟨C, 0, none⟩ u).setCell ⟨N, 0, none⟩ a0).setCell ⟨N, 1, none⟩ a1).setCell ⟨N, 2, none⟩ a2).setCell ⟨N, 3, none⟩ a3).setCell ⟨N, 4, none⟩ a4).setCell ⟨N, 5, none⟩ a5) r bd ∧ But r w (((((((w'.setCell ⟨C, 0, none⟩ u).setCell ⟨N, 0, none⟩ a0).setCell ⟨N, 1, none⟩ a1).setCell ⟨N, 2, none⟩ a2).setCell ⟨N, 3, none⟩ a3).setCell ⟨N, 4, none⟩ a4).setCell ⟨N, 5, none⟩ a5) := by
  have hb2 := (h.2.2.2.2.2.2.1.lt g2 rfl).1
  have hG : GroupsAt (((((((w'.setCell ⟨C, 0, none⟩ u).setCell ⟨N, 0, none⟩ a0).setCell ⟨N, 1, none⟩ a1).setCell ⟨N, 2, none⟩ a2).setCell ⟨N, 3, none⟩ a3).setCell ⟨N, 4, none⟩ a4).setCell ⟨N, 5, none⟩ a5) (some ⟨g2, 0, none⟩) (gpsOf xs2 n2) := by
    refine groups_of (base := base) (c := c2) ?_ h.2.2.2.2.2.2.2
    repeat (refine owns_far ?_ _ (fun k hk => by simp [Value.ownBlock] at hk; simp; omega))
    exact h.2.2.2.2.2.2.1
  refine ⟨⟨⟨_, _, _, _, _, _, rfl, ⟨rfl, by omega, .inl rfl⟩, ⟨by simp [gpsOf], by omega, hG⟩⟩, fun w'' hB => ⟨_, _, _, _, _, _, rfl, ⟨rfl, by omega, .inl rfl⟩, ⟨by simp [gpsOf], by omega, hG.only hB (by show ¬ g2 < N; omega)⟩⟩⟩, ?_, ?_⟩
  · refine Rd.far (w := w') h.2.1 ?_
    repeat (refine Below.setCell ?_ (by simp; omega) _)
    exact Below.refl _ _
  · repeat (refine But.setCell ?_ (.inr (by simp; omega)) _)
    exact h.1
theorem Mine.idle {r : Nat} {w w' : World} {base N C g1 n1 c1 g2 n2 c2 : Nat} {s k i b : Int} {xs1 xs2 : List Value} {cN : Array Value} {bd : Int} (h : Mine r w w' base N C g1 n1 c1 g2 n2 c2 s k i b xs1 xs2 cN bd) (hw : w.heap.size ≤ C) (hr : r < C) (hN : N ≠ C) (h1 : C ≠ g1) (h2 : C ≠ g2) (z : Int) :
    Mine r w (w'.setCell ⟨C, 4, none⟩ (.int .i64 z)) base N C g1 n1 c1 g2 n2 c2 s k z b xs1 xs2 cN bd :=
  ⟨h.1.setCell (.inr (by simp; omega)) _, h.2.1.far ((Below.refl _ _).setCell (by simp; omega) _), h.2.2.1.far hN _, h.2.2.2.1.set 4 _, owns_far h.2.2.2.2.1 _ (fun k hk => by simp [Value.ownBlock] at hk; simp; omega), h.2.2.2.2.2.1, owns_far h.2.2.2.2.2.2.1 _ (fun k hk => by simp [Value.ownBlock] at hk; simp; omega), h.2.2.2.2.2.2.2⟩
theorem lit2d : ∀ i, i < 2 → ∃ v, (#[Value.int .i64 0, .int .i64 9] : Array Value)[i]? = some (.int .i64 v) ∧ 0 ≤ v ∧ v ≤ 9 := by
  intro i hi
  match i, hi with
  | 0, _ => exact ⟨_, rfl, by omega, by omega⟩
  | 1, _ => exact ⟨_, rfl, by omega, by omega⟩
theorem lit3d : ∀ i, i < 3 → ∃ v, (#[Value.int .i64 0, .int .i64 8, .int .i64 9] : Array Value)[i]? = some (.int .i64 v) ∧ 0 ≤ v ∧ v ≤ 9 := by
  intro i hi
  match i, hi with
  | 0, _ => exact ⟨_, rfl, by omega, by omega⟩
  | 1, _ => exact ⟨_, rfl, by omega, by omega⟩
  | 2, _ => exact ⟨_, rfl, by omega, by omega⟩
theorem lit3e : ∀ i, i < 3 → ∃ v, (#[Value.int .i64 (-1), .int .i64 8, .int .i64 9] : Array Value)[i]? = some (.int .i64 v) ∧ -1 ≤ v ∧ v ≤ 9 := by
  intro i hi
  match i, hi with
  | 0, _ => exact ⟨_, rfl, by omega, by omega⟩
  | 1, _ => exact ⟨_, rfl, by omega, by omega⟩
  | 2, _ => exact ⟨_, rfl, by omega, by omega⟩
theorem lit4d : ∀ i, i < 4 → ∃ v, (#[Value.int .i64 0, .int .i64 1, .int .i64 8, .int .i64 9] : Array Value)[i]? = some (.int .i64 v) ∧ 0 ≤ v ∧ v ≤ 9 := by
  intro i hi
  match i, hi with
  | 0, _ => exact ⟨_, rfl, by omega, by omega⟩
  | 1, _ => exact ⟨_, rfl, by omega, by omega⟩
  | 2, _ => exact ⟨_, rfl, by omega, by omega⟩
  | 3, _ => exact ⟨_, rfl, by omega, by omega⟩
theorem lit3f : ∀ i, i < 3 → ∃ v, (#[Value.int .i64 (-1), .int .i64 500, .int .i64 501] : Array Value)[i]? = some (.int .i64 v) ∧ -1 ≤ v ∧ v ≤ 501 := by
  intro i hi
  match i, hi with
  | 0, _ => exact ⟨_, rfl, by omega, by omega⟩
  | 1, _ => exact ⟨_, rfl, by omega, by omega⟩
  | 2, _ => exact ⟨_, rfl, by omega, by omega⟩

set_option maxRecDepth 100000 in
set_option maxHeartbeats 8000000 in
theorem l2Bent_any (r : Nat) (b : Int) (w : World) (hR : Rd w r b) (hb : b ≤ 80000) :
    Calls Try.prog 53 #[.pointer (some ⟨r, 0, none⟩)] w fun e w' => ∃ v c, e = .returned v ∧ Firm w' w.heap.size v c ∧ c.works.length ≤ 3 ∧ c.groups.length ≤ 3 ∧ Rd w' r (b + 600) ∧ But r w w' := by
  have hrl := hR.lt
  go_enter Try.func53, Try.ntmps53
  go_wp2_with fail
  refine (l2Cfg_any r b _ (hR.keep (by go_grown)) (by omega)).mono ?_
  rintro e w1 ⟨v, rfl, ⟨g1, n1, c1, g2, n2, c2, xs1, xs2, s, k, i, b0, rfl, ⟨p1, p2, o1, j1⟩, ⟨p3, p4, o2, j2⟩, hgg⟩, hR1, hB1⟩
  have hN1 : Blk w1 w.heap.size #[.slice none 0 0, .slice none 0 0, .int .i64 0, .int .i64 0, .int .i64 0, .int .i64 0] 26 := (Blk.new w _ _).but hB1 (by omega)
  have hb1 := o1.lt g1 rfl
  have hb2 := o2.lt g2 rfl
  simp at hb1 hb2
  have hM1 : Mine r w (w1.alloc (.cells #[.slice (some ⟨g1, 0, none⟩) n1 c1, .slice (some ⟨g2, 0, none⟩) n2 c2, .int .i64 s, .int .i64 k, .int .i64 i, .int .i64 b0] 26)) (w.heap.size + 1) w.heap.size w1.heap.size g1 n1 c1 g2 n2 c2 s k i b0 xs1 xs2 #[.slice none 0 0, .slice none 0 0, .int .i64 0, .int .i64 0, .int .i64 0, .int .i64 0] (b + 200) := ⟨((But.of_below (by go_grown)).trans hB1).alloc _, hR1.keep (by go_grown), hN1.alloc _, Blk.new _ _ _, by simpa using o1.alloc _, j1, by simpa using o2.alloc _, j2⟩
  have HM1 := hide hM1
  have hN1l := hN1.lt
  have hCg1 : w1.heap.size ≠ g1 := by omega
  have hCg2 : w1.heap.size ≠ g2 := by omega
  clear hM1 o1 o2 j1 j2 hN1 hB1
  go_wp2_with fail
  refine (pickR r _ _ _ HM1.out.2.1 (by omega) (by omega) (by omega)).mono ?_
  rintro e w2 ⟨kz, rfl, kz0, kz1, hR2, hB2⟩
  have hM2 := (HM1.out.but hB2 hR2 (by omega) (by omega) (by omega)).mono (bd' := b + 201) (by omega)
  have HM2 := hide hM2
  have hCl2 := hM2.2.2.2.1.lt
  clear hM2 HM1 hB2 hR2 hR1 hb1 hb2
  by_cases hz : kz = 0
  · subst hz
    have bc2 := HM2.out.2.2.2.1.cell
    have bf2 := HM2.out.2.2.2.1.frozen
    go_wp2_with fail
    refine (l2Roomy_any r (b + 201) _ HM2.out.2.1 (by omega)).mono ?_
    rintro e w3 ⟨v, rfl, ⟨g1, n1, c1, g2, n2, c2, xs1, xs2, s, k, i, b0, rfl, ⟨p1, p2, o1, j1⟩, ⟨p3, p4, o2, j2⟩, hgg⟩, hR3, hB3⟩
    have hb1 := o1.lt g1 rfl
    have hb2 := o2.lt g2 rfl
    have hBC := HM2.out.2.2.2.1.but hB3 (by omega)
    have hBN := HM2.out.2.2.1.but hB3 (by omega)
    have hBu := HM2.out.1.trans hB3
    have bc3 := hBC.cell
    have bf3 := hBC.frozen
    have hCg1 : w1.heap.size ≠ g1 := by omega
    have hCg2 : w1.heap.size ≠ g2 := by omega
    have hCN : w.heap.size ≠ w1.heap.size := by omega
    clear HM2 bc2 bf2
    go_wp2_with fail
    have HM : Hid (Mine r w ((((((w3.setCell ⟨w1.heap.size, 0, none⟩ (.slice (some ⟨g1, 0, none⟩) n1 c1)).setCell ⟨w1.heap.size, 1, none⟩ (.slice (some ⟨g2, 0, none⟩) n2 c2)).setCell ⟨w1.heap.size, 2, none⟩ (.int .i64 s)).setCell ⟨w1.heap.size, 3, none⟩ (.int .i64 k)).setCell ⟨w1.heap.size, 4, none⟩ (.int .i64 i)).setCell ⟨w1.heap.size, 5, none⟩ (.int .i64 b0)) (w.heap.size + 1) w.heap.size w1.heap.size g1 n1 c1 g2 n2 c2 s k i b0 xs1 xs2 #[.slice none 0 0, .slice none 0 0, .int .i64 0, .int .i64 0, .int .i64 0, .int .i64 0] (b + 510)) := by
      refine ⟨?_, ?_, ?_, (((((hBC.set 0 _).set 1 _).set 2 _).set 3 _).set 4 _).set 5 _, ?_, j1, ?_, j2⟩
      · repeat (refine But.setCell ?_ (.inr (by simp; omega)) _)
        exact hBu
      · refine (Rd.far (w := w3) hR3 ?_).mono (by omega)
        repeat (refine Below.setCell ?_ (by simp; omega) _)
        exact Below.refl _ _
      · repeat (refine Blk.far ?_ hCN _)
        exact hBN
      · repeat (refine owns_far ?_ _ (fun k hk => by simp [Value.ownBlock] at hk; simp; omega))
        exact owns_mono o1 (by omega)
      · repeat (refine owns_far ?_ _ (fun k hk => by simp [Value.ownBlock] at hk; simp; omega))
        exact owns_mono o2 (by omega)
    clear hBC hBN hBu bc3 bf3 o1 o2 hR3 hB3 hCN
    refine (pickR r _ _ _ HM.out.2.1 (by omega) (by omega) (by omega)).mono ?_
    rintro e w4 ⟨kz4, rfl, kz40, kz41, hR4, hB4⟩
    obtain ⟨k4, rfl⟩ := Int.eq_ofNat_of_zero_le kz40
    have HM4 := hide (HM.out.but hB4 hR4 (by omega) (by omega) (by omega))
    have vc4 := HM4.out.2.2.2.1.cell
    have hCl4 := HM4.out.2.2.2.1.lt
    clear HM hB4 hR4
    go_wp2_with fail
    refine (pickR r _ _ _ HM4.out.2.1 (by omega) (by omega) (by omega)).mono ?_
    rintro e w5 ⟨kz5, rfl, kz50, kz51, hR5, hB5⟩
    obtain ⟨k5, rfl⟩ := Int.eq_ofNat_of_zero_le kz50
    have HM5 := hide (HM4.out.but hB5 hR5 (by omega) (by omega) (by omega))
    clear HM4 vc4 hCl4 hB5 hR5
    go_wp2_with fail
    refine (pickR r _ _ _ HM5.out.2.1 (by omega) (by omega) (by omega)).mono ?_
    rintro e w6 ⟨k6, rfl, k60, k61, hR6, hB6⟩
    have HM6 := hide ((HM5.out.but hB6 hR6 (by omega) (by omega) (by omega)).mono (bd' := b + 520) (by omega))
    have vc := HM6.out.2.2.2.1.cell
    have vf := HM6.out.2.2.2.1.frozen
    have hCl6 := HM6.out.2.2.2.1.lt
    have hk4 : k4 < n1 := by omega
    have hk5 : k5 < n2 := by omega
    have hk48 : k4 * 8 + 8 ≤ n1 * 8 := by have := Nat.mul_le_mul_right 8 (show k4 + 1 ≤ n1 from hk4); omega
    have hk55 : k5 * 5 + 5 ≤ n2 * 5 := by have := Nat.mul_le_mul_right 5 (show k5 + 1 ≤ n2 from hk5); omega
    have hg1l := (HM6.out.2.2.2.2.1.lt g1 rfl)
    have hg2l := (HM6.out.2.2.2.2.2.2.1.lt g2 rfl)
    clear HM5 hB6 hR6
    rcases (show k6 = 0 ∨ k6 = 1 ∨ k6 = 2 ∨ k6 = 3 ∨ k6 = 4 ∨ k6 = 5 ∨ k6 = 6 ∨ k6 = 7 ∨ 8 ≤ k6 by omega) with rfl | rfl | rfl | rfl | rfl | rfl | rfl | rfl | h8
    · have hc0 : w6.cell? ⟨w1.heap.size, 0, none⟩ = some (.slice (some ⟨g1, 0, none⟩) n1 c1) := vc 0
      have hrW : Rd w6.drew r (b + 520) := HM6.out.2.1.keep ((Below.refl _ _).drew)
      have hne : w1.heap.size ≠ r := by omega
      go_wp2
      go_region_held3 (fun w' => w'.cell? ⟨w1.heap.size, 0, none⟩ = some (.slice (some ⟨g1, 0, none⟩) n1 c1))
        (first | exact hc0 | assumption | (simp [go_sem, *]; done))
        (first | (go_at_call 54; refine (numRd r _ 2 _ _ (0) 9 w6 _ hrW (by omega) (by omega) (by omega) rfl lit2d).mono ?_; rintro e w9 ⟨z9, rfl, z90, z91, hR9, hB9⟩; have hd0 : w9.cell? ⟨w1.heap.size, 0, none⟩ = some (.slice (some ⟨g1, 0, none⟩) n1 c1) := (hB9.cell.1 _ _ hne hCl6).trans hc0; obtain ⟨x30, x31⟩ := (HM6.out.but hB9 hR9 (by omega) (by omega) (by omega)).wcell (k4 * 8 + 2) (by omega)))
      have HM9 := hide (((HM6.out.but hB9 hR9 (by omega) (by omega) (by omega)).work (by omega) (by omega) (by omega) hCg1 hgg (k4 * 8 + 2) z9).mono (bd' := b + 530) (by omega))
      clear HM6 vc vf hc0 hrW hR9 hB9 hd0 x30 x31
      simp only [Exit.inBlock, Exit.then]
      go_step
      refine wp_gen (fun W => Hid (Mine r w W (w.heap.size + 1) w.heap.size w1.heap.size g1 n1 c1 g2 n2 c2 s k i b0 (xs1.set (k4 * 8 + 2) (.int .i64 z9)) xs2 #[.slice none 0 0, .slice none 0 0, .int .i64 0, .int .i64 0, .int .i64 0, .int .i64 0] (b + 530))) HM9.out ?_
      clear HM9
      rintro U HU
      have uc := HU.out.2.2.2.1.cell
      have uf := HU.out.2.2.2.1.frozen
      have bc := HU.out.2.2.1.cell
      have bf := HU.out.2.2.1.frozen
      have hCN : w.heap.size ≠ w1.heap.size := by omega
      try dsimp only
      repeat (first | go_values | go_skip | go_guarded | go_step | go_upon)
      have hfin := HU.out.fin p2 p4 (by omega) (by omega) (by omega) (.slice (some ⟨g1, 0, none⟩) n1 c1) (.slice (some ⟨g2, 0, none⟩) n2 c2) (.int .i64 s) (.int .i64 k) (.int .i64 i) (.int .i64 b0)
      refine bodyPost_ret (v := .agg #[.slice (some ⟨g1, 0, none⟩) n1 c1, .slice (some ⟨g2, 0, none⟩) n2 c2, .int .i64 s, .int .i64 k, .int .i64 i, .int .i64 b0]) (by simp [results, Try.results53, go_sem, *]) rfl ⟨_, _, rfl, hfin.1, by simp [wksOf]; omega, by simp [gpsOf]; omega, hfin.2.1.mono (by omega), hfin.2.2⟩
    · obtain ⟨z40, z41⟩ := HM6.out.wcell (k4 * 8 + 4) (by omega)
      obtain ⟨z50, z51⟩ := HM6.out.wcell (k4 * 8 + 5) (by omega)
      go_wp2
      refine wp_region_below_lastT (by kernel_rfl) (by simp) (by kernel_rfl) (by kernel_rfl) ?_
      simp only [frontOf, lastOf]
      repeat (first
        | (apply quiet_at (hg := rfl); (· (intro w' hw'; obtain ⟨hc, hf⟩ := bcell hw'; go_simp; first | rfl)); simp only [Act.put, List.setIfInBounds_toArray, List.set_cons_zero, List.set_cons_succ]))
      refine wpQuiet_nil ?_
      intro w7 hw5
      have HM7 := hide (HM6.out.bel hw5)
      obtain ⟨x50, x51⟩ := HM7.out.wcell (k4 * 8 + 5) (by omega)
      clear HM6 hw5 z40 z41 z50 z51 vc vf
      have uc := HM7.out.2.2.2.1.cell
      have uf := HM7.out.2.2.2.1.frozen
      have bc := HM7.out.2.2.1.cell
      have bf := HM7.out.2.2.1.frozen
      have hCN : w.heap.size ≠ w1.heap.size := by omega
      try dsimp only
      repeat (first | go_values | go_skip | go_guarded | go_step | go_upon)
      have hfin := (HM7.out.work (by omega) (by omega) (by omega) hCg1 hgg (k4 * 8 + 5) (zOf xs1 (k4 * 8 + 4))).fin p2 p4 (by omega) (by omega) (by omega) (.slice (some ⟨g1, 0, none⟩) n1 c1) (.slice (some ⟨g2, 0, none⟩) n2 c2) (.int .i64 s) (.int .i64 k) (.int .i64 i) (.int .i64 b0)
      refine bodyPost_ret (v := .agg #[.slice (some ⟨g1, 0, none⟩) n1 c1, .slice (some ⟨g2, 0, none⟩) n2 c2, .int .i64 s, .int .i64 k, .int .i64 i, .int .i64 b0]) (by simp [results, Try.results53, go_sem, *]) rfl ⟨_, _, rfl, hfin.1, by simp [wksOf]; omega, by simp [gpsOf]; omega, hfin.2.1.mono (by omega), hfin.2.2⟩
    · obtain ⟨z00, z01⟩ := HM6.out.wcell (k4 * 8) (by omega)
      obtain ⟨z10, z11⟩ := HM6.out.wcell (k4 * 8 + 1) (by omega)
      clear vc vf
      have uc := HM6.out.2.2.2.1.cell
      have uf := HM6.out.2.2.2.1.frozen
      have bc := HM6.out.2.2.1.cell
      have bf := HM6.out.2.2.1.frozen
      have hCN : w.heap.size ≠ w1.heap.size := by omega
      try dsimp only
      repeat (first | go_values | go_skip | go_guarded | go_step | go_upon)
      have hfin := ((HM6.out.work (by omega) (by omega) (by omega) hCg1 hgg (k4 * 8) 0).work (by omega) (by omega) (by omega) hCg1 hgg (k4 * 8 + 1) 0).fin p2 p4 (by omega) (by omega) (by omega) (.slice (some ⟨g1, 0, none⟩) n1 c1) (.slice (some ⟨g2, 0, none⟩) n2 c2) (.int .i64 s) (.int .i64 k) (.int .i64 i) (.int .i64 b0)
      refine bodyPost_ret (v := .agg #[.slice (some ⟨g1, 0, none⟩) n1 c1, .slice (some ⟨g2, 0, none⟩) n2 c2, .int .i64 s, .int .i64 k, .int .i64 i, .int .i64 b0]) (by simp [results, Try.results53, go_sem, *]) rfl ⟨_, _, rfl, hfin.1, by simp [wksOf]; omega, by simp [gpsOf]; omega, hfin.2.1.mono (by omega), hfin.2.2⟩
    · have hc0 : w6.cell? ⟨w1.heap.size, 1, none⟩ = some (.slice (some ⟨g2, 0, none⟩) n2 c2) := vc 1
      have hrW : Rd w6.drew r (b + 520) := HM6.out.2.1.keep ((Below.refl _ _).drew)
      have hne : w1.heap.size ≠ r := by omega
      go_wp2
      go_region_held3 (fun w' => w'.cell? ⟨w1.heap.size, 1, none⟩ = some (.slice (some ⟨g2, 0, none⟩) n2 c2))
        (first | exact hc0 | assumption | (simp [go_sem, *]; done))
        (first | (go_at_call 54; refine (numRd r _ 3 _ _ (0) 9 w6 _ hrW (by omega) (by omega) (by omega) rfl lit3d).mono ?_; rintro e w9 ⟨z9, rfl, z90, z91, hR9, hB9⟩; have hd0 : w9.cell? ⟨w1.heap.size, 1, none⟩ = some (.slice (some ⟨g2, 0, none⟩) n2 c2) := (hB9.cell.1 _ _ hne hCl6).trans hc0; obtain ⟨x30, x31⟩ := (HM6.out.but hB9 hR9 (by omega) (by omega) (by omega)).gcell (k5 * 5 + 4) (by omega)))
      have HM9 := hide (((HM6.out.but hB9 hR9 (by omega) (by omega) (by omega)).group (by omega) (by omega) (by omega) hCg2 hgg (k5 * 5 + 4) z9).mono (bd' := b + 530) (by omega))
      clear HM6 vc vf hc0 hrW hR9 hB9 hd0 x30 x31
      simp only [Exit.inBlock, Exit.then]
      go_step
      refine wp_gen (fun W => Hid (Mine r w W (w.heap.size + 1) w.heap.size w1.heap.size g1 n1 c1 g2 n2 c2 s k i b0 xs1 (xs2.set (k5 * 5 + 4) (.int .i64 z9)) #[.slice none 0 0, .slice none 0 0, .int .i64 0, .int .i64 0, .int .i64 0, .int .i64 0] (b + 530))) HM9.out ?_
      clear HM9
      rintro U HU
      have uc := HU.out.2.2.2.1.cell
      have uf := HU.out.2.2.2.1.frozen
      have bc := HU.out.2.2.1.cell
      have bf := HU.out.2.2.1.frozen
      have hCN : w.heap.size ≠ w1.heap.size := by omega
      try dsimp only
      repeat (first | go_values | go_skip | go_guarded | go_step | go_upon)
      have hfin := HU.out.fin p2 p4 (by omega) (by omega) (by omega) (.slice (some ⟨g1, 0, none⟩) n1 c1) (.slice (some ⟨g2, 0, none⟩) n2 c2) (.int .i64 s) (.int .i64 k) (.int .i64 i) (.int .i64 b0)
      refine bodyPost_ret (v := .agg #[.slice (some ⟨g1, 0, none⟩) n1 c1, .slice (some ⟨g2, 0, none⟩) n2 c2, .int .i64 s, .int .i64 k, .int .i64 i, .int .i64 b0]) (by simp [results, Try.results53, go_sem, *]) rfl ⟨_, _, rfl, hfin.1, by simp [wksOf]; omega, by simp [gpsOf]; omega, hfin.2.1.mono (by omega), hfin.2.2⟩
    · have hc0 : w6.cell? ⟨w1.heap.size, 1, none⟩ = some (.slice (some ⟨g2, 0, none⟩) n2 c2) := vc 1
      have hrW : Rd w6.drew r (b + 520) := HM6.out.2.1.keep ((Below.refl _ _).drew)
      have hne : w1.heap.size ≠ r := by omega
      go_wp2
      go_region_held3 (fun w' => w'.cell? ⟨w1.heap.size, 1, none⟩ = some (.slice (some ⟨g2, 0, none⟩) n2 c2))
        (first | exact hc0 | assumption | (simp [go_sem, *]; done))
        (first | (go_at_call 54; refine (numRd r _ 3 _ _ (-1) 9 w6 _ hrW (by omega) (by omega) (by omega) rfl lit3e).mono ?_; rintro e w9 ⟨z9, rfl, z90, z91, hR9, hB9⟩; have hd0 : w9.cell? ⟨w1.heap.size, 1, none⟩ = some (.slice (some ⟨g2, 0, none⟩) n2 c2) := (hB9.cell.1 _ _ hne hCl6).trans hc0; obtain ⟨x30, x31⟩ := (HM6.out.but hB9 hR9 (by omega) (by omega) (by omega)).gcell (k5 * 5 + 3) (by omega)))
      have HM9 := hide (((HM6.out.but hB9 hR9 (by omega) (by omega) (by omega)).group (by omega) (by omega) (by omega) hCg2 hgg (k5 * 5 + 3) z9).mono (bd' := b + 530) (by omega))
      clear HM6 vc vf hc0 hrW hR9 hB9 hd0 x30 x31
      simp only [Exit.inBlock, Exit.then]
      go_step
      refine wp_gen (fun W => Hid (Mine r w W (w.heap.size + 1) w.heap.size w1.heap.size g1 n1 c1 g2 n2 c2 s k i b0 xs1 (xs2.set (k5 * 5 + 3) (.int .i64 z9)) #[.slice none 0 0, .slice none 0 0, .int .i64 0, .int .i64 0, .int .i64 0, .int .i64 0] (b + 530))) HM9.out ?_
      clear HM9
      rintro U HU
      have uc := HU.out.2.2.2.1.cell
      have uf := HU.out.2.2.2.1.frozen
      have bc := HU.out.2.2.1.cell
      have bf := HU.out.2.2.1.frozen
      have hCN : w.heap.size ≠ w1.heap.size := by omega
      try dsimp only
      repeat (first | go_values | go_skip | go_guarded | go_step | go_upon)
      have hfin := HU.out.fin p2 p4 (by omega) (by omega) (by omega) (.slice (some ⟨g1, 0, none⟩) n1 c1) (.slice (some ⟨g2, 0, none⟩) n2 c2) (.int .i64 s) (.int .i64 k) (.int .i64 i) (.int .i64 b0)
      refine bodyPost_ret (v := .agg #[.slice (some ⟨g1, 0, none⟩) n1 c1, .slice (some ⟨g2, 0, none⟩) n2 c2, .int .i64 s, .int .i64 k, .int .i64 i, .int .i64 b0]) (by simp [results, Try.results53, go_sem, *]) rfl ⟨_, _, rfl, hfin.1, by simp [wksOf]; omega, by simp [gpsOf]; omega, hfin.2.1.mono (by omega), hfin.2.2⟩
    · clear vc vf
      have uc := HM6.out.2.2.2.1.cell
      have uf := HM6.out.2.2.2.1.frozen
      have bc := HM6.out.2.2.1.cell
      have bf := HM6.out.2.2.1.frozen
      have hCN : w.heap.size ≠ w1.heap.size := by omega
      try dsimp only
      repeat (first | go_values | go_skip | go_guarded | go_step | go_upon)
      have hfin := HM6.out.finNil p4 (by omega) (by omega) (by omega) hN1l hCg2 (.slice none 0 0) (.slice none 0 0) (.slice (some ⟨g2, 0, none⟩) n2 c2) (.int .i64 s) (.int .i64 k) (.int .i64 i) (.int .i64 b0)
      refine bodyPost_ret (v := .agg #[.slice none 0 0, .slice (some ⟨g2, 0, none⟩) n2 c2, .int .i64 s, .int .i64 k, .int .i64 i, .int .i64 b0]) (by simp [results, Try.results53, go_sem, *]) rfl ⟨_, _, rfl, hfin.1, by simp, by simp [gpsOf]; omega, hfin.2.1.mono (by omega), hfin.2.2⟩
    · go_wp2_with fail
      refine (numR r _ 4 _ _ 0 9 w6 _ HM6.out.2.1 (by omega) (by omega) (by omega) rfl lit4d).mono ?_
      rintro e w9 ⟨z9, rfl, z90, z91, hR9, hB9⟩
      have HM9 := hide (HM6.out.but hB9 hR9 (by omega) (by omega) (by omega))
      clear HM6 vc vf hR9 hB9
      have uc := HM9.out.2.2.2.1.cell
      have uf := HM9.out.2.2.2.1.frozen
      have bc := HM9.out.2.2.1.cell
      have bf := HM9.out.2.2.1.frozen
      have hCN : w.heap.size ≠ w1.heap.size := by omega
      try dsimp only
      repeat (first | go_values | go_skip | go_guarded | go_step | go_upon)
      have hfin := (HM9.out.idle (by omega) (by omega) (by omega) hCg1 hCg2 z9).fin p2 p4 (by omega) (by omega) (by omega) (.slice (some ⟨g1, 0, none⟩) n1 c1) (.slice (some ⟨g2, 0, none⟩) n2 c2) (.int .i64 s) (.int .i64 k) (.int .i64 z9) (.int .i64 b0)
      refine bodyPost_ret (v := .agg #[.slice (some ⟨g1, 0, none⟩) n1 c1, .slice (some ⟨g2, 0, none⟩) n2 c2, .int .i64 s, .int .i64 k, .int .i64 z9, .int .i64 b0]) (by simp [results, Try.results53, go_sem, *]) rfl ⟨_, _, rfl, hfin.1, by simp [wksOf]; omega, by simp [gpsOf]; omega, hfin.2.1.mono (by omega), hfin.2.2⟩
    · have hc0 : w6.cell? ⟨w1.heap.size, 0, none⟩ = some (.slice (some ⟨g1, 0, none⟩) n1 c1) := vc 0
      have hrW : Rd w6.drew r (b + 520) := HM6.out.2.1.keep ((Below.refl _ _).drew)
      have hne : w1.heap.size ≠ r := by omega
      go_wp2
      go_region_held3 (fun w' => w'.cell? ⟨w1.heap.size, 0, none⟩ = some (.slice (some ⟨g1, 0, none⟩) n1 c1))
        (first | exact hc0 | assumption | (simp [go_sem, *]; done))
        (first | (go_at_call 54; refine (numRd r _ 3 _ _ (-1) 501 w6 _ hrW (by omega) (by omega) (by omega) rfl lit3f).mono ?_; rintro e w9 ⟨z9, rfl, z90, z91, hR9, hB9⟩; have hd0 : w9.cell? ⟨w1.heap.size, 0, none⟩ = some (.slice (some ⟨g1, 0, none⟩) n1 c1) := (hB9.cell.1 _ _ hne hCl6).trans hc0; obtain ⟨x30, x31⟩ := (HM6.out.but hB9 hR9 (by omega) (by omega) (by omega)).wcell (k4 * 8 + 6) (by omega)))
      have HM9 := hide (((HM6.out.but hB9 hR9 (by omega) (by omega) (by omega)).work (by omega) (by omega) (by omega) hCg1 hgg (k4 * 8 + 6) z9).mono (bd' := b + 530) (by omega))
      clear HM6 vc vf hc0 hrW hR9 hB9 hd0 x30 x31
      simp only [Exit.inBlock, Exit.then]
      go_step
      refine wp_gen (fun W => Hid (Mine r w W (w.heap.size + 1) w.heap.size w1.heap.size g1 n1 c1 g2 n2 c2 s k i b0 (xs1.set (k4 * 8 + 6) (.int .i64 z9)) xs2 #[.slice none 0 0, .slice none 0 0, .int .i64 0, .int .i64 0, .int .i64 0, .int .i64 0] (b + 530))) HM9.out ?_
      clear HM9
      rintro U HU
      have uc := HU.out.2.2.2.1.cell
      have uf := HU.out.2.2.2.1.frozen
      have bc := HU.out.2.2.1.cell
      have bf := HU.out.2.2.1.frozen
      have hCN : w.heap.size ≠ w1.heap.size := by omega
      try dsimp only
      repeat (first | go_values | go_skip | go_guarded | go_step | go_upon)
      have hfin := HU.out.fin p2 p4 (by omega) (by omega) (by omega) (.slice (some ⟨g1, 0, none⟩) n1 c1) (.slice (some ⟨g2, 0, none⟩) n2 c2) (.int .i64 s) (.int .i64 k) (.int .i64 i) (.int .i64 b0)
      refine bodyPost_ret (v := .agg #[.slice (some ⟨g1, 0, none⟩) n1 c1, .slice (some ⟨g2, 0, none⟩) n2 c2, .int .i64 s, .int .i64 k, .int .i64 i, .int .i64 b0]) (by simp [results, Try.results53, go_sem, *]) rfl ⟨_, _, rfl, hfin.1, by simp [wksOf]; omega, by simp [gpsOf]; omega, hfin.2.1.mono (by omega), hfin.2.2⟩
    · have q0 : ¬ k6 = 0 := by omega
      have q1 : ¬ k6 = 1 := by omega
      have q2 : ¬ k6 = 2 := by omega
      have q3 : ¬ k6 = 3 := by omega
      have q4 : ¬ k6 = 4 := by omega
      have q5 : ¬ k6 = 5 := by omega
      have q6 : ¬ k6 = 6 := by omega
      have q7 : ¬ k6 = 7 := by omega
      have uc := HM6.out.2.2.2.1.cell
      have uf := HM6.out.2.2.2.1.frozen
      have bc := HM6.out.2.2.1.cell
      have bf := HM6.out.2.2.1.frozen
      have hCN : w.heap.size ≠ w1.heap.size := by omega
      try dsimp only
      repeat (first | go_values | go_skip | go_guarded | go_step | go_upon)
      have hfin := HM6.out.fin p2 p4 (by omega) (by omega) (by omega) (.slice (some ⟨g1, 0, none⟩) n1 c1) (.slice (some ⟨g2, 0, none⟩) n2 c2) (.int .i64 s) (.int .i64 k) (.int .i64 i) (.int .i64 b0)
      refine bodyPost_ret (v := .agg #[.slice (some ⟨g1, 0, none⟩) n1 c1, .slice (some ⟨g2, 0, none⟩) n2 c2, .int .i64 s, .int .i64 k, .int .i64 i, .int .i64 b0]) (by simp [results, Try.results53, go_sem, *]) rfl ⟨_, _, rfl, hfin.1, by simp [wksOf]; omega, by simp [gpsOf]; omega, hfin.2.1.mono (by omega), hfin.2.2⟩
  · have HM := hide (HM2.out.mono (bd' := b + 510) (by omega))
    clear HM2
    have vc := HM.out.2.2.2.1.cell
    have hCl := HM.out.2.2.2.1.lt
    go_wp2_with fail
    refine (pickR r _ _ _ HM.out.2.1 (by omega) (by omega) (by omega)).mono ?_
    rintro e w4 ⟨kz4, rfl, kz40, kz41, hR4, hB4⟩
    obtain ⟨k4, rfl⟩ := Int.eq_ofNat_of_zero_le kz40
    have HM4 := hide (HM.out.but hB4 hR4 (by omega) (by omega) (by omega))
    have vc4 := HM4.out.2.2.2.1.cell
    have hCl4 := HM4.out.2.2.2.1.lt
    clear HM vc hCl hB4 hR4
    go_wp2_with fail
    refine (pickR r _ _ _ HM4.out.2.1 (by omega) (by omega) (by omega)).mono ?_
    rintro e w5 ⟨kz5, rfl, kz50, kz51, hR5, hB5⟩
    obtain ⟨k5, rfl⟩ := Int.eq_ofNat_of_zero_le kz50
    have HM5 := hide (HM4.out.but hB5 hR5 (by omega) (by omega) (by omega))
    clear HM4 vc4 hCl4 hB5 hR5
    go_wp2_with fail
    refine (pickR r _ _ _ HM5.out.2.1 (by omega) (by omega) (by omega)).mono ?_
    rintro e w6 ⟨k6, rfl, k60, k61, hR6, hB6⟩
    have HM6 := hide ((HM5.out.but hB6 hR6 (by omega) (by omega) (by omega)).mono (bd' := b + 520) (by omega))
    have vc := HM6.out.2.2.2.1.cell
    have vf := HM6.out.2.2.2.1.frozen
    have hCl6 := HM6.out.2.2.2.1.lt
    have hk4 : k4 < n1 := by omega
    have hk5 : k5 < n2 := by omega
    have hk48 : k4 * 8 + 8 ≤ n1 * 8 := by have := Nat.mul_le_mul_right 8 (show k4 + 1 ≤ n1 from hk4); omega
    have hk55 : k5 * 5 + 5 ≤ n2 * 5 := by have := Nat.mul_le_mul_right 5 (show k5 + 1 ≤ n2 from hk5); omega
    have hg1l := (HM6.out.2.2.2.2.1.lt g1 rfl)
    have hg2l := (HM6.out.2.2.2.2.2.2.1.lt g2 rfl)
    clear HM5 hB6 hR6
    rcases (show k6 = 0 ∨ k6 = 1 ∨ k6 = 2 ∨ k6 = 3 ∨ k6 = 4 ∨ k6 = 5 ∨ k6 = 6 ∨ k6 = 7 ∨ 8 ≤ k6 by omega) with rfl | rfl | rfl | rfl | rfl | rfl | rfl | rfl | h8
    · have hc0 : w6.cell? ⟨w1.heap.size, 0, none⟩ = some (.slice (some ⟨g1, 0, none⟩) n1 c1) := vc 0
      have hrW : Rd w6.drew r (b + 520) := HM6.out.2.1.keep ((Below.refl _ _).drew)
      have hne : w1.heap.size ≠ r := by omega
      go_wp2
      go_region_held3 (fun w' => w'.cell? ⟨w1.heap.size, 0, none⟩ = some (.slice (some ⟨g1, 0, none⟩) n1 c1))
        (first | exact hc0 | assumption | (simp [go_sem, *]; done))
        (first | (go_at_call 54; refine (numRd r _ 2 _ _ (0) 9 w6 _ hrW (by omega) (by omega) (by omega) rfl lit2d).mono ?_; rintro e w9 ⟨z9, rfl, z90, z91, hR9, hB9⟩; have hd0 : w9.cell? ⟨w1.heap.size, 0, none⟩ = some (.slice (some ⟨g1, 0, none⟩) n1 c1) := (hB9.cell.1 _ _ hne hCl6).trans hc0; obtain ⟨x30, x31⟩ := (HM6.out.but hB9 hR9 (by omega) (by omega) (by omega)).wcell (k4 * 8 + 2) (by omega)))
      have HM9 := hide (((HM6.out.but hB9 hR9 (by omega) (by omega) (by omega)).work (by omega) (by omega) (by omega) hCg1 hgg (k4 * 8 + 2) z9).mono (bd' := b + 530) (by omega))
      clear HM6 vc vf hc0 hrW hR9 hB9 hd0 x30 x31
      simp only [Exit.inBlock, Exit.then]
      go_step
      refine wp_gen (fun W => Hid (Mine r w W (w.heap.size + 1) w.heap.size w1.heap.size g1 n1 c1 g2 n2 c2 s k i b0 (xs1.set (k4 * 8 + 2) (.int .i64 z9)) xs2 #[.slice none 0 0, .slice none 0 0, .int .i64 0, .int .i64 0, .int .i64 0, .int .i64 0] (b + 530))) HM9.out ?_
      clear HM9
      rintro U HU
      have uc := HU.out.2.2.2.1.cell
      have uf := HU.out.2.2.2.1.frozen
      have bc := HU.out.2.2.1.cell
      have bf := HU.out.2.2.1.frozen
      have hCN : w.heap.size ≠ w1.heap.size := by omega
      try dsimp only
      repeat (first | go_values | go_skip | go_guarded | go_step | go_upon)
      have hfin := HU.out.fin p2 p4 (by omega) (by omega) (by omega) (.slice (some ⟨g1, 0, none⟩) n1 c1) (.slice (some ⟨g2, 0, none⟩) n2 c2) (.int .i64 s) (.int .i64 k) (.int .i64 i) (.int .i64 b0)
      refine bodyPost_ret (v := .agg #[.slice (some ⟨g1, 0, none⟩) n1 c1, .slice (some ⟨g2, 0, none⟩) n2 c2, .int .i64 s, .int .i64 k, .int .i64 i, .int .i64 b0]) (by simp [results, Try.results53, go_sem, *]) rfl ⟨_, _, rfl, hfin.1, by simp [wksOf]; omega, by simp [gpsOf]; omega, hfin.2.1.mono (by omega), hfin.2.2⟩
    · obtain ⟨z40, z41⟩ := HM6.out.wcell (k4 * 8 + 4) (by omega)
      obtain ⟨z50, z51⟩ := HM6.out.wcell (k4 * 8 + 5) (by omega)
      go_wp2
      refine wp_region_below_lastT (by kernel_rfl) (by simp) (by kernel_rfl) (by kernel_rfl) ?_
      simp only [frontOf, lastOf]
      repeat (first
        | (apply quiet_at (hg := rfl); (· (intro w' hw'; obtain ⟨hc, hf⟩ := bcell hw'; go_simp; first | rfl)); simp only [Act.put, List.setIfInBounds_toArray, List.set_cons_zero, List.set_cons_succ]))
      refine wpQuiet_nil ?_
      intro w7 hw5
      have HM7 := hide (HM6.out.bel hw5)
      obtain ⟨x50, x51⟩ := HM7.out.wcell (k4 * 8 + 5) (by omega)
      clear HM6 hw5 z40 z41 z50 z51 vc vf
      have uc := HM7.out.2.2.2.1.cell
      have uf := HM7.out.2.2.2.1.frozen
      have bc := HM7.out.2.2.1.cell
      have bf := HM7.out.2.2.1.frozen
      have hCN : w.heap.size ≠ w1.heap.size := by omega
      try dsimp only
      repeat (first | go_values | go_skip | go_guarded | go_step | go_upon)
      have hfin := (HM7.out.work (by omega) (by omega) (by omega) hCg1 hgg (k4 * 8 + 5) (zOf xs1 (k4 * 8 + 4))).fin p2 p4 (by omega) (by omega) (by omega) (.slice (some ⟨g1, 0, none⟩) n1 c1) (.slice (some ⟨g2, 0, none⟩) n2 c2) (.int .i64 s) (.int .i64 k) (.int .i64 i) (.int .i64 b0)
      refine bodyPost_ret (v := .agg #[.slice (some ⟨g1, 0, none⟩) n1 c1, .slice (some ⟨g2, 0, none⟩) n2 c2, .int .i64 s, .int .i64 k, .int .i64 i, .int .i64 b0]) (by simp [results, Try.results53, go_sem, *]) rfl ⟨_, _, rfl, hfin.1, by simp [wksOf]; omega, by simp [gpsOf]; omega, hfin.2.1.mono (by omega), hfin.2.2⟩
    · obtain ⟨z00, z01⟩ := HM6.out.wcell (k4 * 8) (by omega)
      obtain ⟨z10, z11⟩ := HM6.out.wcell (k4 * 8 + 1) (by omega)
      clear vc vf
      have uc := HM6.out.2.2.2.1.cell
      have uf := HM6.out.2.2.2.1.frozen
      have bc := HM6.out.2.2.1.cell
      have bf := HM6.out.2.2.1.frozen
      have hCN : w.heap.size ≠ w1.heap.size := by omega
      try dsimp only
      repeat (first | go_values | go_skip | go_guarded | go_step | go_upon)
      have hfin := ((HM6.out.work (by omega) (by omega) (by omega) hCg1 hgg (k4 * 8) 0).work (by omega) (by omega) (by omega) hCg1 hgg (k4 * 8 + 1) 0).fin p2 p4 (by omega) (by omega) (by omega) (.slice (some ⟨g1, 0, none⟩) n1 c1) (.slice (some ⟨g2, 0, none⟩) n2 c2) (.int .i64 s) (.int .i64 k) (.int .i64 i) (.int .i64 b0)
      refine bodyPost_ret (v := .agg #[.slice (some ⟨g1, 0, none⟩) n1 c1, .slice (some ⟨g2, 0, none⟩) n2 c2, .int .i64 s, .int .i64 k, .int .i64 i, .int .i64 b0]) (by simp [results, Try.results53, go_sem, *]) rfl ⟨_, _, rfl, hfin.1, by simp [wksOf]; omega, by simp [gpsOf]; omega, hfin.2.1.mono (by omega), hfin.2.2⟩
    · have hc0 : w6.cell? ⟨w1.heap.size, 1, none⟩ = some (.slice (some ⟨g2, 0, none⟩) n2 c2) := vc 1
      have hrW : Rd w6.drew r (b + 520) := HM6.out.2.1.keep ((Below.refl _ _).drew)
      have hne : w1.heap.size ≠ r := by omega
      go_wp2
      go_region_held3 (fun w' => w'.cell? ⟨w1.heap.size, 1, none⟩ = some (.slice (some ⟨g2, 0, none⟩) n2 c2))
        (first | exact hc0 | assumption | (simp [go_sem, *]; done))
        (first | (go_at_call 54; refine (numRd r _ 3 _ _ (0) 9 w6 _ hrW (by omega) (by omega) (by omega) rfl lit3d).mono ?_; rintro e w9 ⟨z9, rfl, z90, z91, hR9, hB9⟩; have hd0 : w9.cell? ⟨w1.heap.size, 1, none⟩ = some (.slice (some ⟨g2, 0, none⟩) n2 c2) := (hB9.cell.1 _ _ hne hCl6).trans hc0; obtain ⟨x30, x31⟩ := (HM6.out.but hB9 hR9 (by omega) (by omega) (by omega)).gcell (k5 * 5 + 4) (by omega)))
      have HM9 := hide (((HM6.out.but hB9 hR9 (by omega) (by omega) (by omega)).group (by omega) (by omega) (by omega) hCg2 hgg (k5 * 5 + 4) z9).mono (bd' := b + 530) (by omega))
      clear HM6 vc vf hc0 hrW hR9 hB9 hd0 x30 x31
      simp only [Exit.inBlock, Exit.then]
      go_step
      refine wp_gen (fun W => Hid (Mine r w W (w.heap.size + 1) w.heap.size w1.heap.size g1 n1 c1 g2 n2 c2 s k i b0 xs1 (xs2.set (k5 * 5 + 4) (.int .i64 z9)) #[.slice none 0 0, .slice none 0 0, .int .i64 0, .int .i64 0, .int .i64 0, .int .i64 0] (b + 530))) HM9.out ?_
      clear HM9
      rintro U HU
      have uc := HU.out.2.2.2.1.cell
      have uf := HU.out.2.2.2.1.frozen
      have bc := HU.out.2.2.1.cell
      have bf := HU.out.2.2.1.frozen
      have hCN : w.heap.size ≠ w1.heap.size := by omega
      try dsimp only
      repeat (first | go_values | go_skip | go_guarded | go_step | go_upon)
      have hfin := HU.out.fin p2 p4 (by omega) (by omega) (by omega) (.slice (some ⟨g1, 0, none⟩) n1 c1) (.slice (some ⟨g2, 0, none⟩) n2 c2) (.int .i64 s) (.int .i64 k) (.int .i64 i) (.int .i64 b0)
      refine bodyPost_ret (v := .agg #[.slice (some ⟨g1, 0, none⟩) n1 c1, .slice (some ⟨g2, 0, none⟩) n2 c2, .int .i64 s, .int .i64 k, .int .i64 i, .int .i64 b0]) (by simp [results, Try.results53, go_sem, *]) rfl ⟨_, _, rfl, hfin.1, by simp [wksOf]; omega, by simp [gpsOf]; omega, hfin.2.1.mono (by omega), hfin.2.2⟩
    · have hc0 : w6.cell? ⟨w1.heap.size, 1, none⟩ = some (.slice (some ⟨g2, 0, none⟩) n2 c2) := vc 1
      have hrW : Rd w6.drew r (b + 520) := HM6.out.2.1.keep ((Below.refl _ _).drew)
      have hne : w1.heap.size ≠ r := by omega
      go_wp2
      go_region_held3 (fun w' => w'.cell? ⟨w1.heap.size, 1, none⟩ = some (.slice (some ⟨g2, 0, none⟩) n2 c2))
        (first | exact hc0 | assumption | (simp [go_sem, *]; done))
        (first | (go_at_call 54; refine (numRd r _ 3 _ _ (-1) 9 w6 _ hrW (by omega) (by omega) (by omega) rfl lit3e).mono ?_; rintro e w9 ⟨z9, rfl, z90, z91, hR9, hB9⟩; have hd0 : w9.cell? ⟨w1.heap.size, 1, none⟩ = some (.slice (some ⟨g2, 0, none⟩) n2 c2) := (hB9.cell.1 _ _ hne hCl6).trans hc0; obtain ⟨x30, x31⟩ := (HM6.out.but hB9 hR9 (by omega) (by omega) (by omega)).gcell (k5 * 5 + 3) (by omega)))
      have HM9 := hide (((HM6.out.but hB9 hR9 (by omega) (by omega) (by omega)).group (by omega) (by omega) (by omega) hCg2 hgg (k5 * 5 + 3) z9).mono (bd' := b + 530) (by omega))
      clear HM6 vc vf hc0 hrW hR9 hB9 hd0 x30 x31
      simp only [Exit.inBlock, Exit.then]
      go_step
      refine wp_gen (fun W => Hid (Mine r w W (w.heap.size + 1) w.heap.size w1.heap.size g1 n1 c1 g2 n2 c2 s k i b0 xs1 (xs2.set (k5 * 5 + 3) (.int .i64 z9)) #[.slice none 0 0, .slice none 0 0, .int .i64 0, .int .i64 0, .int .i64 0, .int .i64 0] (b + 530))) HM9.out ?_
      clear HM9
      rintro U HU
      have uc := HU.out.2.2.2.1.cell
      have uf := HU.out.2.2.2.1.frozen
      have bc := HU.out.2.2.1.cell
      have bf := HU.out.2.2.1.frozen
      have hCN : w.heap.size ≠ w1.heap.size := by omega
      try dsimp only
      repeat (first | go_values | go_skip | go_guarded | go_step | go_upon)
      have hfin := HU.out.fin p2 p4 (by omega) (by omega) (by omega) (.slice (some ⟨g1, 0, none⟩) n1 c1) (.slice (some ⟨g2, 0, none⟩) n2 c2) (.int .i64 s) (.int .i64 k) (.int .i64 i) (.int .i64 b0)
      refine bodyPost_ret (v := .agg #[.slice (some ⟨g1, 0, none⟩) n1 c1, .slice (some ⟨g2, 0, none⟩) n2 c2, .int .i64 s, .int .i64 k, .int .i64 i, .int .i64 b0]) (by simp [results, Try.results53, go_sem, *]) rfl ⟨_, _, rfl, hfin.1, by simp [wksOf]; omega, by simp [gpsOf]; omega, hfin.2.1.mono (by omega), hfin.2.2⟩
    · clear vc vf
      have uc := HM6.out.2.2.2.1.cell
      have uf := HM6.out.2.2.2.1.frozen
      have bc := HM6.out.2.2.1.cell
      have bf := HM6.out.2.2.1.frozen
      have hCN : w.heap.size ≠ w1.heap.size := by omega
      try dsimp only
      repeat (first | go_values | go_skip | go_guarded | go_step | go_upon)
      have hfin := HM6.out.finNil p4 (by omega) (by omega) (by omega) hN1l hCg2 (.slice none 0 0) (.slice none 0 0) (.slice (some ⟨g2, 0, none⟩) n2 c2) (.int .i64 s) (.int .i64 k) (.int .i64 i) (.int .i64 b0)
      refine bodyPost_ret (v := .agg #[.slice none 0 0, .slice (some ⟨g2, 0, none⟩) n2 c2, .int .i64 s, .int .i64 k, .int .i64 i, .int .i64 b0]) (by simp [results, Try.results53, go_sem, *]) rfl ⟨_, _, rfl, hfin.1, by simp, by simp [gpsOf]; omega, hfin.2.1.mono (by omega), hfin.2.2⟩
    · go_wp2_with fail
      refine (numR r _ 4 _ _ 0 9 w6 _ HM6.out.2.1 (by omega) (by omega) (by omega) rfl lit4d).mono ?_
      rintro e w9 ⟨z9, rfl, z90, z91, hR9, hB9⟩
      have HM9 := hide (HM6.out.but hB9 hR9 (by omega) (by omega) (by omega))
      clear HM6 vc vf hR9 hB9
      have uc := HM9.out.2.2.2.1.cell
      have uf := HM9.out.2.2.2.1.frozen
      have bc := HM9.out.2.2.1.cell
      have bf := HM9.out.2.2.1.frozen
      have hCN : w.heap.size ≠ w1.heap.size := by omega
      try dsimp only
      repeat (first | go_values | go_skip | go_guarded | go_step | go_upon)
      have hfin := (HM9.out.idle (by omega) (by omega) (by omega) hCg1 hCg2 z9).fin p2 p4 (by omega) (by omega) (by omega) (.slice (some ⟨g1, 0, none⟩) n1 c1) (.slice (some ⟨g2, 0, none⟩) n2 c2) (.int .i64 s) (.int .i64 k) (.int .i64 z9) (.int .i64 b0)
      refine bodyPost_ret (v := .agg #[.slice (some ⟨g1, 0, none⟩) n1 c1, .slice (some ⟨g2, 0, none⟩) n2 c2, .int .i64 s, .int .i64 k, .int .i64 z9, .int .i64 b0]) (by simp [results, Try.results53, go_sem, *]) rfl ⟨_, _, rfl, hfin.1, by simp [wksOf]; omega, by simp [gpsOf]; omega, hfin.2.1.mono (by omega), hfin.2.2⟩
    · have hc0 : w6.cell? ⟨w1.heap.size, 0, none⟩ = some (.slice (some ⟨g1, 0, none⟩) n1 c1) := vc 0
      have hrW : Rd w6.drew r (b + 520) := HM6.out.2.1.keep ((Below.refl _ _).drew)
      have hne : w1.heap.size ≠ r := by omega
      go_wp2
      go_region_held3 (fun w' => w'.cell? ⟨w1.heap.size, 0, none⟩ = some (.slice (some ⟨g1, 0, none⟩) n1 c1))
        (first | exact hc0 | assumption | (simp [go_sem, *]; done))
        (first | (go_at_call 54; refine (numRd r _ 3 _ _ (-1) 501 w6 _ hrW (by omega) (by omega) (by omega) rfl lit3f).mono ?_; rintro e w9 ⟨z9, rfl, z90, z91, hR9, hB9⟩; have hd0 : w9.cell? ⟨w1.heap.size, 0, none⟩ = some (.slice (some ⟨g1, 0, none⟩) n1 c1) := (hB9.cell.1 _ _ hne hCl6).trans hc0; obtain ⟨x30, x31⟩ := (HM6.out.but hB9 hR9 (by omega) (by omega) (by omega)).wcell (k4 * 8 + 6) (by omega)))
      have HM9 := hide (((HM6.out.but hB9 hR9 (by omega) (by omega) (by omega)).work (by omega) (by omega) (by omega) hCg1 hgg (k4 * 8 + 6) z9).mono (bd' := b + 530) (by omega))
      clear HM6 vc vf hc0 hrW hR9 hB9 hd0 x30 x31
      simp only [Exit.inBlock, Exit.then]
      go_step
      refine wp_gen (fun W => Hid (Mine r w W (w.heap.size + 1) w.heap.size w1.heap.size g1 n1 c1 g2 n2 c2 s k i b0 (xs1.set (k4 * 8 + 6) (.int .i64 z9)) xs2 #[.slice none 0 0, .slice none 0 0, .int .i64 0, .int .i64 0, .int .i64 0, .int .i64 0] (b + 530))) HM9.out ?_
      clear HM9
      rintro U HU
      have uc := HU.out.2.2.2.1.cell
      have uf := HU.out.2.2.2.1.frozen
      have bc := HU.out.2.2.1.cell
      have bf := HU.out.2.2.1.frozen
      have hCN : w.heap.size ≠ w1.heap.size := by omega
      try dsimp only
      repeat (first | go_values | go_skip | go_guarded | go_step | go_upon)
      have hfin := HU.out.fin p2 p4 (by omega) (by omega) (by omega) (.slice (some ⟨g1, 0, none⟩) n1 c1) (.slice (some ⟨g2, 0, none⟩) n2 c2) (.int .i64 s) (.int .i64 k) (.int .i64 i) (.int .i64 b0)
      refine bodyPost_ret (v := .agg #[.slice (some ⟨g1, 0, none⟩) n1 c1, .slice (some ⟨g2, 0, none⟩) n2 c2, .int .i64 s, .int .i64 k, .int .i64 i, .int .i64 b0]) (by simp [results, Try.results53, go_sem, *]) rfl ⟨_, _, rfl, hfin.1, by simp [wksOf]; omega, by simp [gpsOf]; omega, hfin.2.1.mono (by omega), hfin.2.2⟩
    · have q0 : ¬ k6 = 0 := by omega
      have q1 : ¬ k6 = 1 := by omega
      have q2 : ¬ k6 = 2 := by omega
      have q3 : ¬ k6 = 3 := by omega
      have q4 : ¬ k6 = 4 := by omega
      have q5 : ¬ k6 = 5 := by omega
      have q6 : ¬ k6 = 6 := by omega
      have q7 : ¬ k6 = 7 := by omega
      have uc := HM6.out.2.2.2.1.cell
      have uf := HM6.out.2.2.2.1.frozen
      have bc := HM6.out.2.2.1.cell
      have bf := HM6.out.2.2.1.frozen
      have hCN : w.heap.size ≠ w1.heap.size := by omega
      try dsimp only
      repeat (first | go_values | go_skip | go_guarded | go_step | go_upon)
      have hfin := HM6.out.fin p2 p4 (by omega) (by omega) (by omega) (.slice (some ⟨g1, 0, none⟩) n1 c1) (.slice (some ⟨g2, 0, none⟩) n2 c2) (.int .i64 s) (.int .i64 k) (.int .i64 i) (.int .i64 b0)
      refine bodyPost_ret (v := .agg #[.slice (some ⟨g1, 0, none⟩) n1 c1, .slice (some ⟨g2, 0, none⟩) n2 c2, .int .i64 s, .int .i64 k, .int .i64 i, .int .i64 b0]) (by simp [results, Try.results53, go_sem, *]) rfl ⟨_, _, rfl, hfin.1, by simp [wksOf]; omega, by simp [gpsOf]; omega, hfin.2.1.mono (by omega), hfin.2.2⟩
end Go.Proofs.Ytifijknogofklaa
