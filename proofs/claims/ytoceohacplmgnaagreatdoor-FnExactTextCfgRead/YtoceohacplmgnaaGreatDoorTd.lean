/- Texts: what is asked, as the document writes it: the walk. -/
import Derived.Test.YtoceohacplmgnaaGreatDoorTc
import Derived.Test.YtoceohacplmgnaaGreatDoorSc
namespace Go.Proofs.YtoceohacplmgnaaGreatDoor
open Go.RowKit

theorem add3' (x y z : List UInt8) : (ByteArray.mk x.toArray ++ ⟨y.toArray⟩) ++ ⟨z.toArray⟩ = ⟨(x ++ (y ++ z)).toArray⟩ := by rw [str_app, str_app, List.append_assoc]
theorem worksP_step (c : Cf) (k : Nat) (h : k < c.works.length) : worksP c (k + 1) = worksP c k ++ workB c.works[k] := by simp only [worksP]; rw [take_flat _ _ _ h, List.append_assoc]
theorem cfgP_step (c : Cf) (k : Nat) (h : k < c.groups.length) : cfgP c (k + 1) = cfgP c k ++ groupB c.groups[k] := by simp only [cfgP]; rw [take_flat _ _ _ h, List.append_assoc]

set_option maxRecDepth 100000 in
set_option maxHeartbeats 4000000 in
/-- The document's TextCfg. -/
theorem sTextCfg_any (v : Value) (c : Cf) (w : World) (h : CfgAt w v c) :
    Calls Tryz.prog 19 #[v] w fun e w' => e = .returned (str (cfgB c)) ∧ Below w.heap.size w w' := by
  have H := hid h
  obtain ⟨aw, lw, cw, ag, lg, cg, rfl, ⟨e1, m1, h1⟩, ⟨e2, m2, h2⟩⟩ := h
  have H1 := hid h1
  have H2 := hid h2
  have E1 := hid e1
  have E2 := hid e2
  clear h1 h2 e1 e2
  cases hok : cfgOk c
  · have hp : Hid (cfgB c = []) := by simp [cfgB, hok, Hid]
    go_enter Tryz.func19, Tryz.ntmps19
    go_wp2_with (first | (go_at_call 46; refine (sCfgOk_any _ c _ (H.out.keep (by go_grown))).mono ?_; rintro e w1 ⟨rfl, hb⟩; obtain ⟨hc, hf⟩ := bcell hb))
    all_goals go_ret
    all_goals exact ⟨by rw [hp.out]; rfl, bel_tr (by go_grown) hb⟩
  · have hp : Hid (cfgB c = cfgP c c.groups.length) := by simp [cfgB, hok, Hid]
    have OK := hid hok
    have LW := (ok_of_works hok).2.2
    have LG := (ok_of_groups hok).2.2
    have HR := hid (hd_i64 hok)
    have hQ : (numsB [c.start, c.calm, c.idle, c.back]).length ≤ 84 := numsB_length _ (hd_i64 hok)
    go_enter Tryz.func19, Tryz.ntmps19
    go_wp2_with fail
    refine (sCfgOk_any _ c _ (H.out.keep (by go_grown))).mono ?_
    rintro e w1 ⟨rfl, hb⟩
    have hX1 : Blk w1 w.heap.size #[.slice aw lw cw, .slice ag lg cg, .int .i64 c.start, .int .i64 c.calm, .int .i64 c.idle, .int .i64 c.back] 25 := (Blk.new w _ _).below hb (by simp)
    have hB1 : Below w.heap.size w w1 := bel_tr (by go_grown) hb
    have A := hX1.cell
    clear hb
    go_wp2_with fail
    refine (nums_lit [c.start, c.calm, c.idle, c.back] _ _ 4 _ _ (by simp) rfl rfl (by omega) HR.out).mono ?_
    rintro e W ⟨rfl, hb⟩
    have hX : Blk W w.heap.size #[.slice aw lw cw, .slice ag lg cg, .int .i64 c.start, .int .i64 c.calm, .int .i64 c.idle, .int .i64 c.back] 25 := hX1.below hb hX1.lt
    have hBW : Below w.heap.size w W := bel_tr hB1 hb
    have zx := hX.lt
    clear A
    have A := hX.cell
    have HX := hid hX
    clear hX hb hX1 hB1 hok
    replace H1 := hid (H1.out.keep hBW)
    replace H2 := hid (H2.out.keep hBW)
    have HS0 : Hid (Value.string ((ByteArray.mk #[99, 102, 103, 32]) ++ ⟨(numsB [c.start, c.calm, c.idle, c.back]).toArray⟩) = str (headB c)) := congrArg Value.string (str_app [99, 102, 103, 32] _)
    go_wp2
    rw [HS0.out]
    go_loopw [3, 4] (fun t i w' => ∃ k : Nat, k ≤ lw ∧ i = .int .i64 k ∧ t = str (worksP c k) ∧ Below W.heap.size W w') (fun _ i _ => lw - (intOf i).toNat)
    case atStart => exact ⟨0, Nat.zero_le _, rfl, congrArg str (by simp [worksP]), Below.refl _ _⟩
    case round =>
      obtain ⟨k, hk, rfl, rfl, hb1⟩ := hrel
      clear A
      have A := (HX.out.below hb1 zx).cell
      have zx' := (HX.out.below hb1 zx).lt
      have hL := worksP_length OK.out k (by rw [E1.out]; exact hk)
      by_cases hlt : k < lw
      · have hkl : k < c.works.length := by rw [E1.out]; exact hlt
        obtain ⟨b, o, ha, hbl, x0, x1, x2, x3, x4, x5, x6, x7⟩ := (H1.out.keep hb1).at k hkl
        subst ha
        have hk0 : (0 : Int) ≤ (k : Int) := by omega
        have hkn : (k : Int) < (lw : Int) := by omega
        have hr : ∀ n ∈ [c.works[k].cpu, c.works[k].mem, c.works[k].min, c.works[k].max, c.works[k].target, c.works[k].limit, c.works[k].tol, c.works[k].rank], I64 n := wk_i64 (all_at (ok_of_works OK.out).1 k hkl)
        have HN : Hid (Value.string ((ByteArray.mk (worksP c k).toArray ++ ⟨#[10, 119, 111, 114, 107, 32]⟩) ++ ⟨(numsB [c.works[k].cpu, c.works[k].mem, c.works[k].min, c.works[k].max, c.works[k].target, c.works[k].limit, c.works[k].tol, c.works[k].rank]).toArray⟩) = str (worksP c (k + 1))) := by
          rw [Hid, worksP_step _ _ hkl]
          exact congrArg Value.string (add3' _ [10, 119, 111, 114, 107, 32] _)
        have hQ : (numsB [c.works[k].cpu, c.works[k].mem, c.works[k].min, c.works[k].max, c.works[k].target, c.works[k].limit, c.works[k].tol, c.works[k].rank]).length ≤ 168 := numsB_length _ hr
        have hL2 : (worksP c k).length ≤ 5000 := by omega
        go_wp2_with fail
        refine (nums_lit [c.works[k].cpu, c.works[k].mem, c.works[k].min, c.works[k].max, c.works[k].target, c.works[k].limit, c.works[k].tol, c.works[k].rank] _ _ 8 _ _ (by simp) rfl rfl (by omega) hr).mono ?_
        rintro e w2 ⟨rfl, hb'⟩
        have hbn : Below W.heap.size W w2 := bel_tr hb1 (bel_tr (by go_grown) hb')
        clear hb'
        go_wp2
        rw [HN.out]
        go_roundw
        case rel => exact ⟨k + 1, by omega, by go_num, rfl, hbn⟩
        case measure => simp [intOf]; omega
      · have hk1 : k = lw := by omega
        have hkk : ¬ (k : Int) < (lw : Int) := by omega
        go_wp2
        go_loopw [3, 6] (fun t i w' => ∃ k : Nat, k ≤ lg ∧ i = .int .i64 k ∧ t = str (cfgP c k) ∧ Below W.heap.size W w') (fun _ i _ => lg - (intOf i).toNat)
        case atStart => exact ⟨0, Nat.zero_le _, rfl, congrArg str (by rw [cfgP, List.take_zero, E1.out, ← hk1]; simp), hb1⟩
        case round =>
          obtain ⟨k, hk, rfl, rfl, hb2⟩ := hrel
          clear A
          have A := (HX.out.below hb2 zx).cell
          have zx' := (HX.out.below hb2 zx).lt
          have hL := cfgP_length OK.out k (by rw [E2.out]; exact hk)
          by_cases hlt : k < lg
          · have hkl : k < c.groups.length := by rw [E2.out]; exact hlt
            obtain ⟨b, o, ha, hbl, x0, x1, x2, x3, x4⟩ := (H2.out.keep hb2).at k hkl
            subst ha
            have hk0 : (0 : Int) ≤ (k : Int) := by omega
            have hkn : (k : Int) < (lg : Int) := by omega
            have hr : ∀ n ∈ [c.groups[k].cpu, c.groups[k].mem, c.groups[k].min, c.groups[k].max, c.groups[k].boot], I64 n := gp_i64 (all_at (ok_of_groups OK.out).1 k hkl)
            have HN : Hid (Value.string ((ByteArray.mk (cfgP c k).toArray ++ ⟨#[10, 103, 114, 111, 117, 112, 32]⟩) ++ ⟨(numsB [c.groups[k].cpu, c.groups[k].mem, c.groups[k].min, c.groups[k].max, c.groups[k].boot]).toArray⟩) = str (cfgP c (k + 1))) := by
              rw [Hid, cfgP_step _ _ hkl]
              exact congrArg Value.string (add3' _ [10, 103, 114, 111, 117, 112, 32] _)
            have hQ : (numsB [c.groups[k].cpu, c.groups[k].mem, c.groups[k].min, c.groups[k].max, c.groups[k].boot]).length ≤ 105 := numsB_length _ hr
            have hL2 : (cfgP c k).length ≤ 5000 := by omega
            go_wp2_with fail
            refine (nums_lit [c.groups[k].cpu, c.groups[k].mem, c.groups[k].min, c.groups[k].max, c.groups[k].boot] _ _ 5 _ _ (by simp) rfl rfl (by omega) hr).mono ?_
            rintro e w2 ⟨rfl, hb'⟩
            have hbn : Below W.heap.size W w2 := bel_tr hb2 (bel_tr (by go_grown) hb')
            clear hb'
            go_wp2
            rw [HN.out]
            go_roundw
            case rel => exact ⟨k + 1, by omega, by go_num, rfl, hbn⟩
            case measure => simp [intOf]; omega
          · have hk2 : k = lg := by omega
            have hkk : ¬ (k : Int) < (lg : Int) := by omega
            have hst : Hid (cfgP c lg = cfgB c) := by rw [Hid, hp.out, E2.out]
            go_wp2
            go_ret
            exact ⟨congrArg (fun t => Ending.returned (str t)) hst.out, Below.trans hBW (hb2.mono hBW.size)⟩
end Go.Proofs.YtoceohacplmgnaaGreatDoor
