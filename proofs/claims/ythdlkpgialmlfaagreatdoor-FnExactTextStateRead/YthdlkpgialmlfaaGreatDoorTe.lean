/- Texts: what there is, as the document writes it. -/
import Derived.Test.YthdlkpgialmlfaaGreatDoorTc
import Derived.Test.YthdlkpgialmlfaaGreatDoorGa
namespace Go.Proofs.YthdlkpgialmlfaaGreatDoor
open Go.RowKit

def workSB (x : Ws) : List UInt8 := [10, 119, 111, 114, 107, 32] ++ numsB [x.want, x.load, x.low]
def workSI (x : Ws) : Prop := ∀ n ∈ [x.want, x.load, x.low], I64 n
def groupSB (x : Gs) : List UInt8 := [10, 103, 114, 111, 117, 112, 32] ++ numsB [x.asked, x.rest, x.fails]
def groupSI (x : Gs) : Prop := ∀ n ∈ [x.asked, x.rest, x.fails], I64 n
def nodeSB (x : Nd) : List UInt8 := [10, 110, 111, 100, 101, 32] ++ numsB [x.id, x.group, x.boot, x.idle]
def nodeSI (x : Nd) : Prop := ∀ n ∈ [x.id, x.group, x.boot, x.idle], I64 n
def podSB (x : Pd) : List UInt8 := [10, 112, 111, 100, 32] ++ numsB [x.id, x.work, x.node, x.nom, x.wait]
def podSI (x : Pd) : Prop := ∀ n ∈ [x.id, x.work, x.node, x.nom, x.wait], I64 n
/-- All numbers of what there is are such that an int can hold them. -/
def StI (s : St) : Prop := (∀ n ∈ [s.nextPod, s.nextNode], I64 n) ∧ (∀ x ∈ s.works, workSI x) ∧ (∀ x ∈ s.groups, groupSI x) ∧ (∀ x ∈ s.nodes, nodeSI x) ∧ (∀ x ∈ s.pods, podSI x)
def st0 (s : St) : List UInt8 := [115, 116, 97, 116, 101, 32] ++ numsB [s.nextPod, s.nextNode]
def st1 (s : St) (k : Nat) : List UInt8 := st0 s ++ ((s.works.take k).map workSB).flatten
def st2 (s : St) (k : Nat) : List UInt8 := st1 s s.works.length ++ ((s.groups.take k).map groupSB).flatten
def st3 (s : St) (k : Nat) : List UInt8 := st2 s s.groups.length ++ ((s.nodes.take k).map nodeSB).flatten
def st4 (s : St) (k : Nat) : List UInt8 := st3 s s.nodes.length ++ ((s.pods.take k).map podSB).flatten
def stateB (s : St) : List UInt8 := st4 s s.pods.length
theorem st1_step (s : St) (k : Nat) (h : k < s.works.length) : st1 s (k + 1) = st1 s k ++ workSB s.works[k] := by simp only [st1]; rw [take_flat _ _ _ h, List.append_assoc]
theorem st2_step (s : St) (k : Nat) (h : k < s.groups.length) : st2 s (k + 1) = st2 s k ++ groupSB s.groups[k] := by simp only [st2]; rw [take_flat _ _ _ h, List.append_assoc]
theorem st3_step (s : St) (k : Nat) (h : k < s.nodes.length) : st3 s (k + 1) = st3 s k ++ nodeSB s.nodes[k] := by simp only [st3]; rw [take_flat _ _ _ h, List.append_assoc]
theorem st4_step (s : St) (k : Nat) (h : k < s.pods.length) : st4 s (k + 1) = st4 s k ++ podSB s.pods[k] := by simp only [st4]; rw [take_flat _ _ _ h, List.append_assoc]
theorem add3 (x y z : List UInt8) : (ByteArray.mk x.toArray ++ ⟨y.toArray⟩) ++ ⟨z.toArray⟩ = ⟨(x ++ (y ++ z)).toArray⟩ := by rw [str_app, str_app, List.append_assoc]
theorem st0_length {s : St} (h : StI s) : (st0 s).length ≤ 100 := by
  have := numsB_length _ h.1
  simp [st0] at this ⊢
  omega
theorem st1_length {s : St} (h : StI s) : ∀ k, k ≤ s.works.length → (st1 s k).length ≤ 100 + 200 * k
  | 0, _ => by
    have h1 := st0_length h
    simp [st1] at h1 ⊢
    omega
  | k + 1, hk => by
    have h1 := st1_length h k (by omega)
    have h2 := numsB_length _ (h.2.1 s.works[k] (List.getElem_mem (by omega)))
    simp only [st1, take_flat _ _ k (show k < s.works.length by omega), workSB, List.length_append, List.length_cons, List.length_nil] at h1 h2 ⊢
    omega
theorem st2_length {s : St} (h : StI s) : ∀ k, k ≤ s.groups.length → (st2 s k).length ≤ 100 + 200 * s.works.length + 200 * k
  | 0, _ => by
    have h1 := st1_length h s.works.length (Nat.le_refl _)
    simp [st2] at h1 ⊢
    omega
  | k + 1, hk => by
    have h1 := st2_length h k (by omega)
    have h2 := numsB_length _ (h.2.2.1 s.groups[k] (List.getElem_mem (by omega)))
    simp only [st2, take_flat _ _ k (show k < s.groups.length by omega), groupSB, List.length_append, List.length_cons, List.length_nil] at h1 h2 ⊢
    omega
theorem st3_length {s : St} (h : StI s) : ∀ k, k ≤ s.nodes.length → (st3 s k).length ≤ 100 + 200 * s.works.length + 200 * s.groups.length + 200 * k
  | 0, _ => by
    have h1 := st2_length h s.groups.length (Nat.le_refl _)
    simp [st3] at h1 ⊢
    omega
  | k + 1, hk => by
    have h1 := st3_length h k (by omega)
    have h2 := numsB_length _ (h.2.2.2.1 s.nodes[k] (List.getElem_mem (by omega)))
    simp only [st3, take_flat _ _ k (show k < s.nodes.length by omega), nodeSB, List.length_append, List.length_cons, List.length_nil] at h1 h2 ⊢
    omega
theorem st4_length {s : St} (h : StI s) : ∀ k, k ≤ s.pods.length → (st4 s k).length ≤ 100 + 200 * s.works.length + 200 * s.groups.length + 200 * s.nodes.length + 200 * k
  | 0, _ => by
    have h1 := st3_length h s.nodes.length (Nat.le_refl _)
    simp [st4] at h1 ⊢
    omega
  | k + 1, hk => by
    have h1 := st4_length h k (by omega)
    have h2 := numsB_length _ (h.2.2.2.2 s.pods[k] (List.getElem_mem (by omega)))
    simp only [st4, take_flat _ _ k (show k < s.pods.length by omega), podSB, List.length_append, List.length_cons, List.length_nil] at h1 h2 ⊢
    omega

set_option maxRecDepth 100000 in
set_option maxHeartbeats 4000000 in
/-- The document's TextState. -/
theorem sTextState_any (v : Value) (s : St) (w : World) (h : StateAt w v s) (hI : StI s) :
    Calls Tryz.prog 29 #[v] w fun e w' => e = .returned (str (stateB s)) ∧ Below w.heap.size w w' := by
  obtain ⟨a1, l1, c1, a2, l2, c2, a3, l3, c3, a4, l4, c4, rfl, ⟨e1, m1, h1⟩, ⟨e2, m2, h2⟩, ⟨e3, m3, h3⟩, ⟨e4, m4, h4⟩⟩ := h
  have H1 := hid h1
  have E1 := hid e1
  have H2 := hid h2
  have E2 := hid e2
  have H3 := hid h3
  have E3 := hid e3
  have H4 := hid h4
  have E4 := hid e4
  have HI := hid hI
  have L0 := st0_length hI
  clear h1 h2 h3 h4 e1 e2 e3 e4 hI
  go_enter Tryz.func29, Tryz.ntmps29
  go_wp2_with fail
  refine (nums_lit [s.nextPod, s.nextNode] _ _ 2 _ _ (by simp) rfl rfl (by omega) HI.out.1).mono ?_
  rintro e W ⟨rfl, hb⟩
  have hX : Blk W w.heap.size #[.slice a1 l1 c1, .slice a2 l2 c2, .slice a3 l3 c3, .slice a4 l4 c4, .int .i64 s.nextPod, .int .i64 s.nextNode] 36 := (Blk.new w _ _).below hb (by simp)
  have hBW : Below w.heap.size w W := bel_tr (by go_grown) hb
  have hQ := numsB_length _ HI.out.1
  have hQ2 : (numsB [s.nextPod, s.nextNode]).length ≤ 42 := hQ
  have zx := hX.lt
  have A := hX.cell
  have HX := hid hX
  clear hX hb hQ
  replace H1 := hid (H1.out.keep hBW)
  replace H2 := hid (H2.out.keep hBW)
  replace H3 := hid (H3.out.keep hBW)
  replace H4 := hid (H4.out.keep hBW)
  have HS0 : Hid (Value.string ((ByteArray.mk #[115, 116, 97, 116, 101, 32]) ++ ⟨(numsB [s.nextPod, s.nextNode]).toArray⟩) = str (st0 s)) := congrArg Value.string (str_app [115, 116, 97, 116, 101, 32] _)
  go_wp2
  rw [HS0.out]
  go_loopw [3, 4] (fun t i w' => ∃ k : Nat, k ≤ l3 ∧ i = .int .i64 k ∧ t = str (st1 s k) ∧ Below W.heap.size W w') (fun _ i _ => l3 - (intOf i).toNat)
  case atStart => exact ⟨0, Nat.zero_le _, rfl, congrArg str (by simp [st1]), Below.refl _ _⟩
  case round =>
    obtain ⟨k, hk, rfl, rfl, hb1⟩ := hrel
    clear A
    have A := (HX.out.below hb1 zx).cell
    have zx' := (HX.out.below hb1 zx).lt
    have hL := st1_length HI.out k (by rw [E3.out]; exact hk)
    by_cases hlt : k < l3
    · have hkl : k < s.works.length := by rw [E3.out]; exact hlt
      obtain ⟨b, o, ha, hbl, x0, x1, x2⟩ := (H3.out.keep hb1).at k hkl
      subst ha
      have hk0 : (0 : Int) ≤ (k : Int) := by omega
      have hkn : (k : Int) < (l3 : Int) := by omega
      have hr : ∀ n ∈ [s.works[k].want, s.works[k].load, s.works[k].low], I64 n := HI.out.2.1 s.works[k] (List.getElem_mem hkl)
      have HN : Hid (Value.string ((ByteArray.mk (st1 s k).toArray ++ ⟨#[10, 119, 111, 114, 107, 32]⟩) ++ ⟨(numsB [s.works[k].want, s.works[k].load, s.works[k].low]).toArray⟩) = str (st1 s (k + 1))) := by
        rw [Hid, st1_step _ _ hkl]
        exact congrArg Value.string (add3 _ [10, 119, 111, 114, 107, 32] _)
      have hQ : (numsB [s.works[k].want, s.works[k].load, s.works[k].low]).length ≤ 63 := numsB_length _ hr
      have hL2 : (st1 s k).length ≤ 2000000000 := by omega
      go_wp2_with fail
      refine (nums_lit [s.works[k].want, s.works[k].load, s.works[k].low] _ _ 3 _ _ (by simp) rfl rfl (by omega) hr).mono ?_
      rintro e w2 ⟨rfl, hb'⟩
      have hbn : Below W.heap.size W w2 := bel_tr hb1 (bel_tr (by go_grown) hb')
      clear hb'
      go_wp2
      rw [HN.out]
      go_roundw
      case rel => exact ⟨k + 1, by omega, by go_num, rfl, hbn⟩
      case measure => simp [intOf]; omega
    · have hk1 : k = l3 := by omega
      have hkk : ¬ (k : Int) < (l3 : Int) := by omega
      go_wp2
      go_loopw [3, 6] (fun t i w' => ∃ k : Nat, k ≤ l4 ∧ i = .int .i64 k ∧ t = str (st2 s k) ∧ Below W.heap.size W w') (fun _ i _ => l4 - (intOf i).toNat)
      case atStart => exact ⟨0, Nat.zero_le _, rfl, congrArg str (by rw [st2, List.take_zero, E3.out, ← hk1]; simp), hb1⟩
      case round =>
        obtain ⟨k, hk, rfl, rfl, hb2⟩ := hrel
        clear A
        have A := (HX.out.below hb2 zx).cell
        have zx' := (HX.out.below hb2 zx).lt
        have hL := st2_length HI.out k (by rw [E4.out]; exact hk)
        rw [E3.out] at hL
        by_cases hlt : k < l4
        · have hkl : k < s.groups.length := by rw [E4.out]; exact hlt
          obtain ⟨b, o, ha, hbl, x0, x1, x2⟩ := (H4.out.keep hb2).at k hkl
          subst ha
          have hk0 : (0 : Int) ≤ (k : Int) := by omega
          have hkn : (k : Int) < (l4 : Int) := by omega
          have hr : ∀ n ∈ [s.groups[k].asked, s.groups[k].rest, s.groups[k].fails], I64 n := HI.out.2.2.1 s.groups[k] (List.getElem_mem hkl)
          have HN : Hid (Value.string ((ByteArray.mk (st2 s k).toArray ++ ⟨#[10, 103, 114, 111, 117, 112, 32]⟩) ++ ⟨(numsB [s.groups[k].asked, s.groups[k].rest, s.groups[k].fails]).toArray⟩) = str (st2 s (k + 1))) := by
            rw [Hid, st2_step _ _ hkl]
            exact congrArg Value.string (add3 _ [10, 103, 114, 111, 117, 112, 32] _)
          have hQ : (numsB [s.groups[k].asked, s.groups[k].rest, s.groups[k].fails]).length ≤ 63 := numsB_length _ hr
          have hL2 : (st2 s k).length ≤ 2000000000 := by omega
          go_wp2_with fail
          refine (nums_lit [s.groups[k].asked, s.groups[k].rest, s.groups[k].fails] _ _ 3 _ _ (by simp) rfl rfl (by omega) hr).mono ?_
          rintro e w2 ⟨rfl, hb'⟩
          have hbn : Below W.heap.size W w2 := bel_tr hb2 (bel_tr (by go_grown) hb')
          clear hb'
          go_wp2
          rw [HN.out]
          go_roundw
          case rel => exact ⟨k + 1, by omega, by go_num, rfl, hbn⟩
          case measure => simp [intOf]; omega
        · have hk2 : k = l4 := by omega
          have hkk : ¬ (k : Int) < (l4 : Int) := by omega
          go_wp2
          go_loopw [3, 8] (fun t i w' => ∃ k : Nat, k ≤ l2 ∧ i = .int .i64 k ∧ t = str (st3 s k) ∧ Below W.heap.size W w') (fun _ i _ => l2 - (intOf i).toNat)
          case atStart => exact ⟨0, Nat.zero_le _, rfl, congrArg str (by rw [st3, List.take_zero, E4.out, ← hk2]; simp), hb2⟩
          case round =>
            obtain ⟨k, hk, rfl, rfl, hb3⟩ := hrel
            clear A
            have A := (HX.out.below hb3 zx).cell
            have zx' := (HX.out.below hb3 zx).lt
            have hL := st3_length HI.out k (by rw [E2.out]; exact hk)
            rw [E3.out] at hL
            rw [E4.out] at hL
            by_cases hlt : k < l2
            · have hkl : k < s.nodes.length := by rw [E2.out]; exact hlt
              obtain ⟨b, o, ha, hbl, x0, x1, x2, x3⟩ := (H2.out.keep hb3).at k hkl
              subst ha
              have hk0 : (0 : Int) ≤ (k : Int) := by omega
              have hkn : (k : Int) < (l2 : Int) := by omega
              have hr : ∀ n ∈ [s.nodes[k].id, s.nodes[k].group, s.nodes[k].boot, s.nodes[k].idle], I64 n := HI.out.2.2.2.1 s.nodes[k] (List.getElem_mem hkl)
              have HN : Hid (Value.string ((ByteArray.mk (st3 s k).toArray ++ ⟨#[10, 110, 111, 100, 101, 32]⟩) ++ ⟨(numsB [s.nodes[k].id, s.nodes[k].group, s.nodes[k].boot, s.nodes[k].idle]).toArray⟩) = str (st3 s (k + 1))) := by
                rw [Hid, st3_step _ _ hkl]
                exact congrArg Value.string (add3 _ [10, 110, 111, 100, 101, 32] _)
              have hQ : (numsB [s.nodes[k].id, s.nodes[k].group, s.nodes[k].boot, s.nodes[k].idle]).length ≤ 84 := numsB_length _ hr
              have hL2 : (st3 s k).length ≤ 2000000000 := by omega
              go_wp2_with fail
              refine (nums_lit [s.nodes[k].id, s.nodes[k].group, s.nodes[k].boot, s.nodes[k].idle] _ _ 4 _ _ (by simp) rfl rfl (by omega) hr).mono ?_
              rintro e w2 ⟨rfl, hb'⟩
              have hbn : Below W.heap.size W w2 := bel_tr hb3 (bel_tr (by go_grown) hb')
              clear hb'
              go_wp2
              rw [HN.out]
              go_roundw
              case rel => exact ⟨k + 1, by omega, by go_num, rfl, hbn⟩
              case measure => simp [intOf]; omega
            · have hk3 : k = l2 := by omega
              have hkk : ¬ (k : Int) < (l2 : Int) := by omega
              go_wp2
              go_loopw [3, 10] (fun t i w' => ∃ k : Nat, k ≤ l1 ∧ i = .int .i64 k ∧ t = str (st4 s k) ∧ Below W.heap.size W w') (fun _ i _ => l1 - (intOf i).toNat)
              case atStart => exact ⟨0, Nat.zero_le _, rfl, congrArg str (by rw [st4, List.take_zero, E2.out, ← hk3]; simp), hb3⟩
              case round =>
                obtain ⟨k, hk, rfl, rfl, hb4⟩ := hrel
                clear A
                have A := (HX.out.below hb4 zx).cell
                have zx' := (HX.out.below hb4 zx).lt
                have hL := st4_length HI.out k (by rw [E1.out]; exact hk)
                rw [E3.out] at hL
                rw [E4.out] at hL
                rw [E2.out] at hL
                by_cases hlt : k < l1
                · have hkl : k < s.pods.length := by rw [E1.out]; exact hlt
                  obtain ⟨b, o, ha, hbl, x0, x1, x2, x3, x4⟩ := (H1.out.keep hb4).at k hkl
                  subst ha
                  have hk0 : (0 : Int) ≤ (k : Int) := by omega
                  have hkn : (k : Int) < (l1 : Int) := by omega
                  have hr : ∀ n ∈ [s.pods[k].id, s.pods[k].work, s.pods[k].node, s.pods[k].nom, s.pods[k].wait], I64 n := HI.out.2.2.2.2 s.pods[k] (List.getElem_mem hkl)
                  have HN : Hid (Value.string ((ByteArray.mk (st4 s k).toArray ++ ⟨#[10, 112, 111, 100, 32]⟩) ++ ⟨(numsB [s.pods[k].id, s.pods[k].work, s.pods[k].node, s.pods[k].nom, s.pods[k].wait]).toArray⟩) = str (st4 s (k + 1))) := by
                    rw [Hid, st4_step _ _ hkl]
                    exact congrArg Value.string (add3 _ [10, 112, 111, 100, 32] _)
                  have hQ : (numsB [s.pods[k].id, s.pods[k].work, s.pods[k].node, s.pods[k].nom, s.pods[k].wait]).length ≤ 105 := numsB_length _ hr
                  have hL2 : (st4 s k).length ≤ 2000000000 := by omega
                  go_wp2_with fail
                  refine (nums_lit [s.pods[k].id, s.pods[k].work, s.pods[k].node, s.pods[k].nom, s.pods[k].wait] _ _ 5 _ _ (by simp) rfl rfl (by omega) hr).mono ?_
                  rintro e w2 ⟨rfl, hb'⟩
                  have hbn : Below W.heap.size W w2 := bel_tr hb4 (bel_tr (by go_grown) hb')
                  clear hb'
                  go_wp2
                  rw [HN.out]
                  go_roundw
                  case rel => exact ⟨k + 1, by omega, by go_num, rfl, hbn⟩
                  case measure => simp [intOf]; omega
                · have hk4 : k = l1 := by omega
                  have hkk : ¬ (k : Int) < (l1 : Int) := by omega
                  have hst : Hid (st4 s l1 = stateB s) := by rw [Hid, stateB, E1.out]
                  go_wp2
                  go_ret
                  exact ⟨congrArg (fun t => Ending.returned (str t)) hst.out, Below.trans hBW (hb4.mono hBW.size)⟩
end Go.Proofs.YthdlkpgialmlfaaGreatDoor
