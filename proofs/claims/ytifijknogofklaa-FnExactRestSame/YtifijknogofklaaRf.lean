/- At rest: two of what there is, alike but for counts of looks: lists held against each other by the program. -/
import Derived.Test.YtifijknogofklaaGe
import Derived.Test.YtifijknogofklaaBk
namespace Go.Proofs.Ytifijknogofklaa
open Go.RowKit

/-- What of a node is looked at. -/
def nk (x : Nd) : Int × Int × Int := (x.id, x.group, x.boot)
theorem nk_eq {x y : Nd} : nk x = nk y ↔ x.id = y.id ∧ x.group = y.group ∧ x.boot = y.boot := by simp [nk]
def rsame (s s' : St) : Prop := s.nextPod = s'.nextPod ∧ s.nextNode = s'.nextNode ∧ s.pods = s'.pods ∧ s.nodes.map nk = s'.nodes.map nk ∧ s.works.map Ws.want = s'.works.map Ws.want
instance (s s' : St) : Decidable (rsame s s') := by unfold rsame; infer_instance

theorem take_nextM {α β : Type} {f : α → β} {l l' : List α} {k : Nat} (h : (l.map f).take k = (l'.map f).take k) (h1 : k < l.length) (h2 : k < l'.length) (e : f l[k] = f l'[k]) : (l.map f).take (k + 1) = (l'.map f).take (k + 1) := by
  refine take_next h (by simpa using h1) (by simpa using h2) ?_
  simpa using e
theorem ne_atM {α β : Type} {f : α → β} {l l' : List α} {k : Nat} (h1 : k < l.length) (h2 : k < l'.length) (e : ¬ f l[k] = f l'[k]) : ¬ l.map f = l'.map f := by
  intro h
  have hk : (l.map f)[k]? = (l'.map f)[k]? := by rw [h]
  simp [h1, h2] at hk
  exact e hk
theorem ne_lenM {α β : Type} {f : α → β} {l l' : List α} (e : ¬ l.length = l'.length) : ¬ l.map f = l'.map f := by
  intro h
  have hk := congrArg List.length h
  simp at hk
  exact e hk
theorem all_M {α β : Type} {f : α → β} {l l' : List α} {k : Nat} (h : (l.map f).take k = (l'.map f).take k) (h1 : l.length ≤ k) (h2 : l'.length ≤ k) : l.map f = l'.map f := by
  rwa [List.take_of_length_le (by simpa using h1), List.take_of_length_le (by simpa using h2)] at h

set_option maxRecDepth 100000 in
set_option maxHeartbeats 1000000 in
theorem isSameNode_any (x y : Nd) (w : World) :
    Calls Try.prog 46 #[.agg #[.int .i64 x.id, .int .i64 x.group, .int .i64 x.boot, .int .i64 x.idle], .agg #[.int .i64 y.id, .int .i64 y.group, .int .i64 y.boot, .int .i64 y.idle]] w fun e w' => e = .returned (.bool (decide (nk x = nk y))) ∧ Below w.heap.size w w' := by
  by_cases h0 : x.id = y.id
  · by_cases h1 : x.group = y.group
    · by_cases h2 : x.boot = y.boot
      · have HD := hide (show decide (nk x = nk y) = true from decide_eq_true (nk_eq.2 ⟨h0, h1, h2⟩))
        go_enter Try.func46, Try.ntmps46
        go_wp2
        all_goals go_ret
        all_goals exact ⟨ret_bool HD.out.symm, by go_grown⟩
      · have HD := hide (show decide (nk x = nk y) = false from decide_eq_false fun e => h2 (nk_eq.1 e).2.2)
        go_enter Try.func46, Try.ntmps46
        go_wp2
        all_goals go_ret
        all_goals exact ⟨ret_bool HD.out.symm, by go_grown⟩
    · have HD := hide (show decide (nk x = nk y) = false from decide_eq_false fun e => h1 (nk_eq.1 e).2.1)
      go_enter Try.func46, Try.ntmps46
      go_wp2
      all_goals go_ret
      all_goals exact ⟨ret_bool HD.out.symm, by go_grown⟩
  · have HD := hide (show decide (nk x = nk y) = false from decide_eq_false fun e => h0 (nk_eq.1 e).1)
    go_enter Try.func46, Try.ntmps46
    go_wp2
    all_goals go_ret
    all_goals exact ⟨ret_bool HD.out.symm, by go_grown⟩

set_option maxRecDepth 100000 in
set_option maxHeartbeats 1000000 in
theorem wantsSame_any (x y : Ws) (w : World) :
    Calls Try.prog 48 #[.agg #[.int .i64 x.want, .int .i64 x.load, .int .i64 x.low], .agg #[.int .i64 y.want, .int .i64 y.load, .int .i64 y.low]] w fun e w' => e = .returned (.bool (decide (x.want = y.want))) ∧ Below w.heap.size w w' := by
  go_enter Try.func48, Try.ntmps48
  go_wp2
  all_goals go_ret
  all_goals exact ⟨ret_bool rfl, by go_grown⟩

set_option maxRecDepth 100000 in
set_option maxHeartbeats 4000000 in
theorem eqfNodes_any (a a' : Option Addr) (len len' cap cap' : Nat) (l l' : List Nd) (w : World) (hlen : l.length = len) (hlen' : l'.length = len') (hn : len ≤ 2000000) (hn' : len' ≤ 2000000) (hl : NodesAt w a l) (hl' : NodesAt w a' l') :
    Calls Try.prog 45 #[.slice a len cap, .slice a' len' cap', .func (.func 46) #[] #[]] w fun e w' => e = .returned (.bool (decide (l.map nk = l'.map nk))) ∧ Below w.heap.size w w' := by
  have HL := hide hl
  have HL' := hide hl'
  have HN := hide hlen
  have HN' := hide hlen'
  clear hl hl' hlen hlen'
  have hrun : ∀ args w, (callFunc 46 args).run Try.prog w = .ok (.enter 46 args) w := run_into Try.func46 (by kernel_rfl) rfl
  by_cases hll : len = len'
  · subst hll
    go_enter Try.func45, Try.ntmps45
    go_wp2
    go_loopw [17] (fun i w' => ∃ k : Nat, k ≤ len ∧ i = .int .i64 k ∧ (l.map nk).take k = (l'.map nk).take k ∧ Below w.heap.size w w') (fun i _ => len - (intOf i).toNat)
    case atStart => exact ⟨0, Nat.zero_le _, rfl, by simp, Below.refl _ _⟩
    case round =>
      obtain ⟨k, hk, rfl, htk, hbel⟩ := hrel
      by_cases hlt : k < len
      · have hkl : k < l.length := by rw [HN.out]; exact hlt
        have hkl' : k < l'.length := by rw [HN'.out]; exact hlt
        obtain ⟨b, o, ha, hbl, c0, c1, c2, c3⟩ := (HL.out.keep hbel).at k hkl
        obtain ⟨b', o', ha', hbl', d0, d1, d2, d3⟩ := (HL'.out.keep hbel).at k hkl'
        subst ha ha'
        have hk0 : (0 : Int) ≤ (k : Int) := by omega
        have hkn : (k : Int) < (len : Int) := by omega
        by_cases hee : nk l[k] = nk l'[k]
        · have HT := hide (take_nextM (f := nk) htk hkl hkl' hee)
          have HD := hide (show decide (nk l[k] = nk l'[k]) = true from decide_eq_true hee)
          clear htk hee
          go_wp2_with fail
          refine (isSameNode_any l[k] l'[k] _).mono ?_
          rintro e w2 ⟨rfl, hb2⟩
          rw [HD.out]
          have hbel2 : Below w.heap.size w w2 := bel_trans hbel (bel_trans (by go_grown) hb2)
          go_wp2
          go_roundw
          case rel => exact ⟨k + 1, by omega, by go_num, HT.out, hbel2⟩
          case measure => simp [intOf]; omega
        · have HT := hide (show decide (l.map nk = l'.map nk) = false from decide_eq_false (ne_atM hkl hkl' hee))
          have HD := hide (show decide (nk l[k] = nk l'[k]) = false from decide_eq_false hee)
          clear htk hee
          go_wp2_with fail
          refine (isSameNode_any l[k] l'[k] _).mono ?_
          rintro e w2 ⟨rfl, hb2⟩
          rw [HD.out]
          have hbel2 : Below w.heap.size w w2 := bel_trans hbel (bel_trans (by go_grown) hb2)
          go_wp2
          go_ret
          exact ⟨ret_bool HT.out.symm, hbel2⟩
      · have hkk : k = len := by omega
        subst hkk
        have hll := all_M htk (by rw [HN.out]; exact Nat.le_refl _) (by rw [HN'.out]; exact Nat.le_refl _)
        clear htk
        go_wp2
        go_ret
        exact ⟨ret_bool (decide_eq_true hll).symm, hbel⟩
  · have hne : ¬ (len : Int) = (len' : Int) := by omega
    have HT := hide (show decide (l.map nk = l'.map nk) = false from decide_eq_false (ne_lenM (by rw [HN.out, HN'.out]; exact hll)))
    go_enter Try.func45, Try.ntmps45
    go_wp2
    all_goals go_ret
    all_goals exact ⟨ret_bool HT.out.symm, by go_grown⟩

set_option maxRecDepth 100000 in
set_option maxHeartbeats 4000000 in
theorem eqfWss_any (a a' : Option Addr) (len len' cap cap' : Nat) (l l' : List Ws) (w : World) (hlen : l.length = len) (hlen' : l'.length = len') (hn : len ≤ 2000000) (hn' : len' ≤ 2000000) (hl : WssAt w a l) (hl' : WssAt w a' l') :
    Calls Try.prog 47 #[.slice a len cap, .slice a' len' cap', .func (.func 48) #[] #[]] w fun e w' => e = .returned (.bool (decide (l.map Ws.want = l'.map Ws.want))) ∧ Below w.heap.size w w' := by
  have HL := hide hl
  have HL' := hide hl'
  have HN := hide hlen
  have HN' := hide hlen'
  clear hl hl' hlen hlen'
  have hrun : ∀ args w, (callFunc 48 args).run Try.prog w = .ok (.enter 48 args) w := run_into Try.func48 (by kernel_rfl) rfl
  by_cases hll : len = len'
  · subst hll
    go_enter Try.func47, Try.ntmps47
    go_wp2
    go_loopw [17] (fun i w' => ∃ k : Nat, k ≤ len ∧ i = .int .i64 k ∧ (l.map Ws.want).take k = (l'.map Ws.want).take k ∧ Below w.heap.size w w') (fun i _ => len - (intOf i).toNat)
    case atStart => exact ⟨0, Nat.zero_le _, rfl, by simp, Below.refl _ _⟩
    case round =>
      obtain ⟨k, hk, rfl, htk, hbel⟩ := hrel
      by_cases hlt : k < len
      · have hkl : k < l.length := by rw [HN.out]; exact hlt
        have hkl' : k < l'.length := by rw [HN'.out]; exact hlt
        obtain ⟨b, o, ha, hbl, c0, c1, c2⟩ := (HL.out.keep hbel).at k hkl
        obtain ⟨b', o', ha', hbl', d0, d1, d2⟩ := (HL'.out.keep hbel).at k hkl'
        subst ha ha'
        have hk0 : (0 : Int) ≤ (k : Int) := by omega
        have hkn : (k : Int) < (len : Int) := by omega
        by_cases hee :  l[k].want =  l'[k].want
        · have HT := hide (take_nextM (f := Ws.want) htk hkl hkl' hee)
          have HD := hide (show decide ( l[k].want =  l'[k].want) = true from decide_eq_true hee)
          clear htk hee
          go_wp2_with fail
          refine (wantsSame_any l[k] l'[k] _).mono ?_
          rintro e w2 ⟨rfl, hb2⟩
          rw [HD.out]
          have hbel2 : Below w.heap.size w w2 := bel_trans hbel (bel_trans (by go_grown) hb2)
          go_wp2
          go_roundw
          case rel => exact ⟨k + 1, by omega, by go_num, HT.out, hbel2⟩
          case measure => simp [intOf]; omega
        · have HT := hide (show decide (l.map Ws.want = l'.map Ws.want) = false from decide_eq_false (ne_atM hkl hkl' hee))
          have HD := hide (show decide ( l[k].want =  l'[k].want) = false from decide_eq_false hee)
          clear htk hee
          go_wp2_with fail
          refine (wantsSame_any l[k] l'[k] _).mono ?_
          rintro e w2 ⟨rfl, hb2⟩
          rw [HD.out]
          have hbel2 : Below w.heap.size w w2 := bel_trans hbel (bel_trans (by go_grown) hb2)
          go_wp2
          go_ret
          exact ⟨ret_bool HT.out.symm, hbel2⟩
      · have hkk : k = len := by omega
        subst hkk
        have hll := all_M htk (by rw [HN.out]; exact Nat.le_refl _) (by rw [HN'.out]; exact Nat.le_refl _)
        clear htk
        go_wp2
        go_ret
        exact ⟨ret_bool (decide_eq_true hll).symm, hbel⟩
  · have hne : ¬ (len : Int) = (len' : Int) := by omega
    have HT := hide (show decide (l.map Ws.want = l'.map Ws.want) = false from decide_eq_false (ne_lenM (by rw [HN.out, HN'.out]; exact hll)))
    go_enter Try.func47, Try.ntmps47
    go_wp2
    all_goals go_ret
    all_goals exact ⟨ret_bool HT.out.symm, by go_grown⟩

end Go.Proofs.Ytifijknogofklaa
