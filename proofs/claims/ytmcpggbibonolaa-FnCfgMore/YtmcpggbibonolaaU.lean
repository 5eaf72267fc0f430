/- What is asked, whole: the program's counts. -/
import Derived.Test.YtmcpggbibonolaaT
namespace Go.Proofs.Ytmcpggbibonolaa
open Go.RowKit

def sumMax (l : List Wk) : Int := (l.map Wk.max).sum
def sumMaxG (l : List Gp) : Int := (l.map Gp.max).sum
def sumTurns (l : List Wk) : Int := (l.map fun x => x.max - x.min + 2).sum
def mostC (l : List Wk) : Int := l.foldl (fun m x => maxI m x.cpu) 0
def mostM (l : List Wk) : Int := l.foldl (fun m x => maxI m x.mem) 0
def mostBoot (l : List Gp) : Int := l.foldl (fun m x => maxI m x.boot) 0

theorem ok_of_works {c : Cf} (h : cfgOk c = true) : c.works.all wOk = true ∧ 1 ≤ c.works.length ∧ c.works.length ≤ 3 := by
  unfold cfgOk worksB at h
  simp only [Bool.and_eq_true, in_iff] at h
  obtain ⟨⟨⟨⟨h1, h2⟩, h3⟩, _⟩, _⟩ := h
  exact ⟨h3, by omega, by omega⟩
theorem ok_of_groups {c : Cf} (h : cfgOk c = true) : c.groups.all gOk = true ∧ 1 ≤ c.groups.length ∧ c.groups.length ≤ 3 := by
  unfold cfgOk groupsB at h
  simp only [Bool.and_eq_true, in_iff] at h
  obtain ⟨⟨_, ⟨h1, h2⟩, h3⟩, _⟩ := h
  exact ⟨h3, by omega, by omega⟩
theorem ok_of_waits {c : Cf} (h : cfgOk c = true) : (1 ≤ c.start ∧ c.start ≤ 8) ∧ (1 ≤ c.calm ∧ c.calm ≤ 8) ∧ (1 ≤ c.back ∧ c.back ≤ 8) ∧ (2 ≤ c.idle ∧ c.idle ≤ 8) := by
  unfold cfgOk waitsB at h
  simp only [Bool.and_eq_true, in_iff] at h
  obtain ⟨_, ⟨⟨h1, h2⟩, h3⟩, h4⟩ := h
  exact ⟨h1, h2, h3, h4⟩
theorem wOk_bd {x : Wk} (h : wOk x = true) : 0 ≤ x.cpu ∧ x.cpu ≤ 10000 ∧ 0 ≤ x.mem ∧ x.mem ≤ 10000 ∧ 1 ≤ x.min ∧ x.min ≤ x.max ∧ x.max ≤ 8 ∧ 1 ≤ x.target ∧ x.target < x.limit ∧ x.limit ≤ 10000 ∧ 0 ≤ x.tol ∧ x.tol ≤ 500 ∧ 0 ≤ x.rank ∧ x.rank ≤ 9 ∧ ¬ (x.cpu = 0 ∧ x.mem = 0) := by
  unfold wOk wSize wCount wLoad wTol wRank at h
  simp only [Bool.and_eq_true, in_iff, ok_iff, decide_eq_true_eq] at h
  obtain ⟨⟨⟨⟨⟨h1, h2⟩, h3, h4⟩, h5, h6⟩, h7, h8⟩, h9⟩ := h
  refine ⟨h1.1, h1.2.1, h1.2.2.1, h1.2.2.2, h3, h4.1, h4.2, h6.1, by omega, h5.2, h7.1, h7.2, h9.1, h9.2, ?_⟩
  rintro ⟨ha, hb⟩
  simp [notB, ha, hb] at h2
theorem gOk_bd {x : Gp} (h : gOk x = true) : 0 ≤ x.cpu ∧ x.cpu ≤ 10000 ∧ 0 ≤ x.mem ∧ x.mem ≤ 10000 ∧ 0 ≤ x.min ∧ x.min ≤ x.max ∧ x.max ≤ 8 ∧ 1 ≤ x.boot ∧ x.boot ≤ 8 := by
  unfold gOk gCount gBoot at h
  simp only [Bool.and_eq_true, in_iff, ok_iff, decide_eq_true_eq] at h
  obtain ⟨⟨h1, h2, h3⟩, h4⟩ := h
  exact ⟨h1.1, h1.2.1, h1.2.2.1, h1.2.2.2, h2, h3.1, h3.2, h4.1, h4.2⟩

theorem all_at {α : Type} {p : α → Bool} {l : List α} (h : l.all p = true) (i : Nat) (hi : i < l.length) : p l[i] = true :=
  List.all_eq_true.1 h _ (List.getElem_mem hi)
theorem take_sum {α : Type} (f : α → Int) (l : List α) (i : Nat) (h : i < l.length) : ((l.take (i + 1)).map f).sum = ((l.take i).map f).sum + f l[i] := by
  rw [List.take_succ_eq_append_getElem h, List.map_append, List.sum_append]; simp only [List.map_cons, List.map_nil, List.sum_cons, List.sum_nil, Int.add_zero]
theorem take_foldl {α β : Type} (f : β → α → β) (z : β) (l : List α) (i : Nat) (h : i < l.length) : (l.take (i + 1)).foldl f z = f ((l.take i).foldl f z) l[i] := by
  rw [List.take_succ_eq_append_getElem h, List.foldl_append]; rfl

set_option maxHeartbeats 400000 in
theorem clo51_any (n : Int) (x : Wk) (w : World) (h0 : 0 ≤ n) (h1 : n ≤ 100000) (h2 : 0 ≤ x.max) (h3 : x.max ≤ 8) :
    Calls Try.prog 51 #[.int .i64 n, x.v] w fun e w' => e = .returned (.int .i64 (n + x.max)) ∧ Below w.heap.size w w' := by
  go_enter Try.func51, Try.ntmps51
  go_wp2
  all_goals go_ret
  all_goals exact ⟨rfl, by go_grown⟩
set_option maxHeartbeats 400000 in
theorem clo53_any (n : Int) (x : Gp) (w : World) (h0 : 0 ≤ n) (h1 : n ≤ 100000) (h2 : 0 ≤ x.max) (h3 : x.max ≤ 8) :
    Calls Try.prog 53 #[.int .i64 n, x.v] w fun e w' => e = .returned (.int .i64 (n + x.max)) ∧ Below w.heap.size w w' := by
  go_enter Try.func53, Try.ntmps53
  go_wp2
  all_goals go_ret
  all_goals exact ⟨rfl, by go_grown⟩
set_option maxHeartbeats 400000 in
theorem clo73_any (n : Int) (x : Gp) (w : World) :
    Calls Try.prog 73 #[.int .i64 n, x.v] w fun e w' => e = .returned (.int .i64 (maxI n x.boot)) ∧ Below w.heap.size w w' := by
  go_enter Try.func73, Try.ntmps73
  go_wp2_with (go_at_call 74; refine (greater_any _ _ _).mono ?_; rintro e w' ⟨rfl, rfl⟩)
  all_goals go_ret
  all_goals exact ⟨rfl, by go_grown⟩
set_option maxHeartbeats 400000 in
theorem clo75_any (n : Int) (x : Wk) (w : World) (h0 : 0 ≤ n) (h1 : n ≤ 100000) (h2 : 0 ≤ x.min) (h3 : x.min ≤ x.max) (h4 : x.max ≤ 8) :
    Calls Try.prog 75 #[.int .i64 n, x.v] w fun e w' => e = .returned (.int .i64 (n + (x.max - x.min + 2))) ∧ Below w.heap.size w w' := by
  go_enter Try.func75, Try.ntmps75
  go_wp2
  all_goals go_ret
  all_goals exact ⟨ret_int (by omega), by go_grown⟩
set_option maxHeartbeats 400000 in
theorem clo55_any (a b : Int) (x : Wk) (w : World) :
    Calls Try.prog 55 #[.agg #[.int .i64 a, .int .i64 b], x.v] w fun e w' => e = .returned (.agg #[.int .i64 (maxI a x.cpu), .int .i64 (maxI b x.mem)]) ∧ Below w.heap.size w w' := by
  go_enter Try.func55, Try.ntmps55
  go_wp2_with (go_at_call 56; refine (implMost_any _ _ _ _ _).mono ?_; rintro e w1 ⟨rfl, hb⟩; obtain ⟨hc, hf⟩ := bcell hb; have hs : w.heap.size + 3 ≤ w1.heap.size := (by have := hb.size; simpa using this); have z2 : w.heap.size + 2 < w1.heap.size := (by omega))
  refine bodyPost_ret (v := .agg #[.int .i64 (maxI a x.cpu), .int .i64 (maxI b x.mem)]) (by simp [results, Try.results55, go_sem, *]) rfl ⟨rfl, ?_⟩
  exact ((bel_trans (by go_grown) hb).setCell (by simp; omega) _).setCell (by simp; omega) _

theorem sumMax_bd (l : List Wk) (h : l.all wOk = true) (i : Nat) : 0 ≤ sumMax (l.take i) ∧ sumMax (l.take i) ≤ 8 * i := by
  induction i with
  | zero => simp [sumMax]
  | succ i ih =>
    by_cases hi : i < l.length
    · have hb := wOk_bd (all_at h i hi)
      unfold sumMax at *
      rw [take_sum _ _ _ hi]; omega
    · rw [List.take_of_length_le (by omega)] at *; omega
theorem sumTurns_bd (l : List Wk) (h : l.all wOk = true) (i : Nat) : 0 ≤ sumTurns (l.take i) ∧ sumTurns (l.take i) ≤ 9 * i := by
  induction i with
  | zero => simp [sumTurns]
  | succ i ih =>
    by_cases hi : i < l.length
    · have hb := wOk_bd (all_at h i hi)
      unfold sumTurns at *
      rw [take_sum _ _ _ hi]; omega
    · rw [List.take_of_length_le (by omega)] at *; omega
theorem sumMaxG_bd (l : List Gp) (h : l.all gOk = true) (i : Nat) : 0 ≤ sumMaxG (l.take i) ∧ sumMaxG (l.take i) ≤ 8 * i := by
  induction i with
  | zero => simp [sumMaxG]
  | succ i ih =>
    by_cases hi : i < l.length
    · have hb := gOk_bd (all_at h i hi)
      unfold sumMaxG at *
      rw [take_sum _ _ _ hi]; omega
    · rw [List.take_of_length_le (by omega)] at *; omega
theorem mostBoot_bd (l : List Gp) (h : l.all gOk = true) (i : Nat) : 0 ≤ mostBoot (l.take i) ∧ mostBoot (l.take i) ≤ 8 := by
  induction i with
  | zero => simp [mostBoot]
  | succ i ih =>
    by_cases hi : i < l.length
    · have hb := gOk_bd (all_at h i hi)
      unfold mostBoot at *
      rw [take_foldl _ _ _ _ hi]; unfold maxI at *; split <;> omega
    · rw [List.take_of_length_le (by omega)] at *; omega
theorem most_bd (l : List Wk) (h : l.all wOk = true) (i : Nat) : 0 ≤ mostC (l.take i) ∧ mostC (l.take i) ≤ 10000 ∧ 0 ≤ mostM (l.take i) ∧ mostM (l.take i) ≤ 10000 := by
  induction i with
  | zero => simp [mostC, mostM]
  | succ i ih =>
    by_cases hi : i < l.length
    · have hb := wOk_bd (all_at h i hi)
      unfold mostC mostM at *
      rw [take_foldl _ _ _ _ hi, take_foldl _ _ _ _ hi]; generalize List.foldl _ _ _ = A at *; generalize List.foldl _ _ _ = B at *; unfold maxI at *; split <;> split <;> omega
    · rw [List.take_of_length_le (by omega)] at *; omega

theorem foldW_pods (a : Option Addr) (len cap : Nat) (l : List Wk) (w : World) (hlen : l.length = len) (hn : len ≤ 3) (hl : WorksAt w a l) (hok : l.all wOk = true) :
    Calls Try.prog 50 #[.slice a len cap, .int .i64 0, .func (.func 51) #[] #[]] w fun e w' => e = .returned (.int .i64 (sumMax l)) ∧ Below w.heap.size w w' := by
  refine (fold50_any a len cap l _ _ (fun i v => v = .int .i64 (sumMax (l.take i))) w hlen (by omega) hl ⟨51, #[], run_into Try.func51 (by kernel_rfl) rfl, rfl, ?_⟩ (by simp [sumMax])).mono ?_
  · rintro i h v w' rfl _
    have hb := wOk_bd (all_at hok i h)
    have hs := sumMax_bd l hok i
    refine (clo51_any _ _ _ (by omega) (by omega) (by omega) (by omega)).mono ?_
    rintro e w2 ⟨rfl, hb⟩
    exact ⟨_, rfl, by dsimp only; unfold sumMax; rw [take_sum _ _ _ h], hb⟩
  · rintro e w' ⟨v, rfl, rfl, hb⟩
    exact ⟨by rw [List.take_of_length_le (by omega)], hb⟩
theorem foldW_turns (a : Option Addr) (len cap : Nat) (l : List Wk) (w : World) (hlen : l.length = len) (hn : len ≤ 3) (hl : WorksAt w a l) (hok : l.all wOk = true) :
    Calls Try.prog 50 #[.slice a len cap, .int .i64 2, .func (.func 75) #[] #[]] w fun e w' => e = .returned (.int .i64 (2 + sumTurns l)) ∧ Below w.heap.size w w' := by
  refine (fold50_any a len cap l _ _ (fun i v => v = .int .i64 (2 + sumTurns (l.take i))) w hlen (by omega) hl ⟨75, #[], run_into Try.func75 (by kernel_rfl) rfl, rfl, ?_⟩ (by simp [sumTurns])).mono ?_
  · rintro i h v w' rfl _
    have hb := wOk_bd (all_at hok i h)
    have hs := sumTurns_bd l hok i
    refine (clo75_any _ _ _ (by omega) (by omega) (by omega) (by omega) (by omega)).mono ?_
    rintro e w2 ⟨rfl, hb⟩
    exact ⟨_, rfl, by dsimp only; unfold sumTurns; rw [take_sum _ _ _ h, Int.add_assoc], hb⟩
  · rintro e w' ⟨v, rfl, rfl, hb⟩
    exact ⟨by rw [List.take_of_length_le (by omega)], hb⟩
theorem foldG_nodes (a : Option Addr) (len cap : Nat) (l : List Gp) (w : World) (hlen : l.length = len) (hn : len ≤ 3) (hl : GroupsAt w a l) (hok : l.all gOk = true) :
    Calls Try.prog 52 #[.slice a len cap, .int .i64 0, .func (.func 53) #[] #[]] w fun e w' => e = .returned (.int .i64 (sumMaxG l)) ∧ Below w.heap.size w w' := by
  refine (fold52_any a len cap l _ _ (fun i v => v = .int .i64 (sumMaxG (l.take i))) w hlen (by omega) hl ⟨53, #[], run_into Try.func53 (by kernel_rfl) rfl, rfl, ?_⟩ (by simp [sumMaxG])).mono ?_
  · rintro i h v w' rfl _
    have hb := gOk_bd (all_at hok i h)
    have hs := sumMaxG_bd l hok i
    refine (clo53_any _ _ _ (by omega) (by omega) (by omega) (by omega)).mono ?_
    rintro e w2 ⟨rfl, hb⟩
    exact ⟨_, rfl, by dsimp only; unfold sumMaxG; rw [take_sum _ _ _ h], hb⟩
  · rintro e w' ⟨v, rfl, rfl, hb⟩
    exact ⟨by rw [List.take_of_length_le (by omega)], hb⟩
theorem foldG_boot (a : Option Addr) (len cap : Nat) (l : List Gp) (w : World) (hlen : l.length = len) (hn : len ≤ 3) (hl : GroupsAt w a l) :
    Calls Try.prog 52 #[.slice a len cap, .int .i64 0, .func (.func 73) #[] #[]] w fun e w' => e = .returned (.int .i64 (mostBoot l)) ∧ Below w.heap.size w w' := by
  refine (fold52_any a len cap l _ _ (fun i v => v = .int .i64 (mostBoot (l.take i))) w hlen (by omega) hl ⟨73, #[], run_into Try.func73 (by kernel_rfl) rfl, rfl, ?_⟩ (by simp [mostBoot])).mono ?_
  · rintro i h v w' rfl _
    refine (clo73_any _ _ _).mono ?_
    rintro e w2 ⟨rfl, hb⟩
    exact ⟨_, rfl, by dsimp only; unfold mostBoot; rw [take_foldl _ _ _ _ h], hb⟩
  · rintro e w' ⟨v, rfl, rfl, hb⟩
    exact ⟨by rw [List.take_of_length_le (by omega)], hb⟩
theorem foldW_most (a : Option Addr) (len cap : Nat) (l : List Wk) (w : World) (hlen : l.length = len) (hn : len ≤ 3) (hl : WorksAt w a l) :
    Calls Try.prog 54 #[.slice a len cap, .agg #[.int .i64 0, .int .i64 0], .func (.func 55) #[] #[]] w fun e w' => e = .returned (.agg #[.int .i64 (mostC l), .int .i64 (mostM l)]) ∧ Below w.heap.size w w' := by
  refine (fold54_any a len cap l 0 0 _ (fun i v => v = .agg #[.int .i64 (mostC (l.take i)), .int .i64 (mostM (l.take i))]) w hlen (by omega) hl ⟨55, #[], run_into Try.func55 (by kernel_rfl) rfl, rfl, ?_⟩ (by simp [mostC, mostM]) (fun i v h => ⟨_, _, h⟩)).mono ?_
  · rintro i h v w' rfl _
    refine (clo55_any _ _ _ _).mono ?_
    rintro e w2 ⟨rfl, hb⟩
    exact ⟨_, rfl, by dsimp only; unfold mostC mostM; rw [take_foldl _ _ _ _ h, take_foldl _ _ _ _ h], hb⟩
  · rintro e w' ⟨v, rfl, rfl, hb⟩
    exact ⟨by rw [List.take_of_length_le (by omega)], hb⟩

end Go.Proofs.Ytmcpggbibonolaa
