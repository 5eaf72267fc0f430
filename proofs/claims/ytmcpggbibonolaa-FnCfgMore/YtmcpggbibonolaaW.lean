/- What is asked, whole: whether there is room. -/
import Derived.Test.YtmcpggbibonolaaKeep
namespace Go.Proofs.Ytmcpggbibonolaa
open Go.RowKit

theorem slotI_bd (a b : Int) (h1 : 0 ≤ a) (h3 : 0 ≤ b) (h4 : b ≤ 10000) : 0 ≤ slotI a b ∧ slotI a b ≤ 10000 := by
  unfold slotI
  split
  · omega
  · have := div_le_tt a b (by omega) h3 h4; omega
theorem slotsI_bd (a b c d : Int) : 0 ≤ slotsI a b c d ∧ slotsI a b c d ≤ 10000 := by
  unfold slotsI
  split
  · rename_i h
    simp only [Bool.and_eq_true, ok_iff] at h
    have h1 := slotI_bd a c (by omega) (by omega) (by omega)
    have h2 := slotI_bd b d (by omega) (by omega) (by omega)
    unfold minI
    split <;> omega
  · omega
theorem mul_bd2 (a b A B : Int) (h0 : 0 ≤ a) (h1 : a ≤ A) (h2 : 0 ≤ b) (h3 : b ≤ B) : 0 ≤ a * b ∧ a * b ≤ A * B :=
  ⟨Int.mul_nonneg h0 h2, Int.mul_le_mul h1 h3 h2 (by omega)⟩

def roomG (p mc mm : Int) (g : Gp) : Bool := decide (p ≤ slotsI mc mm g.cpu g.mem * g.max)
def roomyB (c : Cf) : Bool := cfgOk c && c.groups.any (roomG (podsOf c) (mostOfC c) (mostOfM c))

set_option maxRecDepth 100000 in
set_option maxHeartbeats 400000 in
theorem clo48_any (r : Bool) (g : Gp) (A B : Nat) (mc mm p : Int) (w : World) (hA : A < w.heap.size) (hB : B < w.heap.size) (c0 : w.cell? ⟨A, 0, none⟩ = some (.int .i64 mc)) (c1 : w.cell? ⟨A, 1, none⟩ = some (.int .i64 mm)) (c2 : w.cell? ⟨B, 0, none⟩ = some (.int .i64 p))
    (h0 : 0 ≤ g.max) (h1 : g.max ≤ 8) :
    Calls Try.prog 48 #[.bool r, g.v, .pointer (some ⟨A, 0, none⟩), .pointer (some ⟨B, 0, none⟩)] w fun e w' => e = .returned (.bool (r || roomG p mc mm g)) ∧ Below w.heap.size w w' := by
  have hs := slotsI_bd mc mm g.cpu g.mem
  obtain ⟨m1, m2⟩ := mul_bd2 (slotsI mc mm g.cpu g.mem) g.max 10000 8 hs.1 hs.2 h0 h1
  have a0 := (Below.refl w.heap.size w).alloc (Nat.le_refl _) (.cells #[.int .i64 g.cpu, .int .i64 g.mem, .int .i64 g.min, .int .i64 g.max, .int .i64 g.boot] 37)
  cases r
  · go_enter Try.func48, Try.ntmps48
    go_wp2
    refine wp_gen (fun W => Below w.heap.size w W ∧ w.heap.size < W.heap.size ∧ W.cell? ⟨A, 0, none⟩ = some (.int .i64 mc) ∧ W.cell? ⟨A, 1, none⟩ = some (.int .i64 mm) ∧ W.cell? ⟨B, 0, none⟩ = some (.int .i64 p) ∧ W.cell? ⟨w.heap.size, 0, none⟩ = some (.int .i64 g.cpu) ∧ W.cell? ⟨w.heap.size, 1, none⟩ = some (.int .i64 g.mem) ∧ W.cell? ⟨w.heap.size, 3, none⟩ = some (.int .i64 g.max)) ⟨a0, by simp [*, go_sem]⟩ ?_
    rintro W ⟨hW, hz, hcs⟩
    go_region_held3 (fun w' => Below W.heap.size W w' ∧ w'.cell? ⟨A, 0, none⟩ = some (.int .i64 mc) ∧ w'.cell? ⟨A, 1, none⟩ = some (.int .i64 mm) ∧ w'.cell? ⟨B, 0, none⟩ = some (.int .i64 p) ∧ w'.cell? ⟨w.heap.size, 0, none⟩ = some (.int .i64 g.cpu) ∧ w'.cell? ⟨w.heap.size, 1, none⟩ = some (.int .i64 g.mem) ∧ w'.cell? ⟨w.heap.size, 3, none⟩ = some (.int .i64 g.max))
      (first | (exact start_6 hcs) | (refine keep_6 (by omega) (by omega) (by omega) (by omega) (by omega) (by omega) hb ?_; assumption))
      (first | (go_at_call 22; refine (implSlots_any _ _ _ _ _).mono ?_; rintro e w1 ⟨rfl, hb⟩))
    all_goals go_wp2
    all_goals go_ret
    all_goals rename_i hh
    all_goals exact ⟨ret_bool (by simp only [roomG, Bool.false_or]; go_unwrap), bel_trans hW hh.1⟩
  · go_enter Try.func48, Try.ntmps48
    go_wp2
    go_quiet (fail)
    go_wp2
    all_goals go_ret
    all_goals exact ⟨rfl, bel_drewN a0 _⟩

theorem take_any {α : Type} (p : α → Bool) (l : List α) (i : Nat) (h : i < l.length) : ((l.take i).any p || p l[i]) = (l.take (i + 1)).any p := by
  rw [List.take_succ_eq_append_getElem h, List.any_append]; simp

theorem foldG_room (a : Option Addr) (len cap : Nat) (l : List Gp) (A B : Nat) (mc mm p : Int) (w : World) (hlen : l.length = len) (hn : len ≤ 3) (hl : GroupsAt w a l) (hok : l.all gOk = true)
    (hA : A < w.heap.size) (hB : B < w.heap.size) (c0 : w.cell? ⟨A, 0, none⟩ = some (.int .i64 mc)) (c1 : w.cell? ⟨A, 1, none⟩ = some (.int .i64 mm)) (c2 : w.cell? ⟨B, 0, none⟩ = some (.int .i64 p)) :
    Calls Try.prog 47 #[.slice a len cap, .bool false, .func (.func 48) #[] #[.pointer (some ⟨A, 0, none⟩), .pointer (some ⟨B, 0, none⟩)]] w fun e w' => e = .returned (.bool (l.any (roomG p mc mm))) ∧ Below w.heap.size w w' := by
  refine (fold47_any a len cap l _ _ (fun i v => v = .bool ((l.take i).any (roomG p mc mm))) w hlen (by omega) hl ⟨48, _, run_into Try.func48 (by kernel_rfl) rfl, rfl, ?_⟩ (by simp)).mono ?_
  · rintro i h v w' rfl hb
    have hg := gOk_bd (all_at hok i h)
    have hs := hb.size
    refine (clo48_any _ l[i] A B mc mm p _ (by omega) (by omega) (by rw [(bcell hb).1 _ _ hA]; exact c0) (by rw [(bcell hb).1 _ _ hA]; exact c1) (by rw [(bcell hb).1 _ _ hB]; exact c2) (by omega) (by omega)).mono ?_
    rintro e w2 ⟨rfl, hb⟩
    exact ⟨_, rfl, by rw [take_any], hb⟩
  · rintro e w' ⟨v, rfl, rfl, hb⟩
    exact ⟨by rw [List.take_of_length_le (by omega)], hb⟩

set_option maxRecDepth 100000 in
set_option maxHeartbeats 1000000 in
theorem roomy_any (v : Value) (c : Cf) (w : World) (h : CfgAt w v c) :
    Calls Try.prog 17 #[v] w fun e w' => e = .returned (.bool (roomyB c)) ∧ Below w.heap.size w w' := by
  have H := hide h
  obtain ⟨aw, lw, cw, ag, lg, cg, rfl, h4, ⟨h1, h2, h3⟩⟩ := h
  have H1 := hide h1
  have H3 := hide h3
  clear h1 h3 h4
  cases hok : cfgOk c
  · have hp : roomyB c = false := by simp [roomyB, hok]
    go_enter Try.func17, Try.ntmps17
    go_wp2_with (first | (go_at_call 15; refine (cfgOk_any _ c _ (H.out.keep (by go_grown))).mono ?_; rintro e w1 ⟨rfl, hb⟩; obtain ⟨hc, hf⟩ := bcell hb))
    all_goals go_ret
    all_goals exact ⟨ret_bool hp.symm, bel_trans (by go_grown) hb⟩
  · have hp : Hid (roomyB c = c.groups.any (roomG (podsOf c) (mostOfC c) (mostOfM c))) := by simp [roomyB, hok, Hid]
    obtain ⟨k1, k2, k3⟩ := ok_of_groups hok
    have K1 := hide k1
    rw [H1.out] at k2 k3
    clear k1
    go_enter Try.func17, Try.ntmps17
    go_wp2_with (first | (go_at_call 15; refine (cfgOk_any _ c _ (H.out.keep (by go_grown))).mono ?_; rintro e w1 ⟨rfl, hb⟩; obtain ⟨hc, hf⟩ := bcell hb; have hs : w.heap.size < w1.heap.size := (by have := hb.size; simp at this; omega)))
    refine wp_gen (fun W => Below w.heap.size w W ∧ w.heap.size < W.heap.size ∧ W.cell? ⟨w.heap.size, 0, none⟩ = some (.slice aw lw cw) ∧ W.cell? ⟨w.heap.size, 1, none⟩ = some (.slice ag lg cg) ∧ W.cell? ⟨w.heap.size, 2, none⟩ = some (.int .i64 c.start) ∧ W.cell? ⟨w.heap.size, 3, none⟩ = some (.int .i64 c.calm) ∧ W.cell? ⟨w.heap.size, 4, none⟩ = some (.int .i64 c.idle) ∧ W.cell? ⟨w.heap.size, 5, none⟩ = some (.int .i64 c.back)) ⟨bel_trans (by go_grown) hb, by simp [*, go_sem]⟩ ?_
    clear hc hf hb hs
    rintro W ⟨hW, hz, hcs⟩
    have hS0 := start_6 hcs
    have hSW := self_6 hcs
    go_region_held3 (fun w' => Below W.heap.size W w' ∧ w'.cell? ⟨w.heap.size, 0, none⟩ = some (.slice aw lw cw) ∧ w'.cell? ⟨w.heap.size, 1, none⟩ = some (.slice ag lg cg) ∧ w'.cell? ⟨w.heap.size, 2, none⟩ = some (.int .i64 c.start) ∧ w'.cell? ⟨w.heap.size, 3, none⟩ = some (.int .i64 c.calm) ∧ w'.cell? ⟨w.heap.size, 4, none⟩ = some (.int .i64 c.idle) ∧ w'.cell? ⟨w.heap.size, 5, none⟩ = some (.int .i64 c.back))
      (repeat (first | assumption | (refine drew_6 ?_) | (refine alloc_6 hz hz hz hz hz hz ?_) | (refine set_6 hz hz hz hz hz hz (by go_size) ?_)))
      (first | (go_at_call 21; refine (most_any _ c _ (H.out.held hW (by assumption))).mono ?_; rintro e w1 ⟨rfl, hb⟩; have hS1 := keep_6 hz hz hz hz hz hz hb (by assumption); have hq1 := hS1.1.size; have hq1' := hb.size; (try simp at hq1'); (try (refine cut_ (p := w1.cell? ⟨W.heap.size, 0, none⟩ = some (.int .i64 0)) ?_ ?_; (· (refine ((bcell hb).1 _ _ ?_).trans ?_; (· (go_size)); (· (simp [go_sem, *]; done)))); intro pc00)); (try (refine cut_ (p := w1.frozen? ⟨W.heap.size, 0, none⟩ = false) ?_ ?_; (· (refine ((bcell hb).2 _ _ ?_).trans ?_; (· (go_size)); (· (simp [go_sem, *]; done)))); intro pf00)); (try (refine cut_ (p := w1.cell? ⟨W.heap.size, 1, none⟩ = some (.int .i64 0)) ?_ ?_; (· (refine ((bcell hb).1 _ _ ?_).trans ?_; (· (go_size)); (· (simp [go_sem, *]; done)))); intro pc01)); (try (refine cut_ (p := w1.frozen? ⟨W.heap.size, 1, none⟩ = false) ?_ ?_; (· (refine ((bcell hb).2 _ _ ?_).trans ?_; (· (go_size)); (· (simp [go_sem, *]; done)))); intro pf01)); (try (refine cut_ (p := W.heap.size < w1.heap.size) ?_ ?_; (· (omega)); intro pl0)); (try (refine cut_ (p := w1.cell? ⟨W.heap.size + 1, 0, none⟩ = some (.int .i64 0)) ?_ ?_; (· (refine ((bcell hb).1 _ _ ?_).trans ?_; (· (go_size)); (· (simp [go_sem, *]; done)))); intro pc10)); (try (refine cut_ (p := w1.frozen? ⟨W.heap.size + 1, 0, none⟩ = false) ?_ ?_; (· (refine ((bcell hb).2 _ _ ?_).trans ?_; (· (go_size)); (· (simp [go_sem, *]; done)))); intro pf10)); (try (refine cut_ (p := w1.cell? ⟨W.heap.size + 1, 1, none⟩ = some (.int .i64 0)) ?_ ?_; (· (refine ((bcell hb).1 _ _ ?_).trans ?_; (· (go_size)); (· (simp [go_sem, *]; done)))); intro pc11)); (try (refine cut_ (p := w1.frozen? ⟨W.heap.size + 1, 1, none⟩ = false) ?_ ?_; (· (refine ((bcell hb).2 _ _ ?_).trans ?_; (· (go_size)); (· (simp [go_sem, *]; done)))); intro pf11)); (try (refine cut_ (p := W.heap.size + 1 < w1.heap.size) ?_ ?_; (· (omega)); intro pl1))) | (go_at_call 19; refine (pods_any _ c _ (H.out.held hW (by assumption))).mono ?_; rintro e w2 ⟨rfl, hb2⟩; have hS2 := keep_6 hz hz hz hz hz hz hb2 (by assumption); have hq2 := hS2.1.size; have hq2' := hb2.size; (try simp at hq2'); (try (refine cut_ (p := w2.cell? ⟨W.heap.size, 0, none⟩ = some (.int .i64 0)) ?_ ?_; (· (refine ((bcell hb2).1 _ _ ?_).trans ?_; (· (go_size)); (· (simp [go_sem, *]; done)))); intro qc00)); (try (refine cut_ (p := w2.frozen? ⟨W.heap.size, 0, none⟩ = false) ?_ ?_; (· (refine ((bcell hb2).2 _ _ ?_).trans ?_; (· (go_size)); (· (simp [go_sem, *]; done)))); intro qf00)); (try (refine cut_ (p := w2.cell? ⟨W.heap.size, 1, none⟩ = some (.int .i64 0)) ?_ ?_; (· (refine ((bcell hb2).1 _ _ ?_).trans ?_; (· (go_size)); (· (simp [go_sem, *]; done)))); intro qc01)); (try (refine cut_ (p := w2.frozen? ⟨W.heap.size, 1, none⟩ = false) ?_ ?_; (· (refine ((bcell hb2).2 _ _ ?_).trans ?_; (· (go_size)); (· (simp [go_sem, *]; done)))); intro qf01)); (try (refine cut_ (p := W.heap.size < w2.heap.size) ?_ ?_; (· (omega)); intro ql0)); (try (refine cut_ (p := w2.cell? ⟨W.heap.size + 1, 0, none⟩ = some (.int .i64 0)) ?_ ?_; (· (refine ((bcell hb2).1 _ _ ?_).trans ?_; (· (go_size)); (· (simp [go_sem, *]; done)))); intro qc10)); (try (refine cut_ (p := w2.frozen? ⟨W.heap.size + 1, 0, none⟩ = false) ?_ ?_; (· (refine ((bcell hb2).2 _ _ ?_).trans ?_; (· (go_size)); (· (simp [go_sem, *]; done)))); intro qf10)); (try (refine cut_ (p := w2.cell? ⟨W.heap.size + 1, 1, none⟩ = some (.int .i64 0)) ?_ ?_; (· (refine ((bcell hb2).1 _ _ ?_).trans ?_; (· (go_size)); (· (simp [go_sem, *]; done)))); intro qc11)); (try (refine cut_ (p := w2.frozen? ⟨W.heap.size + 1, 1, none⟩ = false) ?_ ?_; (· (refine ((bcell hb2).2 _ _ ?_).trans ?_; (· (go_size)); (· (simp [go_sem, *]; done)))); intro qf11)); (try (refine cut_ (p := W.heap.size + 1 < w2.heap.size) ?_ ?_; (· (omega)); intro ql1)); (try (refine cut_ (p := w2.cell? ⟨w1.heap.size, 0, none⟩ = some (.int .i64 0)) ?_ ?_; (· (refine ((bcell hb2).1 _ _ ?_).trans ?_; (· (go_size)); (· (simp [go_sem, *]; done)))); intro qc20)); (try (refine cut_ (p := w2.frozen? ⟨w1.heap.size, 0, none⟩ = false) ?_ ?_; (· (refine ((bcell hb2).2 _ _ ?_).trans ?_; (· (go_size)); (· (simp [go_sem, *]; done)))); intro qf20)); (try (refine cut_ (p := w2.cell? ⟨w1.heap.size, 1, none⟩ = some (.int .i64 0)) ?_ ?_; (· (refine ((bcell hb2).1 _ _ ?_).trans ?_; (· (go_size)); (· (simp [go_sem, *]; done)))); intro qc21)); (try (refine cut_ (p := w2.frozen? ⟨w1.heap.size, 1, none⟩ = false) ?_ ?_; (· (refine ((bcell hb2).2 _ _ ?_).trans ?_; (· (go_size)); (· (simp [go_sem, *]; done)))); intro qf21)); (try (refine cut_ (p := w1.heap.size < w2.heap.size) ?_ ?_; (· (omega)); intro ql2)); (try (refine cut_ (p := w2.cell? ⟨w1.heap.size + 1, 0, none⟩ = some (.int .i64 0)) ?_ ?_; (· (refine ((bcell hb2).1 _ _ ?_).trans ?_; (· (go_size)); (· (simp [go_sem, *]; done)))); intro qc30)); (try (refine cut_ (p := w2.frozen? ⟨w1.heap.size + 1, 0, none⟩ = false) ?_ ?_; (· (refine ((bcell hb2).2 _ _ ?_).trans ?_; (· (go_size)); (· (simp [go_sem, *]; done)))); intro qf30)); (try (refine cut_ (p := w2.cell? ⟨w1.heap.size + 1, 1, none⟩ = some (.int .i64 0)) ?_ ?_; (· (refine ((bcell hb2).1 _ _ ?_).trans ?_; (· (go_size)); (· (simp [go_sem, *]; done)))); intro qc31)); (try (refine cut_ (p := w2.frozen? ⟨w1.heap.size + 1, 1, none⟩ = false) ?_ ?_; (· (refine ((bcell hb2).2 _ _ ?_).trans ?_; (· (go_size)); (· (simp [go_sem, *]; done)))); intro qf31)); (try (refine cut_ (p := w1.heap.size + 1 < w2.heap.size) ?_ ?_; (· (omega)); intro ql3))))
    all_goals rename_i hh
    all_goals go_wp2_with fail
    all_goals refine (foldG_room _ _ _ c.groups _ _ (mostOfC c) (mostOfM c) (podsOf c) _ H1.out k3 (H3.out.keep (bel_trans hW hh.1)) K1.out ?_ ?_ ?_ ?_ ?_).mono ?_
    all_goals first | (go_size; done) | (simp [*, go_sem]; done) | skip
    all_goals rintro e w9 ⟨rfl, hb9⟩
    all_goals go_wp2
    all_goals go_ret
    all_goals exact ⟨ret_bool hp.out.symm, bel_trans (bel_trans hW hh.1) hb9⟩

end Go.Proofs.Ytmcpggbibonolaa
