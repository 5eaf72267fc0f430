/- The two draws of the laws over what is asked. -/
import Derived.Test.YtmcpggbibonolaaDe
import Derived.Test.YtmcpggbibonolaaL
namespace Go.Proofs.Ytmcpggbibonolaa
open Go.RowKit

theorem lit7d : ∀ i, i < 7 → ∃ v, (#[Value.int .i64 0, .int .i64 0, .int .i64 1, .int .i64 5, .int .i64 100, .int .i64 101, .int .i64 (-1)] : Array Value)[i]? = some (.int .i64 v) ∧ -1 ≤ v ∧ v ≤ 101 := by
  intro i hi
  match i, hi with
  | 0, _ => exact ⟨_, rfl, by omega, by omega⟩
  | 1, _ => exact ⟨_, rfl, by omega, by omega⟩
  | 2, _ => exact ⟨_, rfl, by omega, by omega⟩
  | 3, _ => exact ⟨_, rfl, by omega, by omega⟩
  | 4, _ => exact ⟨_, rfl, by omega, by omega⟩
  | 5, _ => exact ⟨_, rfl, by omega, by omega⟩
  | 6, _ => exact ⟨_, rfl, by omega, by omega⟩
theorem Bytes.rd {W : World} {xa : Option Addr} {len cap : Nat} {f : Nat → Int} (h : Bytes W xa len cap f) (c : Nat) : Rd (W.alloc (.cells #[.slice xa (min len 2000) c, .int .i64 0] 87)) W.heap.size 0 := ⟨_, _, _, _, 0, h.reader c, by omega, by omega⟩
theorem open_rd (xa : Option Addr) (len cap : Nat) (f : Nat → Int) (W : World) (h : Bytes W xa len cap f) :
    Calls Try.prog 33 #[.slice xa len cap] W fun e w' => ∃ r, e = .returned (.pointer (some ⟨r, 0, none⟩)) ∧ r = W.heap.size ∧ Rd w' r 0 ∧ Below W.heap.size W w' ∧ r < w'.heap.size := by
  refine (open_any xa len cap W h.1 h.2.1).mono ?_
  rintro e w' ⟨rfl, c, rfl⟩
  exact ⟨_, rfl, rfl, h.rd c, by go_grown, (h.rd c).lt⟩

set_option maxRecDepth 100000 in
set_option maxHeartbeats 400000 in
theorem drawRoomy_any (xa : Option Addr) (len cap : Nat) (f : Nat → Int) (w : World) (hby : Bytes w xa len cap f) :
    Calls Try.prog 24 #[.slice xa len cap] w fun e w' => ∃ v c, e = .returned v ∧ CfgAt w' v c ∧ c.works.length ≤ 3 ∧ c.groups.length ≤ 3 ∧ Below w.heap.size w w' := by
  go_enter Try.func24, Try.ntmps24
  go_wp2_with fail
  have hby0 := hby.keep (w' := w.alloc (.cells #[.slice none 0 0, .slice none 0 0, .int .i64 0, .int .i64 0, .int .i64 0, .int .i64 0] 26)) (by go_grown)
  refine (open_rd xa len cap f _ hby0).mono ?_
  rintro e w0 ⟨r, rfl, hr, hrd, hb0, hrl⟩
  simp at hr
  subst hr
  have hBN : Blk w0 w.heap.size #[.slice none 0 0, .slice none 0 0, .int .i64 0, .int .i64 0, .int .i64 0, .int .i64 0] 26 := (Blk.new w _ _).below hb0 (by simp)
  have hbw : Below w.heap.size w w0 := Below.trans (by go_grown) (hb0.mono (by simp))
  clear hby hby0 hb0
  go_wp2_with fail
  refine (l2Bent_any (w.heap.size + 1) 0 w0 hrd (by omega)).mono ?_
  rintro e w1 ⟨v, c, rfl, hF, l1, l2, hR1, hB1⟩
  have hBN1 := hBN.but hB1 (by omega)
  have bc := hBN1.cell
  have bf := hBN1.frozen
  obtain ⟨aw, lw, cw, ag, lg, cg, rfl, hh1, hh2⟩ := hF.1
  have hsz := hBN.lt
  clear hrd hBN hBN1 hR1 hh1 hh2
  try dsimp only
  repeat (first | go_values | go_skip | go_guarded | go_step | go_upon)
  refine bodyPost_ret (v := .agg #[.slice aw lw cw, .slice ag lg cg, .int .i64 c.start, .int .i64 c.calm, .int .i64 c.idle, .int .i64 c.back]) (by simp [results, Try.results24, go_sem, *]) rfl ⟨_, c, rfl, hF.2 w.heap.size _ (by omega) ?_, l1, l2, ?_⟩
  · exact ((((((But.refl w.heap.size w1).setCell (.inl rfl) _).setCell (.inl rfl) _).setCell (.inl rfl) _).setCell (.inl rfl) _).setCell (.inl rfl) _).setCell (.inl rfl) _
  · have hbe : Below w.heap.size w w1 := hbw.trans (hB1.below (by omega) (by omega))
    exact (((((hbe.setCell (Nat.le_refl _) _).setCell (Nat.le_refl _) _).setCell (Nat.le_refl _) _).setCell (Nat.le_refl _) _).setCell (Nat.le_refl _) _).setCell (Nat.le_refl _) _

set_option maxRecDepth 100000 in
set_option maxHeartbeats 400000 in
theorem drawBound_any (xa : Option Addr) (len cap : Nat) (f : Nat → Int) (w : World) (hby : Bytes w xa len cap f) :
    Calls Try.prog 12 #[.slice xa len cap] w fun e w' => ∃ v c n, e = .returned (.tuple #[v, .int .i64 n]) ∧ CfgAt w' v c ∧ c.works.length ≤ 3 ∧ c.groups.length ≤ 3 ∧ -1 ≤ n ∧ n ≤ 101 ∧ Below w.heap.size w w' := by
  go_enter Try.func12, Try.ntmps12
  go_wp2_with fail
  have hby0 := hby.keep (w' := w.alloc (.cells #[.slice none 0 0, .slice none 0 0, .int .i64 0, .int .i64 0, .int .i64 0, .int .i64 0] 26)) (by go_grown)
  refine (open_rd xa len cap f _ hby0).mono ?_
  rintro e w0 ⟨r, rfl, hr, hrd, hb0, hrl⟩
  simp at hr
  subst hr
  have hBN : Blk w0 w.heap.size #[.slice none 0 0, .slice none 0 0, .int .i64 0, .int .i64 0, .int .i64 0, .int .i64 0] 26 := (Blk.new w _ _).below hb0 (by simp)
  have hbw : Below w.heap.size w w0 := Below.trans (by go_grown) (hb0.mono (by simp))
  clear hby hby0 hb0
  go_wp2_with fail
  refine (numR (w.heap.size + 1) _ 7 _ _ (-1) 101 w0 _ hrd (by omega) (by omega) (by omega) rfl lit7d).mono ?_
  rintro e w9 ⟨n, rfl, n0, n1, hR0, hB0⟩
  have hBN0 := hBN.but hB0 (by omega)
  have hN0 := hBN0.lt
  go_wp2_with fail
  refine (l2Bent_any (w.heap.size + 1) _ w9 hR0 (by omega)).mono ?_
  rintro e w1 ⟨v, c, rfl, hF, l1, l2, hR1, hB1⟩
  have hBN1 := hBN0.but hB1 (by omega)
  have bc := hBN1.cell
  have bf := hBN1.frozen
  obtain ⟨aw, lw, cw, ag, lg, cg, rfl, hh1, hh2⟩ := hF.1
  have hBs := hB0.trans hB1
  have hsz := hB0.size
  clear hrd hBN hBN0 hBN1 hR0 hR1 hh1 hh2
  try dsimp only
  repeat (first | go_values | go_skip | go_guarded | go_step | go_upon)
  refine bodyPost_ret (v := .tuple #[.agg #[.slice aw lw cw, .slice ag lg cg, .int .i64 c.start, .int .i64 c.calm, .int .i64 c.idle, .int .i64 c.back], .int .i64 n]) (by simp [results, Try.results12, go_sem, *]) rfl ⟨_, c, n, rfl, hF.2 w.heap.size _ (by omega) ?_, l1, l2, n0, n1, ?_⟩
  · exact ((((((But.refl w.heap.size w1).setCell (.inl rfl) _).setCell (.inl rfl) _).setCell (.inl rfl) _).setCell (.inl rfl) _).setCell (.inl rfl) _).setCell (.inl rfl) _
  · have hbe : Below w.heap.size w w1 := hbw.trans (hBs.below (by omega) (by omega))
    exact (((((hbe.setCell (Nat.le_refl _) _).setCell (Nat.le_refl _) _).setCell (Nat.le_refl _) _).setCell (Nat.le_refl _) _).setCell (Nat.le_refl _) _).setCell (Nat.le_refl _) _
end Go.Proofs.Ytmcpggbibonolaa
