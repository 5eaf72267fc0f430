/- The number that the law draws. -/
import Derived.Test.YtllcpchojjlnhaaL
import Derived.Test.YtllcpchojjlnhaaEx
namespace Go.Proofs.Ytllcpchojjlnhaa
open Go.RowKit

theorem num_fits (r s ll cc : Nat) (p lo hi : Int) (xa : Option Addr) (len cap : Nat) (f : Nat → Int) (W : World) (cs : Array Value) (hR : Reader W r xa len cap f p) (hp0 : 0 ≤ p) (hp1 : p ≤ 100000) (hl0 : 0 < ll) (hl1 : ll ≤ 10000)
    (hs : s = W.heap.size) (hcs : ∀ i, i < ll → ∃ v, cs[i]? = some (.int .i64 v) ∧ lo ≤ v ∧ v ≤ hi) :
    Calls Try.prog 12 #[.pointer (some ⟨r, 0, none⟩), .slice (some ⟨s, 0, none⟩) ll cc] (W.alloc (.cells cs 3)) fun e w' => ∃ v, e = .returned (.int .i64 v) ∧ (lo ≤ v ∧ v ≤ hi) ∧ But r W w' := by
  subst hs
  have hb : Below W.heap.size W (W.alloc (.cells cs 3)) := by go_grown
  have hg : ∀ i, i < ll → (W.alloc (.cells cs 3)).cell? ⟨W.heap.size, 0 + i, none⟩ = some (.int .i64 (match cs[i]? with | some (.int .i64 v) => v | _ => 0)) := fun i hi => by
    obtain ⟨v, hv, _⟩ := hcs i hi
    rw [hv, Nat.zero_add]
    simp [go_sem, hv]
  refine (num_any r W.heap.size 0 ll cc p xa len cap f _ _ (hR.keep hb) hp0 hp1 hl0 hl1 (by have := hR.lt; omega) (by simp) hg).mono ?_
  rintro e w' ⟨i, hi, rfl, hR', hB⟩
  refine ⟨_, rfl, ?_, (But.of_below hb).trans hB⟩
  obtain ⟨v, hv, hb⟩ := hcs i hi
  rw [hv]
  exact hb

theorem fit8 {a b c d e g h k lo hi : Int} (h1 : lo ≤ a ∧ a ≤ hi) (h2 : lo ≤ b ∧ b ≤ hi) (h3 : lo ≤ c ∧ c ≤ hi) (h4 : lo ≤ d ∧ d ≤ hi) (h5 : lo ≤ e ∧ e ≤ hi) (h6 : lo ≤ g ∧ g ≤ hi) (h7 : lo ≤ h ∧ h ≤ hi) (h8 : lo ≤ k ∧ k ≤ hi) :
    ∀ i, i < 8 → ∃ v, (#[Value.int .i64 a, .int .i64 b, .int .i64 c, .int .i64 d, .int .i64 e, .int .i64 g, .int .i64 h, .int .i64 k] : Array Value)[i]? = some (.int .i64 v) ∧ lo ≤ v ∧ v ≤ hi := by
  intro i hi
  match i, hi with
  | 0, _ => exact ⟨_, rfl, h1⟩
  | 1, _ => exact ⟨_, rfl, h2⟩
  | 2, _ => exact ⟨_, rfl, h3⟩
  | 3, _ => exact ⟨_, rfl, h4⟩
  | 4, _ => exact ⟨_, rfl, h5⟩
  | 5, _ => exact ⟨_, rfl, h6⟩
  | 6, _ => exact ⟨_, rfl, h7⟩
  | 7, _ => exact ⟨_, rfl, h8⟩

set_option maxRecDepth 100000 in
set_option maxHeartbeats 1000000 in
theorem draw_any (xa : Option Addr) (len cap : Nat) (f : Nat → Int) (w : World) (hb : Bytes w xa len cap f) :
    Calls Try.prog 5 #[.slice xa len cap] w fun e w' => ∃ n : Int, e = .returned (.int .i64 n) ∧ (-1 ≤ n ∧ n ≤ 123456) ∧ Below w.heap.size w w' := by
  have hR := hb.reader
  have hop := open_any xa len cap w hb.1 hb.2.1
  clear hb
  go_enter Try.func5, Try.ntmps5
  go_wp2_with (go_at_call 11; refine Calls.mono hop ?_; rintro e w1 ⟨rfl, c, rfl⟩)
  refine (pick_any w.heap.size 0 720 xa (min len 2000) c f _ (hR c) (by omega) (by omega) (by omega) (by omega)).mono ?_
  rintro e w2 ⟨k, rfl, k0, k1, hR2, hB2⟩
  dsimp only
  have hs2 := hB2.size
  have HB2 := hide hB2
  have HR2 := hide hR2
  clear hB2 hR2 hR hop
  go_wp2_with fail
  refine (num_fits w.heap.size w2.heap.size 8 8 1 (-1) 123456 xa (min len 2000) c f w2 _ HR2.out (by omega) (by omega) (by omega) (by omega) rfl (fit8 (by omega) (by omega) (by omega) (by omega) (by omega) (by omega) (by omega) (by omega))).mono ?_
  rintro e w3 ⟨n, rfl, hn, hB3⟩
  dsimp only
  go_wp2
  go_ret
  exact ⟨n, rfl, hn, ((Below.refl _ w).alloc (Nat.le_refl _) _).trans ((HB2.out.trans hB3).below (Nat.le_refl _) (by simp))⟩
end Go.Proofs.Ytllcpchojjlnhaa
