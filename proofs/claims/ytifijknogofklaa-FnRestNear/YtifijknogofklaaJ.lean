/- The drawn sizes. -/
import Derived.Test.YtifijknogofklaaI
namespace Go.Proofs.Ytifijknogofklaa
open Go.RowKit

/-- What came in: nil, or a row of bytes. -/
def IsRow (w : World) (a : Option Addr) (len cap : Nat) (zs : List Int) : Prop :=
  (a = none ∧ len = 0 ∧ cap = 0 ∧ zs = []) ∨
  ∃ x, a = some x ∧ len ≤ cap ∧ cap ≤ maxLen ∧ zs.length = cap ∧ (∀ i, i < zs.length → w.cell? (x.add i) = some (.int .u8 (zs.getD i 0))) ∧ ∀ n ∈ zs, (Lit.int .u8 n).wf = true

set_option maxHeartbeats 1000000 in
theorem open_any (a : Option Addr) (len cap : Nat) (w : World) (hc : len ≤ cap) (hcap : cap ≤ maxLen) :
    Calls Try.prog 20 #[.slice a len cap] w fun e w' => e = .returned (.pointer (some ⟨w.heap.size, 0, none⟩)) ∧ ∃ c, w' = w.alloc (.cells #[.slice a (min len 2000) c, .int .i64 0] 103) := by
  unfold maxLen at hcap
  by_cases h : 2000 < len
  · have hm : min len 2000 = 2000 := by omega
    rw [hm]; clear hm
    go_enter Try.func20, Try.ntmps20
    go_wp2
    go_ret
    exact ⟨rfl, _, rfl⟩
  · have hm : min len 2000 = len := by omega
    rw [hm]; clear hm
    go_enter Try.func20, Try.ntmps20
    go_wp2
    go_ret
    exact ⟨rfl, _, rfl⟩

theorem Reader.lt {W : World} {r : Nat} {xa : Option Addr} {len cap : Nat} {f : Nat → Int} {p : Int} (h : Reader W r xa len cap f p) : r < W.heap.size := h.2.2.2.2.2.1

theorem num_lit (r s ll cc : Nat) (p : Int) (xa : Option Addr) (len cap : Nat) (f : Nat → Int) (W : World) (cs : Array Value) (hR : Reader W r xa len cap f p) (hp0 : 0 ≤ p) (hp1 : p ≤ 100000) (hl0 : 0 < ll) (hl1 : ll ≤ 10000)
    (hs : s = W.heap.size) (hcs : ∀ i, i < ll → ∃ v, cs[i]? = some (.int .i64 v)) :
    Calls Try.prog 54 #[.pointer (some ⟨r, 0, none⟩), .slice (some ⟨s, 0, none⟩) ll cc] (W.alloc (.cells cs 3)) fun e w' => ∃ v, e = .returned (.int .i64 v) ∧ Reader w' r xa len cap f (p + 1) ∧ But r W w' ∧ W.heap.size < w'.heap.size := by
  subst hs
  have hb : Below W.heap.size W (W.alloc (.cells cs 3)) := by go_grown
  have hg : ∀ i, i < ll → (W.alloc (.cells cs 3)).cell? ⟨W.heap.size, 0 + i, none⟩ = some (.int .i64 (match cs[i]? with | some (.int .i64 v) => v | _ => 0)) := fun i hi => by
    obtain ⟨v, hv⟩ := hcs i hi
    rw [hv, Nat.zero_add]
    simp [go_sem, hv]
  refine (num_any r W.heap.size 0 ll cc p xa len cap f _ _ (hR.keep hb) hp0 hp1 hl0 hl1 (by have := hR.lt; omega) (by simp) hg).mono ?_
  rintro e w' ⟨i, _, rfl, hR', hB⟩
  exact ⟨_, rfl, hR', (But.of_below hb).trans hB, by have := hB.size; simp at this; omega⟩
end Go.Proofs.Ytifijknogofklaa
