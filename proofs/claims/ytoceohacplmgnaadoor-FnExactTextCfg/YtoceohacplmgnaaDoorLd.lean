/- The exact laws over what is asked: their walks. -/
import Derived.Test.YtoceohacplmgnaaDoorLc
import Derived.Test.YtoceohacplmgnaaDoorSe
namespace Go.Proofs.YtoceohacplmgnaaDoor
open Go.RowKit

/-- What a walk knows of its box behind a call. -/
theorem boxes1 {w w1 : World} {a : Array Value} {Ta : TypeId} (hb : Below (w.alloc (.cells a Ta)).heap.size (w.alloc (.cells a Ta)) w1) :
    ((∀ k, w1.cell? ⟨w.heap.size, k, none⟩ = a[k]?) ∧ (∀ k, w1.frozen? ⟨w.heap.size, k, none⟩ = false)) ∧ Below w.heap.size w w1 ∧ w.heap.size < w1.heap.size := by
  have hs : w.heap.size + 1 ≤ w1.heap.size := by have := hb.size; simpa using this
  refine ⟨block_cells (T := Ta) ?_, bel_trans (by go_grown) hb, by omega⟩
  rw [hb.block _ (by simp), heap_alloc_new]

set_option maxRecDepth 100000 in
set_option maxHeartbeats 1000000 in
theorem szCfg_any (aw : Option Addr) (lw cw : Nat) (ag : Option Addr) (lg cg : Nat) (s k i b : Int) (w : World) (h1 : lw ≤ 9223372036854775807) (h2 : lg ≤ 9223372036854775807) :
    Calls Tryd.prog 8 #[.agg #[.slice aw lw cw, .slice ag lg cg, .int .i64 s, .int .i64 k, .int .i64 i, .int .i64 b], .int .i64 1048576] w fun e w' => ∃ r : Int, e = .returned (.int .i64 r) ∧ (0 ≤ r → lw ≤ 1048576 ∧ lg ≤ 1048576) ∧ Below w.heap.size w w' := by
  by_cases c1 : (1048576 : Int) - lw < 0
  · go_enter Tryd.func8, Tryd.ntmps8
    go_wp2_with (first | (go_at_call 27; refine (szWorks_any _ _ _ _ _ (by omega) (by omega) h1).mono ?_; rintro e w' ⟨rfl, rfl⟩))
    all_goals go_ret
    all_goals exact ⟨_, rfl, by intro hh; simp at hh, by go_grown⟩
  · by_cases c2 : (1048576 : Int) - lw - lg < 0
    · go_enter Tryd.func8, Tryd.ntmps8
      go_wp2_with (first | (go_at_call 27; refine (szWorks_any _ _ _ _ _ (by omega) (by omega) h1).mono ?_; rintro e w' ⟨rfl, rfl⟩) | (go_at_call 28; refine (szGroups_any _ _ _ _ _ (by omega) (by omega) h2).mono ?_; rintro e w' ⟨rfl, rfl⟩))
      all_goals go_ret
      all_goals exact ⟨_, rfl, by intro hh; simp at hh, by go_grown⟩
    · go_enter Tryd.func8, Tryd.ntmps8
      go_wp2_with (first | (go_at_call 27; refine (szWorks_any _ _ _ _ _ (by omega) (by omega) h1).mono ?_; rintro e w' ⟨rfl, rfl⟩) | (go_at_call 28; refine (szGroups_any _ _ _ _ _ (by omega) (by omega) h2).mono ?_; rintro e w' ⟨rfl, rfl⟩))
      all_goals go_ret
      all_goals exact ⟨_, rfl, by intro hh; omega, by go_grown⟩

end Go.Proofs.YtoceohacplmgnaaDoor
