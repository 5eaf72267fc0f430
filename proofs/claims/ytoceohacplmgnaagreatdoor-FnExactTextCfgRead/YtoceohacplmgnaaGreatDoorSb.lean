/- What is asked of a work: the document's condition. -/
import Derived.Test.YtoceohacplmgnaaGreatDoorSa
namespace Go.Proofs.YtoceohacplmgnaaGreatDoor
open Go.RowKit

set_option maxRecDepth 100000 in
set_option maxHeartbeats 4000000 in
theorem sWork_a (x : Wk) (w : World) (h1 : okB x.cpu x.mem = false) :
    Calls Tryz.prog 68 #[x.v] w fun e w' => e = .returned (.bool (wOk x)) ∧ Below w.heap.size w w' := by
  go_enter Tryz.func68, Tryz.ntmps68
  go_wp2_with (first | (go_at_call 79; refine (specOk_any _ _ _).mono ?_; rintro e w1 ⟨rfl, hb⟩; obtain ⟨hc, hf⟩ := bcell hb))
  all_goals go_ret
  all_goals refine ⟨ret_bool (eq_wOk ?_), bel_trans (by go_grown) hb⟩
  all_goals simp [h1]

set_option maxRecDepth 100000 in
set_option maxHeartbeats 4000000 in
theorem sWork_b (x : Wk) (w : World) (_h1 : okB x.cpu x.mem = true) (h2 : x.cpu = 0) (h3 : x.mem = 0) :
    Calls Tryz.prog 68 #[x.v] w fun e w' => e = .returned (.bool (wOk x)) ∧ Below w.heap.size w w' := by
  go_enter Tryz.func68, Tryz.ntmps68
  go_wp2_with (first | (go_at_call 79; refine (specOk_any _ _ _).mono ?_; rintro e w1 ⟨rfl, hb⟩; obtain ⟨hc, hf⟩ := bcell hb))
  all_goals go_ret
  all_goals refine ⟨ret_bool (eq_wOk ?_), bel_trans (by go_grown) hb⟩
  all_goals simp [h2, h3]

set_option maxRecDepth 100000 in
set_option maxHeartbeats 4000000 in
theorem sWork_n0 (x : Wk) (w : World) (h1 : okB x.cpu x.mem = true) (h2 : ¬ (x.cpu = 0 ∧ x.mem = 0))  (gn : ¬ (1 ≤ x.min)) :
    Calls Tryz.prog 68 #[x.v] w fun e w' => e = .returned (.bool (wOk x)) ∧ Below w.heap.size w w' := by
  have e2 : Hid (¬ (x.cpu = 0 ∧ x.mem = 0)) := h2
  have e1 := hide h1
  have fin : ∀ b : Bool, (b = true ↔ 1 ≤ x.min ∧ x.min ≤ x.max ∧ x.max ≤ 8 ∧ 1 ≤ x.target ∧ x.target < x.limit ∧ x.limit ≤ 10000 ∧ 0 ≤ x.tol ∧ x.tol ≤ 500 ∧ x.tol * x.target < 1000 * (x.limit - x.target) ∧ 0 ≤ x.rank ∧ x.rank ≤ 9) → b = wOk x :=
    fun b hb => eq_wOk (hb.trans ⟨fun h => ⟨e1.out, e2.out, h⟩, fun h => h.2.2⟩)
  have FIN := hide fin
  clear fin
  go_enter Tryz.func68, Tryz.ntmps68
  go_wp2_with (first | (go_at_call 79; refine (specOk_any _ _ _).mono ?_; rintro e w1 ⟨rfl, hb⟩; obtain ⟨hc, hf⟩ := bcell hb))
  all_goals go_ret
  all_goals refine ⟨ret_bool (FIN.out _ ?_), bel_trans (by go_grown) hb⟩
  all_goals simp only [Bool.false_eq_true]
  all_goals (refine ⟨fun hh => ?_, fun hh => ?_⟩ <;> first | exact hh.elim | omega)

set_option maxRecDepth 100000 in
set_option maxHeartbeats 4000000 in
theorem sWork_n1 (x : Wk) (w : World) (h1 : okB x.cpu x.mem = true) (h2 : ¬ (x.cpu = 0 ∧ x.mem = 0)) (g0 : 1 ≤ x.min) (gn : ¬ (x.min ≤ x.max)) :
    Calls Tryz.prog 68 #[x.v] w fun e w' => e = .returned (.bool (wOk x)) ∧ Below w.heap.size w w' := by
  have e2 : Hid (¬ (x.cpu = 0 ∧ x.mem = 0)) := h2
  have e1 := hide h1
  have fin : ∀ b : Bool, (b = true ↔ 1 ≤ x.min ∧ x.min ≤ x.max ∧ x.max ≤ 8 ∧ 1 ≤ x.target ∧ x.target < x.limit ∧ x.limit ≤ 10000 ∧ 0 ≤ x.tol ∧ x.tol ≤ 500 ∧ x.tol * x.target < 1000 * (x.limit - x.target) ∧ 0 ≤ x.rank ∧ x.rank ≤ 9) → b = wOk x :=
    fun b hb => eq_wOk (hb.trans ⟨fun h => ⟨e1.out, e2.out, h⟩, fun h => h.2.2⟩)
  have FIN := hide fin
  clear fin
  go_enter Tryz.func68, Tryz.ntmps68
  go_wp2_with (first | (go_at_call 79; refine (specOk_any _ _ _).mono ?_; rintro e w1 ⟨rfl, hb⟩; obtain ⟨hc, hf⟩ := bcell hb))
  all_goals go_ret
  all_goals refine ⟨ret_bool (FIN.out _ ?_), bel_trans (by go_grown) hb⟩
  all_goals simp only [Bool.false_eq_true]
  all_goals (refine ⟨fun hh => ?_, fun hh => ?_⟩ <;> first | exact hh.elim | omega)

set_option maxRecDepth 100000 in
set_option maxHeartbeats 4000000 in
theorem sWork_n2 (x : Wk) (w : World) (h1 : okB x.cpu x.mem = true) (h2 : ¬ (x.cpu = 0 ∧ x.mem = 0)) (g0 : 1 ≤ x.min) (g1 : x.min ≤ x.max) (gn : ¬ (x.max ≤ 8)) :
    Calls Tryz.prog 68 #[x.v] w fun e w' => e = .returned (.bool (wOk x)) ∧ Below w.heap.size w w' := by
  have e2 : Hid (¬ (x.cpu = 0 ∧ x.mem = 0)) := h2
  have e1 := hide h1
  have fin : ∀ b : Bool, (b = true ↔ 1 ≤ x.min ∧ x.min ≤ x.max ∧ x.max ≤ 8 ∧ 1 ≤ x.target ∧ x.target < x.limit ∧ x.limit ≤ 10000 ∧ 0 ≤ x.tol ∧ x.tol ≤ 500 ∧ x.tol * x.target < 1000 * (x.limit - x.target) ∧ 0 ≤ x.rank ∧ x.rank ≤ 9) → b = wOk x :=
    fun b hb => eq_wOk (hb.trans ⟨fun h => ⟨e1.out, e2.out, h⟩, fun h => h.2.2⟩)
  have FIN := hide fin
  clear fin
  go_enter Tryz.func68, Tryz.ntmps68
  go_wp2_with (first | (go_at_call 79; refine (specOk_any _ _ _).mono ?_; rintro e w1 ⟨rfl, hb⟩; obtain ⟨hc, hf⟩ := bcell hb))
  all_goals go_ret
  all_goals refine ⟨ret_bool (FIN.out _ ?_), bel_trans (by go_grown) hb⟩
  all_goals simp only [Bool.false_eq_true]
  all_goals (refine ⟨fun hh => ?_, fun hh => ?_⟩ <;> first | exact hh.elim | omega)

set_option maxRecDepth 100000 in
set_option maxHeartbeats 4000000 in
theorem sWork_n3 (x : Wk) (w : World) (h1 : okB x.cpu x.mem = true) (h2 : ¬ (x.cpu = 0 ∧ x.mem = 0)) (g0 : 1 ≤ x.min) (g1 : x.min ≤ x.max) (g2 : x.max ≤ 8) (gn : ¬ (1 ≤ x.target)) :
    Calls Tryz.prog 68 #[x.v] w fun e w' => e = .returned (.bool (wOk x)) ∧ Below w.heap.size w w' := by
  have e2 : Hid (¬ (x.cpu = 0 ∧ x.mem = 0)) := h2
  have e1 := hide h1
  have fin : ∀ b : Bool, (b = true ↔ 1 ≤ x.min ∧ x.min ≤ x.max ∧ x.max ≤ 8 ∧ 1 ≤ x.target ∧ x.target < x.limit ∧ x.limit ≤ 10000 ∧ 0 ≤ x.tol ∧ x.tol ≤ 500 ∧ x.tol * x.target < 1000 * (x.limit - x.target) ∧ 0 ≤ x.rank ∧ x.rank ≤ 9) → b = wOk x :=
    fun b hb => eq_wOk (hb.trans ⟨fun h => ⟨e1.out, e2.out, h⟩, fun h => h.2.2⟩)
  have FIN := hide fin
  clear fin
  go_enter Tryz.func68, Tryz.ntmps68
  go_wp2_with (first | (go_at_call 79; refine (specOk_any _ _ _).mono ?_; rintro e w1 ⟨rfl, hb⟩; obtain ⟨hc, hf⟩ := bcell hb))
  all_goals go_ret
  all_goals refine ⟨ret_bool (FIN.out _ ?_), bel_trans (by go_grown) hb⟩
  all_goals simp only [Bool.false_eq_true]
  all_goals (refine ⟨fun hh => ?_, fun hh => ?_⟩ <;> first | exact hh.elim | omega)

set_option maxRecDepth 100000 in
set_option maxHeartbeats 4000000 in
theorem sWork_n4 (x : Wk) (w : World) (h1 : okB x.cpu x.mem = true) (h2 : ¬ (x.cpu = 0 ∧ x.mem = 0)) (g0 : 1 ≤ x.min) (g1 : x.min ≤ x.max) (g2 : x.max ≤ 8) (g3 : 1 ≤ x.target) (gn : ¬ (x.target < x.limit)) :
    Calls Tryz.prog 68 #[x.v] w fun e w' => e = .returned (.bool (wOk x)) ∧ Below w.heap.size w w' := by
  have e2 : Hid (¬ (x.cpu = 0 ∧ x.mem = 0)) := h2
  have e1 := hide h1
  have fin : ∀ b : Bool, (b = true ↔ 1 ≤ x.min ∧ x.min ≤ x.max ∧ x.max ≤ 8 ∧ 1 ≤ x.target ∧ x.target < x.limit ∧ x.limit ≤ 10000 ∧ 0 ≤ x.tol ∧ x.tol ≤ 500 ∧ x.tol * x.target < 1000 * (x.limit - x.target) ∧ 0 ≤ x.rank ∧ x.rank ≤ 9) → b = wOk x :=
    fun b hb => eq_wOk (hb.trans ⟨fun h => ⟨e1.out, e2.out, h⟩, fun h => h.2.2⟩)
  have FIN := hide fin
  clear fin
  go_enter Tryz.func68, Tryz.ntmps68
  go_wp2_with (first | (go_at_call 79; refine (specOk_any _ _ _).mono ?_; rintro e w1 ⟨rfl, hb⟩; obtain ⟨hc, hf⟩ := bcell hb))
  all_goals go_ret
  all_goals refine ⟨ret_bool (FIN.out _ ?_), bel_trans (by go_grown) hb⟩
  all_goals simp only [Bool.false_eq_true]
  all_goals (refine ⟨fun hh => ?_, fun hh => ?_⟩ <;> first | exact hh.elim | omega)

set_option maxRecDepth 100000 in
set_option maxHeartbeats 4000000 in
theorem sWork_n5 (x : Wk) (w : World) (h1 : okB x.cpu x.mem = true) (h2 : ¬ (x.cpu = 0 ∧ x.mem = 0)) (g0 : 1 ≤ x.min) (g1 : x.min ≤ x.max) (g2 : x.max ≤ 8) (g3 : 1 ≤ x.target) (g4 : x.target < x.limit) (gn : ¬ (x.limit ≤ 10000)) :
    Calls Tryz.prog 68 #[x.v] w fun e w' => e = .returned (.bool (wOk x)) ∧ Below w.heap.size w w' := by
  have e2 : Hid (¬ (x.cpu = 0 ∧ x.mem = 0)) := h2
  have e1 := hide h1
  have fin : ∀ b : Bool, (b = true ↔ 1 ≤ x.min ∧ x.min ≤ x.max ∧ x.max ≤ 8 ∧ 1 ≤ x.target ∧ x.target < x.limit ∧ x.limit ≤ 10000 ∧ 0 ≤ x.tol ∧ x.tol ≤ 500 ∧ x.tol * x.target < 1000 * (x.limit - x.target) ∧ 0 ≤ x.rank ∧ x.rank ≤ 9) → b = wOk x :=
    fun b hb => eq_wOk (hb.trans ⟨fun h => ⟨e1.out, e2.out, h⟩, fun h => h.2.2⟩)
  have FIN := hide fin
  clear fin
  go_enter Tryz.func68, Tryz.ntmps68
  go_wp2_with (first | (go_at_call 79; refine (specOk_any _ _ _).mono ?_; rintro e w1 ⟨rfl, hb⟩; obtain ⟨hc, hf⟩ := bcell hb))
  all_goals go_ret
  all_goals refine ⟨ret_bool (FIN.out _ ?_), bel_trans (by go_grown) hb⟩
  all_goals simp only [Bool.false_eq_true]
  all_goals (refine ⟨fun hh => ?_, fun hh => ?_⟩ <;> first | exact hh.elim | omega)

set_option maxRecDepth 100000 in
set_option maxHeartbeats 4000000 in
theorem sWork_n6 (x : Wk) (w : World) (h1 : okB x.cpu x.mem = true) (h2 : ¬ (x.cpu = 0 ∧ x.mem = 0)) (g0 : 1 ≤ x.min) (g1 : x.min ≤ x.max) (g2 : x.max ≤ 8) (g3 : 1 ≤ x.target) (g4 : x.target < x.limit) (g5 : x.limit ≤ 10000) (gn : ¬ (0 ≤ x.tol)) :
    Calls Tryz.prog 68 #[x.v] w fun e w' => e = .returned (.bool (wOk x)) ∧ Below w.heap.size w w' := by
  have e2 : Hid (¬ (x.cpu = 0 ∧ x.mem = 0)) := h2
  have e1 := hide h1
  have fin : ∀ b : Bool, (b = true ↔ 1 ≤ x.min ∧ x.min ≤ x.max ∧ x.max ≤ 8 ∧ 1 ≤ x.target ∧ x.target < x.limit ∧ x.limit ≤ 10000 ∧ 0 ≤ x.tol ∧ x.tol ≤ 500 ∧ x.tol * x.target < 1000 * (x.limit - x.target) ∧ 0 ≤ x.rank ∧ x.rank ≤ 9) → b = wOk x :=
    fun b hb => eq_wOk (hb.trans ⟨fun h => ⟨e1.out, e2.out, h⟩, fun h => h.2.2⟩)
  have FIN := hide fin
  clear fin
  go_enter Tryz.func68, Tryz.ntmps68
  go_wp2_with (first | (go_at_call 79; refine (specOk_any _ _ _).mono ?_; rintro e w1 ⟨rfl, hb⟩; obtain ⟨hc, hf⟩ := bcell hb))
  all_goals go_ret
  all_goals refine ⟨ret_bool (FIN.out _ ?_), bel_trans (by go_grown) hb⟩
  all_goals simp only [Bool.false_eq_true]
  all_goals (refine ⟨fun hh => ?_, fun hh => ?_⟩ <;> first | exact hh.elim | omega)

set_option maxRecDepth 100000 in
set_option maxHeartbeats 4000000 in
theorem sWork_n7 (x : Wk) (w : World) (h1 : okB x.cpu x.mem = true) (h2 : ¬ (x.cpu = 0 ∧ x.mem = 0)) (g0 : 1 ≤ x.min) (g1 : x.min ≤ x.max) (g2 : x.max ≤ 8) (g3 : 1 ≤ x.target) (g4 : x.target < x.limit) (g5 : x.limit ≤ 10000) (g6 : 0 ≤ x.tol) (gn : ¬ (x.tol ≤ 500)) :
    Calls Tryz.prog 68 #[x.v] w fun e w' => e = .returned (.bool (wOk x)) ∧ Below w.heap.size w w' := by
  have e2 : Hid (¬ (x.cpu = 0 ∧ x.mem = 0)) := h2
  have e1 := hide h1
  have fin : ∀ b : Bool, (b = true ↔ 1 ≤ x.min ∧ x.min ≤ x.max ∧ x.max ≤ 8 ∧ 1 ≤ x.target ∧ x.target < x.limit ∧ x.limit ≤ 10000 ∧ 0 ≤ x.tol ∧ x.tol ≤ 500 ∧ x.tol * x.target < 1000 * (x.limit - x.target) ∧ 0 ≤ x.rank ∧ x.rank ≤ 9) → b = wOk x :=
    fun b hb => eq_wOk (hb.trans ⟨fun h => ⟨e1.out, e2.out, h⟩, fun h => h.2.2⟩)
  have FIN := hide fin
  clear fin
  go_enter Tryz.func68, Tryz.ntmps68
  go_wp2_with (first | (go_at_call 79; refine (specOk_any _ _ _).mono ?_; rintro e w1 ⟨rfl, hb⟩; obtain ⟨hc, hf⟩ := bcell hb))
  all_goals go_ret
  all_goals refine ⟨ret_bool (FIN.out _ ?_), bel_trans (by go_grown) hb⟩
  all_goals simp only [Bool.false_eq_true]
  all_goals (refine ⟨fun hh => ?_, fun hh => ?_⟩ <;> first | exact hh.elim | omega)

set_option maxRecDepth 100000 in
set_option maxHeartbeats 4000000 in
theorem sWork_y (x : Wk) (w : World) (h1 : okB x.cpu x.mem = true) (h2 : ¬ (x.cpu = 0 ∧ x.mem = 0)) (g0 : 1 ≤ x.min) (g1 : x.min ≤ x.max) (g2 : x.max ≤ 8) (g3 : 1 ≤ x.target) (g4 : x.target < x.limit) (g5 : x.limit ≤ 10000) (g6 : 0 ≤ x.tol) (g7 : x.tol ≤ 500) :
    Calls Tryz.prog 68 #[x.v] w fun e w' => e = .returned (.bool (wOk x)) ∧ Below w.heap.size w w' := by
  have e2 : Hid (¬ (x.cpu = 0 ∧ x.mem = 0)) := h2
  have e1 := hide h1
  have fin : ∀ b : Bool, (b = true ↔ 1 ≤ x.min ∧ x.min ≤ x.max ∧ x.max ≤ 8 ∧ 1 ≤ x.target ∧ x.target < x.limit ∧ x.limit ≤ 10000 ∧ 0 ≤ x.tol ∧ x.tol ≤ 500 ∧ x.tol * x.target < 1000 * (x.limit - x.target) ∧ 0 ≤ x.rank ∧ x.rank ≤ 9) → b = wOk x :=
    fun b hb => eq_wOk (hb.trans ⟨fun h => ⟨e1.out, e2.out, h⟩, fun h => h.2.2⟩)
  have FIN := hide fin
  clear fin
  obtain ⟨m1, m2⟩ := mul_bd x.tol x.target (by omega) (by omega) (by omega) (by omega)
  go_enter Tryz.func68, Tryz.ntmps68
  go_wp2_with (first | (go_at_call 79; refine (specOk_any _ _ _).mono ?_; rintro e w1 ⟨rfl, hb⟩; obtain ⟨hc, hf⟩ := bcell hb))
  all_goals go_ret
  all_goals refine ⟨ret_bool (FIN.out _ ?_), bel_trans (by go_grown) hb⟩
  all_goals simp only [decide_eq_true_eq, Bool.false_eq_true]
  all_goals (refine ⟨fun hh => ?_, fun hh => ?_⟩ <;> first | exact hh.elim | omega)

theorem sWork_any (x : Wk) (w : World) :
    Calls Tryz.prog 68 #[x.v] w fun e w' => e = .returned (.bool (wOk x)) ∧ Below w.heap.size w w' := by
  cases h1 : okB x.cpu x.mem
  · exact sWork_a x w h1
  by_cases h2 : x.cpu = 0 ∧ x.mem = 0
  · exact sWork_b x w h1 h2.1 h2.2
  by_cases g0 : 1 ≤ x.min
  rotate_left
  · exact sWork_n0 x w h1 h2 g0
  by_cases g1 : x.min ≤ x.max
  rotate_left
  · exact sWork_n1 x w h1 h2 g0 g1
  by_cases g2 : x.max ≤ 8
  rotate_left
  · exact sWork_n2 x w h1 h2 g0 g1 g2
  by_cases g3 : 1 ≤ x.target
  rotate_left
  · exact sWork_n3 x w h1 h2 g0 g1 g2 g3
  by_cases g4 : x.target < x.limit
  rotate_left
  · exact sWork_n4 x w h1 h2 g0 g1 g2 g3 g4
  by_cases g5 : x.limit ≤ 10000
  rotate_left
  · exact sWork_n5 x w h1 h2 g0 g1 g2 g3 g4 g5
  by_cases g6 : 0 ≤ x.tol
  rotate_left
  · exact sWork_n6 x w h1 h2 g0 g1 g2 g3 g4 g5 g6
  by_cases g7 : x.tol ≤ 500
  rotate_left
  · exact sWork_n7 x w h1 h2 g0 g1 g2 g3 g4 g5 g6 g7
  exact sWork_y x w h1 h2 g0 g1 g2 g3 g4 g5 g6 g7

end Go.Proofs.YtoceohacplmgnaaGreatDoor
