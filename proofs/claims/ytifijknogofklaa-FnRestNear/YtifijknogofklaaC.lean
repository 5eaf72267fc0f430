/- Contracts of the size functions, third part. -/
import Derived.Test.YtifijknogofklaaB
namespace Go.Proofs.Ytifijknogofklaa
open Go.RowKit

set_option maxHeartbeats 1000000 in
theorem specMost_any (a b c d : Int) (w : World) :
    Calls Try.prog 88 #[.agg #[.int .i64 a, .int .i64 b], .agg #[.int .i64 c, .int .i64 d]] w fun e w' => e = .returned (.agg #[.int .i64 (maxI a c), .int .i64 (maxI b d)]) ∧ Below w.heap.size w w' := by
  go_enter Try.func88, Try.ntmps88
  go_wp2
  go_region_held3 (fun w' => w'.cell? ⟨w.heap.size, 0, none⟩ = some (.int .i64 a) ∧ w'.cell? ⟨w.heap.size, 1, none⟩ = some (.int .i64 b) ∧ w'.cell? ⟨w.heap.size + 1, 0, none⟩ = some (.int .i64 c) ∧ w'.cell? ⟨w.heap.size + 1, 1, none⟩ = some (.int .i64 d)) (go_keep)
    (first | (go_at_call 63; refine (l1Max_any _ _ _).mono ?_; rintro e w' ⟨rfl, rfl⟩))
  all_goals go_wp2
  all_goals refine bodyPost_ret (v := .agg #[.int .i64 (maxI a c), .int .i64 (maxI b d)]) (by simp [results, Try.results88, go_sem]) rfl ⟨rfl, ?_⟩
  all_goals repeat (first | exact Below.refl _ _ | refine Below.setCell ?_ (by go_size) _ | refine Below.alloc ?_ (by go_size) _ | refine Below.drew ?_ | refine bel_trans ?_ (by assumption))

end Go.Proofs.Ytifijknogofklaa
