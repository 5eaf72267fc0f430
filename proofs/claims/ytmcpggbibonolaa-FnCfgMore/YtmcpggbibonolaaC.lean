/- Contracts of the size functions, third part. -/
import Derived.Test.YtmcpggbibonolaaB
namespace Go.Proofs.Ytmcpggbibonolaa
open Go.RowKit

set_option maxHeartbeats 1000000 in
theorem implLess_any (a b c d : Int) (w : World) :
    Calls Try.prog 26 #[.agg #[.int .i64 a, .int .i64 b], .agg #[.int .i64 c, .int .i64 d]] w fun e w' => e = .returned (.tuple #[.agg #[.int .i64 (lessC a b c d), .int .i64 (lessM a b c d)], .bool (lessOk a b c d)]) ∧ Below w.heap.size w w' := by
  by_cases h1 : okB a b = true
  · by_cases h2 : okB c d = true
    · obtain ⟨p1, p2, p3, p4⟩ := ok_iff.1 h1
      obtain ⟨q1, q2, q3, q4⟩ := ok_iff.1 h2
      by_cases h3 : fitB c d a b = true
      · have e1 : lessOk a b c d = true := by simp [lessOk, *]
        have e2 : lessC a b c d = a - c := by simp [lessC, e1]
        have e3 : lessM a b c d = b - d := by simp [lessM, e1]
        rw [e1, e2, e3]; clear e1 e2 e3
        go_enter Try.func26, Try.ntmps26
        go_wp2_with (first | (go_at_call 57; refine (ok_any _ _ _).mono ?_; rintro e w1 ⟨rfl, hb⟩; obtain ⟨hc, hf, z0, z1, z2⟩ := after hb w.heap.size (by go_size)) | (go_at_call 61; refine (fits_any _ _ _ _ _).mono ?_; rintro e w1 ⟨rfl, hb⟩; obtain ⟨hc, hf, z0, z1, z2⟩ := after hb w.heap.size (by go_size)) | (go_at_call 63; refine (minus_any _ _ _ _ _ (by assumption) (by assumption) (by assumption) (by assumption) (by assumption) (by assumption) (by assumption) (by assumption)).mono ?_; rintro e w1 ⟨rfl, hb⟩; obtain ⟨hc, hf, z0, z1, z2⟩ := after hb w.heap.size (by go_size)))
        refine bodyPost_ret (v := .tuple #[.agg #[.int .i64 (a - c), .int .i64 (b - d)], .bool true]) (by simp [results, Try.results26, go_sem, *]) rfl ⟨rfl, ?_⟩
        repeat (first | exact Below.refl _ _ | refine Below.setCell ?_ (by go_size) _ | refine Below.alloc ?_ (by go_size) _ | refine Below.drew ?_ | refine bel_trans ?_ (by assumption))
      · have h3' : fitB c d a b = false := by simpa using h3
        clear h3
        have e1 : lessOk a b c d = false := by simp [lessOk, *]
        have e2 : lessC a b c d = 0 := by simp [lessC, e1]
        have e3 : lessM a b c d = 0 := by simp [lessM, e1]
        rw [e1, e2, e3]; clear e1 e2 e3
        go_enter Try.func26, Try.ntmps26
        go_wp2_with (first | (go_at_call 57; refine (ok_any _ _ _).mono ?_; rintro e w1 ⟨rfl, hb⟩; obtain ⟨hc, hf, z0, z1, z2⟩ := after hb w.heap.size (by go_size)) | (go_at_call 61; refine (fits_any _ _ _ _ _).mono ?_; rintro e w1 ⟨rfl, hb⟩; obtain ⟨hc, hf, z0, z1, z2⟩ := after hb w.heap.size (by go_size)) | (go_at_call 63; refine (minus_any _ _ _ _ _ (by assumption) (by assumption) (by assumption) (by assumption) (by assumption) (by assumption) (by assumption) (by assumption)).mono ?_; rintro e w1 ⟨rfl, hb⟩; obtain ⟨hc, hf, z0, z1, z2⟩ := after hb w.heap.size (by go_size)))
        refine bodyPost_ret (v := .tuple #[.agg #[.int .i64 0, .int .i64 0], .bool false]) (by simp [results, Try.results26, go_sem, *]) rfl ⟨rfl, ?_⟩
        repeat (first | exact Below.refl _ _ | refine Below.setCell ?_ (by go_size) _ | refine Below.alloc ?_ (by go_size) _ | refine Below.drew ?_ | refine bel_trans ?_ (by assumption))
    · have h2' : okB c d = false := by simpa using h2
      clear h2
      have e1 : lessOk a b c d = false := by simp [lessOk, *]
      have e2 : lessC a b c d = 0 := by simp [lessC, e1]
      have e3 : lessM a b c d = 0 := by simp [lessM, e1]
      rw [e1, e2, e3]; clear e1 e2 e3
      go_enter Try.func26, Try.ntmps26
      go_wp2_with (first | (go_at_call 57; refine (ok_any _ _ _).mono ?_; rintro e w1 ⟨rfl, hb⟩; obtain ⟨hc, hf, z0, z1, z2⟩ := after hb w.heap.size (by go_size)) | (go_at_call 61; refine (fits_any _ _ _ _ _).mono ?_; rintro e w1 ⟨rfl, hb⟩; obtain ⟨hc, hf, z0, z1, z2⟩ := after hb w.heap.size (by go_size)) | (go_at_call 63; refine (minus_any _ _ _ _ _ (by assumption) (by assumption) (by assumption) (by assumption) (by assumption) (by assumption) (by assumption) (by assumption)).mono ?_; rintro e w1 ⟨rfl, hb⟩; obtain ⟨hc, hf, z0, z1, z2⟩ := after hb w.heap.size (by go_size)))
      refine bodyPost_ret (v := .tuple #[.agg #[.int .i64 0, .int .i64 0], .bool false]) (by simp [results, Try.results26, go_sem, *]) rfl ⟨rfl, ?_⟩
      repeat (first | exact Below.refl _ _ | refine Below.setCell ?_ (by go_size) _ | refine Below.alloc ?_ (by go_size) _ | refine Below.drew ?_ | refine bel_trans ?_ (by assumption))
  · have h1' : okB a b = false := by simpa using h1
    clear h1
    have e1 : lessOk a b c d = false := by simp [lessOk, *]
    have e2 : lessC a b c d = 0 := by simp [lessC, e1]
    have e3 : lessM a b c d = 0 := by simp [lessM, e1]
    rw [e1, e2, e3]; clear e1 e2 e3
    go_enter Try.func26, Try.ntmps26
    go_wp2_with (first | (go_at_call 57; refine (ok_any _ _ _).mono ?_; rintro e w1 ⟨rfl, hb⟩; obtain ⟨hc, hf, z0, z1, z2⟩ := after hb w.heap.size (by go_size)) | (go_at_call 61; refine (fits_any _ _ _ _ _).mono ?_; rintro e w1 ⟨rfl, hb⟩; obtain ⟨hc, hf, z0, z1, z2⟩ := after hb w.heap.size (by go_size)) | (go_at_call 63; refine (minus_any _ _ _ _ _ (by assumption) (by assumption) (by assumption) (by assumption) (by assumption) (by assumption) (by assumption) (by assumption)).mono ?_; rintro e w1 ⟨rfl, hb⟩; obtain ⟨hc, hf, z0, z1, z2⟩ := after hb w.heap.size (by go_size)))
    refine bodyPost_ret (v := .tuple #[.agg #[.int .i64 0, .int .i64 0], .bool false]) (by simp [results, Try.results26, go_sem, *]) rfl ⟨rfl, ?_⟩
    repeat (first | exact Below.refl _ _ | refine Below.setCell ?_ (by go_size) _ | refine Below.alloc ?_ (by go_size) _ | refine Below.drew ?_ | refine bel_trans ?_ (by assumption))

set_option maxHeartbeats 1000000 in
theorem implMost_any (a b c d : Int) (w : World) :
    Calls Try.prog 56 #[.agg #[.int .i64 a, .int .i64 b], .agg #[.int .i64 c, .int .i64 d]] w fun e w' => e = .returned (.agg #[.int .i64 (maxI a c), .int .i64 (maxI b d)]) ∧ Below w.heap.size w w' := by
  go_enter Try.func56, Try.ntmps56
  go_wp2
  go_region_held3 (fun w' => w'.cell? ⟨w.heap.size, 0, none⟩ = some (.int .i64 a) ∧ w'.cell? ⟨w.heap.size, 1, none⟩ = some (.int .i64 b) ∧ w'.cell? ⟨w.heap.size + 1, 0, none⟩ = some (.int .i64 c) ∧ w'.cell? ⟨w.heap.size + 1, 1, none⟩ = some (.int .i64 d)) (go_keep)
    (first | (go_at_call 74; refine (greater_any _ _ _).mono ?_; rintro e w' ⟨rfl, rfl⟩))
  all_goals go_wp2
  all_goals refine bodyPost_ret (v := .agg #[.int .i64 (maxI a c), .int .i64 (maxI b d)]) (by simp [results, Try.results56, go_sem]) rfl ⟨rfl, ?_⟩
  all_goals repeat (first | exact Below.refl _ _ | refine Below.setCell ?_ (by go_size) _ | refine Below.alloc ?_ (by go_size) _ | refine Below.drew ?_ | refine bel_trans ?_ (by assumption))

set_option maxHeartbeats 1000000 in
theorem specMost_any (a b c d : Int) (w : World) :
    Calls Try.prog 62 #[.agg #[.int .i64 a, .int .i64 b], .agg #[.int .i64 c, .int .i64 d]] w fun e w' => e = .returned (.agg #[.int .i64 (maxI a c), .int .i64 (maxI b d)]) ∧ Below w.heap.size w w' := by
  go_enter Try.func62, Try.ntmps62
  go_wp2
  go_region_held3 (fun w' => w'.cell? ⟨w.heap.size, 0, none⟩ = some (.int .i64 a) ∧ w'.cell? ⟨w.heap.size, 1, none⟩ = some (.int .i64 b) ∧ w'.cell? ⟨w.heap.size + 1, 0, none⟩ = some (.int .i64 c) ∧ w'.cell? ⟨w.heap.size + 1, 1, none⟩ = some (.int .i64 d)) (go_keep)
    (first | (go_at_call 39; refine (l1Max_any _ _ _).mono ?_; rintro e w' ⟨rfl, rfl⟩))
  all_goals go_wp2
  all_goals refine bodyPost_ret (v := .agg #[.int .i64 (maxI a c), .int .i64 (maxI b d)]) (by simp [results, Try.results62, go_sem]) rfl ⟨rfl, ?_⟩
  all_goals repeat (first | exact Below.refl _ _ | refine Below.setCell ?_ (by go_size) _ | refine Below.alloc ?_ (by go_size) _ | refine Below.drew ?_ | refine bel_trans ?_ (by assumption))

end Go.Proofs.Ytmcpggbibonolaa
