/- Contracts of the size functions, second part. -/
import Derived.Test.YthpjejnnagamiaaA
namespace Go.Proofs.Ythpjejnnagamiaa
open Go.RowKit

/-- What a walk keeps behind a call that turned nothing below it: the cells of its own three boxes are still there. -/
theorem after {W w1 : World} (hb : Below W.heap.size W w1) (N : Nat) (h : N + 3 ≤ W.heap.size) :
    (∀ b o, b < W.heap.size → w1.cell? ⟨b, o, none⟩ = W.cell? ⟨b, o, none⟩) ∧ (∀ b o, b < W.heap.size → w1.frozen? ⟨b, o, none⟩ = W.frozen? ⟨b, o, none⟩) ∧ N < w1.heap.size ∧ N + 1 < w1.heap.size ∧ N + 2 < w1.heap.size :=
  ⟨(bcell hb).1, (bcell hb).2, by have := hb.size; omega, by have := hb.size; omega, by have := hb.size; omega⟩

def addOk (a b c d : Int) : Bool := okB a b && okB c d && okB (a + c) (b + d)
def addC (a b c d : Int) : Int := if addOk a b c d then a + c else 0
def addM (a b c d : Int) : Int := if addOk a b c d then b + d else 0
def lessOk (a b c d : Int) : Bool := okB a b && okB c d && fitB c d a b
def lessC (a b c d : Int) : Int := if lessOk a b c d then a - c else 0
def lessM (a b c d : Int) : Int := if lessOk a b c d then b - d else 0

set_option maxHeartbeats 1000000 in
theorem implAdd_any (a b c d : Int) (w : World) :
    Calls Try.prog 13 #[.agg #[.int .i64 a, .int .i64 b], .agg #[.int .i64 c, .int .i64 d]] w fun e w' => e = .returned (.tuple #[.agg #[.int .i64 (addC a b c d), .int .i64 (addM a b c d)], .bool (addOk a b c d)]) ∧ Below w.heap.size w w' := by
  by_cases h1 : okB a b = true
  · by_cases h2 : okB c d = true
    · obtain ⟨p1, p2, p3, p4⟩ := ok_iff.1 h1
      obtain ⟨q1, q2, q3, q4⟩ := ok_iff.1 h2
      by_cases h3 : okB (a + c) (b + d) = true
      · have e1 : addOk a b c d = true := by simp [addOk, *]
        have e2 : addC a b c d = a + c := by simp [addC, e1]
        have e3 : addM a b c d = b + d := by simp [addM, e1]
        rw [e1, e2, e3]; clear e1 e2 e3
        go_enter Try.func13, Try.ntmps13
        go_wp2_with (first | (go_at_call 31; refine (ok_any _ _ _).mono ?_; rintro e w1 ⟨rfl, hb⟩; obtain ⟨hc, hf, z0, z1, z2⟩ := after hb w.heap.size (by go_size)) | (go_at_call 32; refine (plus_any _ _ _ _ _ (by assumption) (by assumption) (by assumption) (by assumption) (by assumption) (by assumption) (by assumption) (by assumption)).mono ?_; rintro e w1 ⟨rfl, hb⟩; obtain ⟨hc, hf, z0, z1, z2⟩ := after hb w.heap.size (by go_size)))
        refine bodyPost_ret (v := .tuple #[.agg #[.int .i64 (a + c), .int .i64 (b + d)], .bool true]) (by simp [results, Try.results13, go_sem, *]) rfl ⟨rfl, ?_⟩
        repeat (first | exact Below.refl _ _ | refine Below.setCell ?_ (by go_size) _ | refine Below.alloc ?_ (by go_size) _ | refine Below.drew ?_ | refine bel_trans ?_ (by assumption))
      · have h3' : okB (a + c) (b + d) = false := by simpa using h3
        clear h3
        have e1 : addOk a b c d = false := by simp [addOk, *]
        have e2 : addC a b c d = 0 := by simp [addC, e1]
        have e3 : addM a b c d = 0 := by simp [addM, e1]
        rw [e1, e2, e3]; clear e1 e2 e3
        go_enter Try.func13, Try.ntmps13
        go_wp2_with (first | (go_at_call 31; refine (ok_any _ _ _).mono ?_; rintro e w1 ⟨rfl, hb⟩; obtain ⟨hc, hf, z0, z1, z2⟩ := after hb w.heap.size (by go_size)) | (go_at_call 32; refine (plus_any _ _ _ _ _ (by assumption) (by assumption) (by assumption) (by assumption) (by assumption) (by assumption) (by assumption) (by assumption)).mono ?_; rintro e w1 ⟨rfl, hb⟩; obtain ⟨hc, hf, z0, z1, z2⟩ := after hb w.heap.size (by go_size)))
        refine bodyPost_ret (v := .tuple #[.agg #[.int .i64 0, .int .i64 0], .bool false]) (by simp [results, Try.results13, go_sem, *]) rfl ⟨rfl, ?_⟩
        repeat (first | exact Below.refl _ _ | refine Below.setCell ?_ (by go_size) _ | refine Below.alloc ?_ (by go_size) _ | refine Below.drew ?_ | refine bel_trans ?_ (by assumption))
    · have h2' : okB c d = false := by simpa using h2
      clear h2
      have e1 : addOk a b c d = false := by simp [addOk, *]
      have e2 : addC a b c d = 0 := by simp [addC, e1]
      have e3 : addM a b c d = 0 := by simp [addM, e1]
      rw [e1, e2, e3]; clear e1 e2 e3
      go_enter Try.func13, Try.ntmps13
      go_wp2_with (first | (go_at_call 31; refine (ok_any _ _ _).mono ?_; rintro e w1 ⟨rfl, hb⟩; obtain ⟨hc, hf, z0, z1, z2⟩ := after hb w.heap.size (by go_size)) | (go_at_call 32; refine (plus_any _ _ _ _ _ (by assumption) (by assumption) (by assumption) (by assumption) (by assumption) (by assumption) (by assumption) (by assumption)).mono ?_; rintro e w1 ⟨rfl, hb⟩; obtain ⟨hc, hf, z0, z1, z2⟩ := after hb w.heap.size (by go_size)))
      refine bodyPost_ret (v := .tuple #[.agg #[.int .i64 0, .int .i64 0], .bool false]) (by simp [results, Try.results13, go_sem, *]) rfl ⟨rfl, ?_⟩
      repeat (first | exact Below.refl _ _ | refine Below.setCell ?_ (by go_size) _ | refine Below.alloc ?_ (by go_size) _ | refine Below.drew ?_ | refine bel_trans ?_ (by assumption))
  · have h1' : okB a b = false := by simpa using h1
    clear h1
    have e1 : addOk a b c d = false := by simp [addOk, *]
    have e2 : addC a b c d = 0 := by simp [addC, e1]
    have e3 : addM a b c d = 0 := by simp [addM, e1]
    rw [e1, e2, e3]; clear e1 e2 e3
    go_enter Try.func13, Try.ntmps13
    go_wp2_with (first | (go_at_call 31; refine (ok_any _ _ _).mono ?_; rintro e w1 ⟨rfl, hb⟩; obtain ⟨hc, hf, z0, z1, z2⟩ := after hb w.heap.size (by go_size)) | (go_at_call 32; refine (plus_any _ _ _ _ _ (by assumption) (by assumption) (by assumption) (by assumption) (by assumption) (by assumption) (by assumption) (by assumption)).mono ?_; rintro e w1 ⟨rfl, hb⟩; obtain ⟨hc, hf, z0, z1, z2⟩ := after hb w.heap.size (by go_size)))
    refine bodyPost_ret (v := .tuple #[.agg #[.int .i64 0, .int .i64 0], .bool false]) (by simp [results, Try.results13, go_sem, *]) rfl ⟨rfl, ?_⟩
    repeat (first | exact Below.refl _ _ | refine Below.setCell ?_ (by go_size) _ | refine Below.alloc ?_ (by go_size) _ | refine Below.drew ?_ | refine bel_trans ?_ (by assumption))

set_option maxHeartbeats 1000000 in
theorem specAdd_any (a b c d : Int) (w : World) :
    Calls Try.prog 14 #[.agg #[.int .i64 a, .int .i64 b], .agg #[.int .i64 c, .int .i64 d]] w fun e w' => e = .returned (.tuple #[.agg #[.int .i64 (addC a b c d), .int .i64 (addM a b c d)], .bool (addOk a b c d)]) ∧ Below w.heap.size w w' := by
  by_cases h1 : okB a b = true
  · by_cases h2 : okB c d = true
    · obtain ⟨p1, p2, p3, p4⟩ := ok_iff.1 h1
      obtain ⟨q1, q2, q3, q4⟩ := ok_iff.1 h2
      by_cases h3 : okB (a + c) (b + d) = true
      · have e1 : addOk a b c d = true := by simp [addOk, *]
        have e2 : addC a b c d = a + c := by simp [addC, e1]
        have e3 : addM a b c d = b + d := by simp [addM, e1]
        rw [e1, e2, e3]; clear e1 e2 e3
        go_enter Try.func14, Try.ntmps14
        go_wp2_with (first | (go_at_call 20; refine (specOk_any _ _ _).mono ?_; rintro e w1 ⟨rfl, hb⟩; obtain ⟨hc, hf, z0, z1, z2⟩ := after hb w.heap.size (by go_size)))
        refine bodyPost_ret (v := .tuple #[.agg #[.int .i64 (a + c), .int .i64 (b + d)], .bool true]) (by simp [results, Try.results14, go_sem, *]) rfl ⟨rfl, ?_⟩
        repeat (first | exact Below.refl _ _ | refine Below.setCell ?_ (by go_size) _ | refine Below.alloc ?_ (by go_size) _ | refine Below.drew ?_ | refine bel_trans ?_ (by assumption))
      · have h3' : okB (a + c) (b + d) = false := by simpa using h3
        clear h3
        have e1 : addOk a b c d = false := by simp [addOk, *]
        have e2 : addC a b c d = 0 := by simp [addC, e1]
        have e3 : addM a b c d = 0 := by simp [addM, e1]
        rw [e1, e2, e3]; clear e1 e2 e3
        go_enter Try.func14, Try.ntmps14
        go_wp2_with (first | (go_at_call 20; refine (specOk_any _ _ _).mono ?_; rintro e w1 ⟨rfl, hb⟩; obtain ⟨hc, hf, z0, z1, z2⟩ := after hb w.heap.size (by go_size)))
        refine bodyPost_ret (v := .tuple #[.agg #[.int .i64 0, .int .i64 0], .bool false]) (by simp [results, Try.results14, go_sem, *]) rfl ⟨rfl, ?_⟩
        repeat (first | exact Below.refl _ _ | refine Below.setCell ?_ (by go_size) _ | refine Below.alloc ?_ (by go_size) _ | refine Below.drew ?_ | refine bel_trans ?_ (by assumption))
    · have h2' : okB c d = false := by simpa using h2
      clear h2
      have e1 : addOk a b c d = false := by simp [addOk, *]
      have e2 : addC a b c d = 0 := by simp [addC, e1]
      have e3 : addM a b c d = 0 := by simp [addM, e1]
      rw [e1, e2, e3]; clear e1 e2 e3
      go_enter Try.func14, Try.ntmps14
      go_wp2_with (first | (go_at_call 20; refine (specOk_any _ _ _).mono ?_; rintro e w1 ⟨rfl, hb⟩; obtain ⟨hc, hf, z0, z1, z2⟩ := after hb w.heap.size (by go_size)))
      refine bodyPost_ret (v := .tuple #[.agg #[.int .i64 0, .int .i64 0], .bool false]) (by simp [results, Try.results14, go_sem, *]) rfl ⟨rfl, ?_⟩
      repeat (first | exact Below.refl _ _ | refine Below.setCell ?_ (by go_size) _ | refine Below.alloc ?_ (by go_size) _ | refine Below.drew ?_ | refine bel_trans ?_ (by assumption))
  · have h1' : okB a b = false := by simpa using h1
    clear h1
    have e1 : addOk a b c d = false := by simp [addOk, *]
    have e2 : addC a b c d = 0 := by simp [addC, e1]
    have e3 : addM a b c d = 0 := by simp [addM, e1]
    rw [e1, e2, e3]; clear e1 e2 e3
    go_enter Try.func14, Try.ntmps14
    go_wp2_with (first | (go_at_call 20; refine (specOk_any _ _ _).mono ?_; rintro e w1 ⟨rfl, hb⟩; obtain ⟨hc, hf, z0, z1, z2⟩ := after hb w.heap.size (by go_size)))
    refine bodyPost_ret (v := .tuple #[.agg #[.int .i64 0, .int .i64 0], .bool false]) (by simp [results, Try.results14, go_sem, *]) rfl ⟨rfl, ?_⟩
    repeat (first | exact Below.refl _ _ | refine Below.setCell ?_ (by go_size) _ | refine Below.alloc ?_ (by go_size) _ | refine Below.drew ?_ | refine bel_trans ?_ (by assumption))

end Go.Proofs.Ythpjejnnagamiaa
