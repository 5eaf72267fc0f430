/- Texts: the lines of what is asked and of what there is, as the program writes them. -/
import Derived.Test.YtoceohacplmgnaaDoorWh
import Derived.BigRegion
namespace Go.Proofs.YtoceohacplmgnaaDoor
open Go.RowKit

/-- A new row of pointers into one record. -/
theorem ptrs_new {B r ty : Nat} {w : World} {cs : Array Value} (T : TypeId) (os : List Nat) (ns : List Int) (hk : Blk w r cs ty) (hb : r < B) (hB : B ≤ w.heap.size)
    (h : os.map (fun o => cs[o]?) = ns.map fun n => some (.int .i64 n)) (xs : Array Value) (hx : xs = (os.map fun o => Value.pointer (some ⟨r, o, none⟩)).toArray) :
    PtrsAt B (w.alloc (.cells xs T)).drew w.heap.size ns := by
  subst hx
  have hlen : os.length = ns.length := by simpa using congrArg List.length h
  have hg : Below w.heap.size w (w.alloc (.cells (os.map fun o => Value.pointer (some ⟨r, o, none⟩)).toArray T)).drew := by go_grown
  refine ⟨by simp, fun i hi => ?_⟩
  have hi2 : i < os.length := by omega
  refine ⟨⟨r, os[i], none⟩, hb, ?_, ?_⟩
  · simp [go_sem, hi2]
  · rw [hg.cell (p := ⟨r, os[i], none⟩) (by simp; omega), hk.cell]
    have := congrArg (fun l => l[i]?) h
    simpa [hi, hi2] using this

theorem cfgHead_word (p : Value) (w : World) : Calls Tryd.prog 178 #[p] w fun e w' => e = .returned (str [99, 102, 103]) ∧ Below w.heap.size w w' := by
  go_enter Tryd.func178, Tryd.ntmps178
  go_wp2
  go_ret
  exact ⟨rfl, Below.refl _ _⟩
set_option maxHeartbeats 1000000 in
theorem cfgHead_fields (B r : Nat) (s0 s1 : Value) (x0 x1 x2 x3 : Int) (w : World) (hk : Blk w r #[s0, s1, .int .i64 x0, .int .i64 x1, .int .i64 x2, .int .i64 x3] 31) (hb : r < B) (hB : B ≤ w.heap.size) :
    Calls Tryd.prog 177 #[.pointer (some ⟨r, 0, none⟩)] w fun e w' => ∃ g c, e = .returned (.slice (some ⟨g, 0, none⟩) 4 c) ∧ w.heap.size ≤ g ∧ PtrsAt B w' g [x0, x1, x2, x3] ∧ Below w.heap.size w w' := by
  go_enter Tryd.func177, Tryd.ntmps177
  go_wp2
  go_region
  repeat (first | go_values | go_skip | go_guarded | go_step | go_upon)
  go_ret
  exact ⟨w.heap.size, 4, rfl, Nat.le_refl _, ptrs_new 162 [2, 3, 4, 5] [x0, x1, x2, x3] hk hb hB rfl _ rfl, by go_grown⟩
def cfgHead (r : Nat) (s0 s1 : Value) (x0 x1 x2 x3 : Int) : Ln := ⟨81, 178, 177, r, 31, #[s0, s1, .int .i64 x0, .int .i64 x1, .int .i64 x2, .int .i64 x3], [99, 102, 103], [x0, x1, x2, x3]⟩
theorem cfgHead_ok (r : Nat) (s0 s1 : Value) (x0 x1 x2 x3 : Int) (hI : ∀ n ∈ [x0, x1, x2, x3], I64 n) : LnOk (cfgHead r s0 s1 x0 x1 x2 x3) where
  line := fun w hk => {
    mw := fun _ => by kernel_rfl
    mf := fun _ => by kernel_rfl
    ew := fun args w => by kernel_rfl
    ef := fun args w => by kernel_rfl
    cw := fun w1 _ => cfgHead_word _ w1
    cf := fun w1 hb => cfgHead_fields w.heap.size r s0 s1 x0 x1 x2 x3 w1 (hk.below hb hk.lt) hk.lt hb.size }
  ints := hI
  few := (by decide : (4 : Nat) ≤ 20)
  short := (by decide : (3 : Nat) ≤ 100)

theorem cfgWork_word (p : Value) (w : World) : Calls Tryd.prog 180 #[p] w fun e w' => e = .returned (str [119, 111, 114, 107]) ∧ Below w.heap.size w w' := by
  go_enter Tryd.func180, Tryd.ntmps180
  go_wp2
  go_ret
  exact ⟨rfl, Below.refl _ _⟩
set_option maxHeartbeats 1000000 in
theorem cfgWork_fields (B r : Nat) (x0 x1 x2 x3 x4 x5 x6 x7 : Int) (w : World) (hk : Blk w r #[.int .i64 x0, .int .i64 x1, .int .i64 x2, .int .i64 x3, .int .i64 x4, .int .i64 x5, .int .i64 x6, .int .i64 x7] 76) (hb : r < B) (hB : B ≤ w.heap.size) :
    Calls Tryd.prog 179 #[.pointer (some ⟨r, 0, none⟩)] w fun e w' => ∃ g c, e = .returned (.slice (some ⟨g, 0, none⟩) 8 c) ∧ w.heap.size ≤ g ∧ PtrsAt B w' g [x0, x1, x2, x3, x4, x5, x6, x7] ∧ Below w.heap.size w w' := by
  go_enter Tryd.func179, Tryd.ntmps179
  go_wp2
  go_region
  repeat (first | go_values | go_skip | go_guarded | go_step | go_upon)
  go_ret
  exact ⟨w.heap.size, 8, rfl, Nat.le_refl _, ptrs_new 162 [0, 1, 2, 3, 4, 5, 6, 7] [x0, x1, x2, x3, x4, x5, x6, x7] hk hb hB rfl _ rfl, by go_grown⟩
def cfgWork (r : Nat) (x0 x1 x2 x3 x4 x5 x6 x7 : Int) : Ln := ⟨83, 180, 179, r, 76, #[.int .i64 x0, .int .i64 x1, .int .i64 x2, .int .i64 x3, .int .i64 x4, .int .i64 x5, .int .i64 x6, .int .i64 x7], [119, 111, 114, 107], [x0, x1, x2, x3, x4, x5, x6, x7]⟩
theorem cfgWork_ok (r : Nat) (x0 x1 x2 x3 x4 x5 x6 x7 : Int) (hI : ∀ n ∈ [x0, x1, x2, x3, x4, x5, x6, x7], I64 n) : LnOk (cfgWork r x0 x1 x2 x3 x4 x5 x6 x7) where
  line := fun w hk => {
    mw := fun _ => by kernel_rfl
    mf := fun _ => by kernel_rfl
    ew := fun args w => by kernel_rfl
    ef := fun args w => by kernel_rfl
    cw := fun w1 _ => cfgWork_word _ w1
    cf := fun w1 hb => cfgWork_fields w.heap.size r x0 x1 x2 x3 x4 x5 x6 x7 w1 (hk.below hb hk.lt) hk.lt hb.size }
  ints := hI
  few := (by decide : (8 : Nat) ≤ 20)
  short := (by decide : (4 : Nat) ≤ 100)

theorem cfgGroup_word (p : Value) (w : World) : Calls Tryd.prog 182 #[p] w fun e w' => e = .returned (str [103, 114, 111, 117, 112]) ∧ Below w.heap.size w w' := by
  go_enter Tryd.func182, Tryd.ntmps182
  go_wp2
  go_ret
  exact ⟨rfl, Below.refl _ _⟩
set_option maxHeartbeats 1000000 in
theorem cfgGroup_fields (B r : Nat) (x0 x1 x2 x3 x4 : Int) (w : World) (hk : Blk w r #[.int .i64 x0, .int .i64 x1, .int .i64 x2, .int .i64 x3, .int .i64 x4] 78) (hb : r < B) (hB : B ≤ w.heap.size) :
    Calls Tryd.prog 181 #[.pointer (some ⟨r, 0, none⟩)] w fun e w' => ∃ g c, e = .returned (.slice (some ⟨g, 0, none⟩) 5 c) ∧ w.heap.size ≤ g ∧ PtrsAt B w' g [x0, x1, x2, x3, x4] ∧ Below w.heap.size w w' := by
  go_enter Tryd.func181, Tryd.ntmps181
  go_wp2
  go_region
  repeat (first | go_values | go_skip | go_guarded | go_step | go_upon)
  go_ret
  exact ⟨w.heap.size, 5, rfl, Nat.le_refl _, ptrs_new 162 [0, 1, 2, 3, 4] [x0, x1, x2, x3, x4] hk hb hB rfl _ rfl, by go_grown⟩
def cfgGroup (r : Nat) (x0 x1 x2 x3 x4 : Int) : Ln := ⟨84, 182, 181, r, 78, #[.int .i64 x0, .int .i64 x1, .int .i64 x2, .int .i64 x3, .int .i64 x4], [103, 114, 111, 117, 112], [x0, x1, x2, x3, x4]⟩
theorem cfgGroup_ok (r : Nat) (x0 x1 x2 x3 x4 : Int) (hI : ∀ n ∈ [x0, x1, x2, x3, x4], I64 n) : LnOk (cfgGroup r x0 x1 x2 x3 x4) where
  line := fun w hk => {
    mw := fun _ => by kernel_rfl
    mf := fun _ => by kernel_rfl
    ew := fun args w => by kernel_rfl
    ef := fun args w => by kernel_rfl
    cw := fun w1 _ => cfgGroup_word _ w1
    cf := fun w1 hb => cfgGroup_fields w.heap.size r x0 x1 x2 x3 x4 w1 (hk.below hb hk.lt) hk.lt hb.size }
  ints := hI
  few := (by decide : (5 : Nat) ≤ 20)
  short := (by decide : (5 : Nat) ≤ 100)

theorem stHead_word (p : Value) (w : World) : Calls Tryd.prog 188 #[p] w fun e w' => e = .returned (str [115, 116, 97, 116, 101]) ∧ Below w.heap.size w w' := by
  go_enter Tryd.func188, Tryd.ntmps188
  go_wp2
  go_ret
  exact ⟨rfl, Below.refl _ _⟩
set_option maxHeartbeats 1000000 in
theorem stHead_fields (B r : Nat) (s0 s1 s2 s3 : Value) (x0 x1 : Int) (w : World) (hk : Blk w r #[s0, s1, s2, s3, .int .i64 x0, .int .i64 x1] 48) (hb : r < B) (hB : B ≤ w.heap.size) :
    Calls Tryd.prog 187 #[.pointer (some ⟨r, 0, none⟩)] w fun e w' => ∃ g c, e = .returned (.slice (some ⟨g, 0, none⟩) 2 c) ∧ w.heap.size ≤ g ∧ PtrsAt B w' g [x0, x1] ∧ Below w.heap.size w w' := by
  go_enter Tryd.func187, Tryd.ntmps187
  go_wp2
  go_region
  repeat (first | go_values | go_skip | go_guarded | go_step | go_upon)
  go_ret
  exact ⟨w.heap.size, 2, rfl, Nat.le_refl _, ptrs_new 162 [4, 5] [x0, x1] hk hb hB rfl _ rfl, by go_grown⟩
def stHead (r : Nat) (s0 s1 s2 s3 : Value) (x0 x1 : Int) : Ln := ⟨104, 188, 187, r, 48, #[s0, s1, s2, s3, .int .i64 x0, .int .i64 x1], [115, 116, 97, 116, 101], [x0, x1]⟩
theorem stHead_ok (r : Nat) (s0 s1 s2 s3 : Value) (x0 x1 : Int) (hI : ∀ n ∈ [x0, x1], I64 n) : LnOk (stHead r s0 s1 s2 s3 x0 x1) where
  line := fun w hk => {
    mw := fun _ => by kernel_rfl
    mf := fun _ => by kernel_rfl
    ew := fun args w => by kernel_rfl
    ef := fun args w => by kernel_rfl
    cw := fun w1 _ => stHead_word _ w1
    cf := fun w1 hb => stHead_fields w.heap.size r s0 s1 s2 s3 x0 x1 w1 (hk.below hb hk.lt) hk.lt hb.size }
  ints := hI
  few := (by decide : (2 : Nat) ≤ 20)
  short := (by decide : (5 : Nat) ≤ 100)

theorem stWork_word (p : Value) (w : World) : Calls Tryd.prog 190 #[p] w fun e w' => e = .returned (str [119, 111, 114, 107]) ∧ Below w.heap.size w w' := by
  go_enter Tryd.func190, Tryd.ntmps190
  go_wp2
  go_ret
  exact ⟨rfl, Below.refl _ _⟩
set_option maxHeartbeats 1000000 in
theorem stWork_fields (B r : Nat) (x0 x1 x2 : Int) (w : World) (hk : Blk w r #[.int .i64 x0, .int .i64 x1, .int .i64 x2] 93) (hb : r < B) (hB : B ≤ w.heap.size) :
    Calls Tryd.prog 189 #[.pointer (some ⟨r, 0, none⟩)] w fun e w' => ∃ g c, e = .returned (.slice (some ⟨g, 0, none⟩) 3 c) ∧ w.heap.size ≤ g ∧ PtrsAt B w' g [x0, x1, x2] ∧ Below w.heap.size w w' := by
  go_enter Tryd.func189, Tryd.ntmps189
  go_wp2
  go_region
  repeat (first | go_values | go_skip | go_guarded | go_step | go_upon)
  go_ret
  exact ⟨w.heap.size, 3, rfl, Nat.le_refl _, ptrs_new 162 [0, 1, 2] [x0, x1, x2] hk hb hB rfl _ rfl, by go_grown⟩
def stWork (r : Nat) (x0 x1 x2 : Int) : Ln := ⟨105, 190, 189, r, 93, #[.int .i64 x0, .int .i64 x1, .int .i64 x2], [119, 111, 114, 107], [x0, x1, x2]⟩
theorem stWork_ok (r : Nat) (x0 x1 x2 : Int) (hI : ∀ n ∈ [x0, x1, x2], I64 n) : LnOk (stWork r x0 x1 x2) where
  line := fun w hk => {
    mw := fun _ => by kernel_rfl
    mf := fun _ => by kernel_rfl
    ew := fun args w => by kernel_rfl
    ef := fun args w => by kernel_rfl
    cw := fun w1 _ => stWork_word _ w1
    cf := fun w1 hb => stWork_fields w.heap.size r x0 x1 x2 w1 (hk.below hb hk.lt) hk.lt hb.size }
  ints := hI
  few := (by decide : (3 : Nat) ≤ 20)
  short := (by decide : (4 : Nat) ≤ 100)

theorem stGroup_word (p : Value) (w : World) : Calls Tryd.prog 192 #[p] w fun e w' => e = .returned (str [103, 114, 111, 117, 112]) ∧ Below w.heap.size w w' := by
  go_enter Tryd.func192, Tryd.ntmps192
  go_wp2
  go_ret
  exact ⟨rfl, Below.refl _ _⟩
set_option maxHeartbeats 1000000 in
theorem stGroup_fields (B r : Nat) (x0 x1 x2 : Int) (w : World) (hk : Blk w r #[.int .i64 x0, .int .i64 x1, .int .i64 x2] 95) (hb : r < B) (hB : B ≤ w.heap.size) :
    Calls Tryd.prog 191 #[.pointer (some ⟨r, 0, none⟩)] w fun e w' => ∃ g c, e = .returned (.slice (some ⟨g, 0, none⟩) 3 c) ∧ w.heap.size ≤ g ∧ PtrsAt B w' g [x0, x1, x2] ∧ Below w.heap.size w w' := by
  go_enter Tryd.func191, Tryd.ntmps191
  go_wp2
  go_region
  repeat (first | go_values | go_skip | go_guarded | go_step | go_upon)
  go_ret
  exact ⟨w.heap.size, 3, rfl, Nat.le_refl _, ptrs_new 162 [0, 1, 2] [x0, x1, x2] hk hb hB rfl _ rfl, by go_grown⟩
def stGroup (r : Nat) (x0 x1 x2 : Int) : Ln := ⟨106, 192, 191, r, 95, #[.int .i64 x0, .int .i64 x1, .int .i64 x2], [103, 114, 111, 117, 112], [x0, x1, x2]⟩
theorem stGroup_ok (r : Nat) (x0 x1 x2 : Int) (hI : ∀ n ∈ [x0, x1, x2], I64 n) : LnOk (stGroup r x0 x1 x2) where
  line := fun w hk => {
    mw := fun _ => by kernel_rfl
    mf := fun _ => by kernel_rfl
    ew := fun args w => by kernel_rfl
    ef := fun args w => by kernel_rfl
    cw := fun w1 _ => stGroup_word _ w1
    cf := fun w1 hb => stGroup_fields w.heap.size r x0 x1 x2 w1 (hk.below hb hk.lt) hk.lt hb.size }
  ints := hI
  few := (by decide : (3 : Nat) ≤ 20)
  short := (by decide : (5 : Nat) ≤ 100)

theorem stNode_word (p : Value) (w : World) : Calls Tryd.prog 194 #[p] w fun e w' => e = .returned (str [110, 111, 100, 101]) ∧ Below w.heap.size w w' := by
  go_enter Tryd.func194, Tryd.ntmps194
  go_wp2
  go_ret
  exact ⟨rfl, Below.refl _ _⟩
set_option maxHeartbeats 1000000 in
theorem stNode_fields (B r : Nat) (x0 x1 x2 x3 : Int) (w : World) (hk : Blk w r #[.int .i64 x0, .int .i64 x1, .int .i64 x2, .int .i64 x3] 97) (hb : r < B) (hB : B ≤ w.heap.size) :
    Calls Tryd.prog 193 #[.pointer (some ⟨r, 0, none⟩)] w fun e w' => ∃ g c, e = .returned (.slice (some ⟨g, 0, none⟩) 4 c) ∧ w.heap.size ≤ g ∧ PtrsAt B w' g [x0, x1, x2, x3] ∧ Below w.heap.size w w' := by
  go_enter Tryd.func193, Tryd.ntmps193
  go_wp2
  go_region
  repeat (first | go_values | go_skip | go_guarded | go_step | go_upon)
  go_ret
  exact ⟨w.heap.size, 4, rfl, Nat.le_refl _, ptrs_new 162 [0, 1, 2, 3] [x0, x1, x2, x3] hk hb hB rfl _ rfl, by go_grown⟩
def stNode (r : Nat) (x0 x1 x2 x3 : Int) : Ln := ⟨107, 194, 193, r, 97, #[.int .i64 x0, .int .i64 x1, .int .i64 x2, .int .i64 x3], [110, 111, 100, 101], [x0, x1, x2, x3]⟩
theorem stNode_ok (r : Nat) (x0 x1 x2 x3 : Int) (hI : ∀ n ∈ [x0, x1, x2, x3], I64 n) : LnOk (stNode r x0 x1 x2 x3) where
  line := fun w hk => {
    mw := fun _ => by kernel_rfl
    mf := fun _ => by kernel_rfl
    ew := fun args w => by kernel_rfl
    ef := fun args w => by kernel_rfl
    cw := fun w1 _ => stNode_word _ w1
    cf := fun w1 hb => stNode_fields w.heap.size r x0 x1 x2 x3 w1 (hk.below hb hk.lt) hk.lt hb.size }
  ints := hI
  few := (by decide : (4 : Nat) ≤ 20)
  short := (by decide : (4 : Nat) ≤ 100)

theorem stPod_word (p : Value) (w : World) : Calls Tryd.prog 196 #[p] w fun e w' => e = .returned (str [112, 111, 100]) ∧ Below w.heap.size w w' := by
  go_enter Tryd.func196, Tryd.ntmps196
  go_wp2
  go_ret
  exact ⟨rfl, Below.refl _ _⟩
set_option maxHeartbeats 1000000 in
theorem stPod_fields (B r : Nat) (x0 x1 x2 x3 x4 : Int) (w : World) (hk : Blk w r #[.int .i64 x0, .int .i64 x1, .int .i64 x2, .int .i64 x3, .int .i64 x4] 99) (hb : r < B) (hB : B ≤ w.heap.size) :
    Calls Tryd.prog 195 #[.pointer (some ⟨r, 0, none⟩)] w fun e w' => ∃ g c, e = .returned (.slice (some ⟨g, 0, none⟩) 5 c) ∧ w.heap.size ≤ g ∧ PtrsAt B w' g [x0, x1, x2, x3, x4] ∧ Below w.heap.size w w' := by
  go_enter Tryd.func195, Tryd.ntmps195
  go_wp2
  go_region
  repeat (first | go_values | go_skip | go_guarded | go_step | go_upon)
  go_ret
  exact ⟨w.heap.size, 5, rfl, Nat.le_refl _, ptrs_new 162 [0, 1, 2, 3, 4] [x0, x1, x2, x3, x4] hk hb hB rfl _ rfl, by go_grown⟩
def stPod (r : Nat) (x0 x1 x2 x3 x4 : Int) : Ln := ⟨108, 196, 195, r, 99, #[.int .i64 x0, .int .i64 x1, .int .i64 x2, .int .i64 x3, .int .i64 x4], [112, 111, 100], [x0, x1, x2, x3, x4]⟩
theorem stPod_ok (r : Nat) (x0 x1 x2 x3 x4 : Int) (hI : ∀ n ∈ [x0, x1, x2, x3, x4], I64 n) : LnOk (stPod r x0 x1 x2 x3 x4) where
  line := fun w hk => {
    mw := fun _ => by kernel_rfl
    mf := fun _ => by kernel_rfl
    ew := fun args w => by kernel_rfl
    ef := fun args w => by kernel_rfl
    cw := fun w1 _ => stPod_word _ w1
    cf := fun w1 hb => stPod_fields w.heap.size r x0 x1 x2 x3 x4 w1 (hk.below hb hk.lt) hk.lt hb.size }
  ints := hI
  few := (by decide : (5 : Nat) ≤ 20)
  short := (by decide : (3 : Nat) ≤ 100)
end Go.Proofs.YtoceohacplmgnaaDoor
