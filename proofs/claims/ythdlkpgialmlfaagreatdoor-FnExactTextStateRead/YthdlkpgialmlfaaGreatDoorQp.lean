/- What the reading rows' lists give: the library's tables and errors, the program's own error; and a world for the witness. -/
import Derived.Test.YthdlkpgialmlfaaGreatDoorXa
import Derived.Test.YthdlkpgialmlfaaGreatDoorRows
import Derived.Lib.LaidTab
import Derived.LaidSub
import Derived.Stop.LaidErr
import Derived.HandedShaped
namespace Go.Proofs.YthdlkpgialmlfaaGreatDoor
open Go.RowKit Go.ChangeShapes


theorem gTab : Tryz.prog.globalNamed "internal/strconv.uint64pow10" = some 6 := by kernel_rfl
theorem gTabType : (Tryz.prog.globals[6]?).map (·.type) = some 189 := by kernel_rfl
theorem cells189 : Tryz.prog.cellsOf 189 = 20 := by kernel_rfl
theorem cells171 : Tryz.prog.cellsOf 171 = 1 := by kernel_rfl
def tab2 : Array Value := #[.int .u64 1, .int .u64 10, .int .u64 100, .int .u64 1000, .int .u64 10000, .int .u64 100000, .int .u64 1000000, .int .u64 10000000, .int .u64 100000000, .int .u64 1000000000, .int .u64 10000000000, .int .u64 100000000000, .int .u64 1000000000000, .int .u64 10000000000000, .int .u64 100000000000000, .int .u64 1000000000000000, .int .u64 10000000000000000, .int .u64 100000000000000000, .int .u64 1000000000000000000, .int .u64 10000000000000000000]
def tab5 : Array Value := #[.int .u8 0, .int .u8 1, .int .u8 28, .int .u8 2, .int .u8 29, .int .u8 14, .int .u8 24, .int .u8 3, .int .u8 30, .int .u8 22, .int .u8 20, .int .u8 15, .int .u8 25, .int .u8 17, .int .u8 4, .int .u8 8, .int .u8 31, .int .u8 27, .int .u8 13, .int .u8 23, .int .u8 21, .int .u8 19, .int .u8 16, .int .u8 7, .int .u8 26, .int .u8 12, .int .u8 18, .int .u8 6, .int .u8 11, .int .u8 5, .int .u8 10, .int .u8 9]
def tab6 : Array Value := #[.int .u8 0, .int .u8 1, .int .u8 56, .int .u8 2, .int .u8 57, .int .u8 49, .int .u8 28, .int .u8 3, .int .u8 61, .int .u8 58, .int .u8 42, .int .u8 50, .int .u8 38, .int .u8 29, .int .u8 17, .int .u8 4, .int .u8 62, .int .u8 47, .int .u8 59, .int .u8 36, .int .u8 45, .int .u8 43, .int .u8 51, .int .u8 22, .int .u8 53, .int .u8 39, .int .u8 33, .int .u8 30, .int .u8 24, .int .u8 18, .int .u8 12, .int .u8 5, .int .u8 63, .int .u8 55, .int .u8 48, .int .u8 27, .int .u8 60, .int .u8 41, .int .u8 37, .int .u8 16, .int .u8 46, .int .u8 35, .int .u8 44, .int .u8 21, .int .u8 52, .int .u8 32, .int .u8 23, .int .u8 11, .int .u8 54, .int .u8 26, .int .u8 40, .int .u8 15, .int .u8 34, .int .u8 20, .int .u8 31, .int .u8 10, .int .u8 25, .int .u8 14, .int .u8 19, .int .u8 9, .int .u8 13, .int .u8 8, .int .u8 7, .int .u8 6]
def put (a : Array Value) : Obj → Obj
  | .cells _ t frozen => .cells a t frozen
  | o => o

theorem gNo : Tryz.prog.globalNamed "loop.example/hive/impl.errNoLine" = some 0 := by kernel_rfl
theorem gSyn : Tryz.prog.globalNamed "strconv.ErrSyntax" = some 4 := by kernel_rfl
theorem gRan : Tryz.prog.globalNamed "strconv.ErrRange" = some 5 := by kernel_rfl
theorem gAcc : Tryz.prog.globalNamed "math/bits.deBruijn64tab" = some 8 := by kernel_rfl
theorem gNoType : (Tryz.prog.globals[0]?).map (·.type) = some 129 := by kernel_rfl
theorem gSynType : (Tryz.prog.globals[4]?).map (·.type) = some 129 := by kernel_rfl
theorem gRanType : (Tryz.prog.globals[5]?).map (·.type) = some 129 := by kernel_rfl
theorem cells187 : Tryz.prog.cellsOf 187 = 1 := by kernel_rfl
theorem cells9 : Tryz.prog.cellsOf 9 = 1 := by kernel_rfl
theorem star : "*" ++ "errors.errorString" = "*errors.errorString" := by decide
theorem row185 (u : TypeId) (h : Tryz.prog.typeName? 3 u = some "*errors.errorString") : u = 185 :=
  typeName_ptr_named (nm := "errors.errorString") (by rw [star]; kernel_rfl) (by kernel_rfl) (by decide) u (by rw [star]; exact h)
abbrev rd := Rows.fnExactTextStateReadRow.laid
theorem cell_of_var {W : World} {n : String} {g : Nat} {x : Value} (hg : Tryz.prog.globalNamed n = some g) (h : W.var? Tryz.prog n = some #[x]) : W.cell? ⟨g, 0, none⟩ = some x := by
  simpa using World.var?_cell hg h 0
set_option maxRecDepth 100000 in
theorem no_of_laid {W : World} (h : laidMetH Tryz.prog rd W) : ∃ a, W.var? Tryz.prog "loop.example/hive/impl.errNoLine" = some #[.iface 185 (.pointer (some a))] := by
  obtain ⟨a, s, h1, _⟩ := laid_sentinel (r := []) (h.filter fun x => x.1 == "loop.example/hive/impl.errNoLine") gNo gNoType Tryz.underlying129 row185 Tryz.underlying185 Tryz.underlying187 rfl rfl Tryz.underlying9 cells187 cells9
  exact ⟨a, h1⟩
set_option maxRecDepth 100000 in
theorem syn_of_laid {W : World} (h : laidMetH Tryz.prog rd W) : ∃ a, W.var? Tryz.prog "strconv.ErrSyntax" = some #[.iface 185 (.pointer (some a))] := by
  obtain ⟨a, s, h1, _⟩ := laid_sentinel (r := []) (h.filter fun x => x.1 == "strconv.ErrSyntax") gSyn gSynType Tryz.underlying129 row185 Tryz.underlying185 Tryz.underlying187 rfl rfl Tryz.underlying9 cells187 cells9
  exact ⟨a, h1⟩
set_option maxRecDepth 100000 in
theorem ran_of_laid {W : World} (h : laidMetH Tryz.prog rd W) : ∃ a, W.var? Tryz.prog "strconv.ErrRange" = some #[.iface 185 (.pointer (some a))] := by
  obtain ⟨a, s, h1, _⟩ := laid_sentinel (r := []) (h.filter fun x => x.1 == "strconv.ErrRange") gRan gRanType Tryz.underlying129 row185 Tryz.underlying185 Tryz.underlying187 rfl rfl Tryz.underlying9 cells187 cells9
  exact ⟨a, h1⟩
set_option maxRecDepth 100000 in
theorem tab_of_rd {W : World} (h : laidMetH Tryz.prog rd W) : Tab W :=
  Lib.tabIs_of_head (rest := []) gTab gTabType Tryz.underlying189 Tryz.underlying171 cells171 cells189 (h.filter fun x => x.1 == "internal/strconv.uint64pow10")
set_option maxRecDepth 100000 in
theorem big_of_rd {W : World} (h : laidMetH Tryz.prog rd W) : 9 ≤ W.heap.size := by
  have h1 : laidMet Tryz.prog [("math/bits.deBruijn64tab", Rows.laid_math_bits_deBruijn64tab)] W := (h.filter fun x => x.1 == "math/bits.deBruijn64tab")
  obtain ⟨ps, ⟨g0, t0, cs0, f0, p0, q0, hg0, ht0, hv0, _⟩, _⟩ := h1
  obtain rfl := Option.some.inj (gAcc.symm.trans hg0)
  have := World.var?_cell hg0 hv0 0
  rcases Nat.lt_or_ge 8 W.heap.size with h' | h'
  · exact h'
  · unfold World.var? at hv0
    rw [hg0] at hv0
    simp only [Option.bind_some] at hv0
    rw [Array.getElem?_eq_none h'] at hv0
    cases hv0

def tab8 : Array Value := #[.int .u8 128, .int .u8 191, .int .u8 160, .int .u8 191, .int .u8 128, .int .u8 159, .int .u8 144, .int .u8 191, .int .u8 128, .int .u8 143, .int .u8 0, .int .u8 0, .int .u8 0, .int .u8 0, .int .u8 0, .int .u8 0, .int .u8 0, .int .u8 0, .int .u8 0, .int .u8 0, .int .u8 0, .int .u8 0, .int .u8 0, .int .u8 0, .int .u8 0, .int .u8 0, .int .u8 0, .int .u8 0, .int .u8 0, .int .u8 0, .int .u8 0, .int .u8 0]
def tab7 : Array Value := (Go.Pinned.utf8FirstZ.map fun (n : Nat) => Value.int .u8 n).toArray
abbrev noTx : ByteArray := ⟨#[116, 104, 101, 32, 108, 105, 110, 101, 32, 105, 115, 32, 110, 111, 110, 101]⟩
abbrev synS : ByteArray := ⟨#[105, 110, 118, 97, 108, 105, 100, 32, 115, 121, 110, 116, 97, 120]⟩
abbrev ranS : ByteArray := ⟨#[118, 97, 108, 117, 101, 32, 111, 117, 116, 32, 111, 102, 32, 114, 97, 110, 103, 101]⟩
noncomputable def lowR : Nat := (World.holding Tryz.prog default ⟨#[], #[], []⟩).heap.size
noncomputable def laidWorldR (os : Os) : World :=
  let w0 := World.holding Tryz.prog os ⟨#[.cells #[.string noTx] 187, .cells #[.string synS] 187, .cells #[.string ranS] 187], #[], []⟩
  { w0 with heap := (((((((w0.heap.modify 0 (put #[.iface 185 (.pointer (some ⟨lowR, 0, none⟩))])).modify 4 (put #[.iface 185 (.pointer (some ⟨lowR + 1, 0, none⟩))])).modify 5 (put #[.iface 185 (.pointer (some ⟨lowR + 2, 0, none⟩))])).modify 6 (put tab2)).modify 7 (put tab5)).modify 8 (put tab6)).modify 2 (put tab7)).modify 3 (put tab8) }
end Go.Proofs.YthdlkpgialmlfaaGreatDoor
