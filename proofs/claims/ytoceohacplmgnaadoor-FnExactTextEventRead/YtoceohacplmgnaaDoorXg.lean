/- What the reading rows' lists give: the library's tables and errors, the program's own error; and a world for the witness. -/
import Derived.Test.YtoceohacplmgnaaDoorXa
import Derived.Test.YtoceohacplmgnaaDoorWt
import Derived.Stop.LaidErr
import Derived.HandedShaped
namespace Go.Proofs.YtoceohacplmgnaaDoor
open Go.RowKit Go.ChangeShapes

theorem gNo : Tryd.prog.globalNamed "loop.example/hive/impl.errNoLine" = some 0 := by kernel_rfl
theorem gSyn : Tryd.prog.globalNamed "strconv.ErrSyntax" = some 3 := by kernel_rfl
theorem gRan : Tryd.prog.globalNamed "strconv.ErrRange" = some 4 := by kernel_rfl
theorem gAcc : Tryd.prog.globalNamed "unicode/utf8.acceptRanges" = some 8 := by kernel_rfl
theorem gNoType : (Tryd.prog.globals[0]?).map (·.type) = some 183 := by kernel_rfl
theorem gSynType : (Tryd.prog.globals[3]?).map (·.type) = some 183 := by kernel_rfl
theorem gRanType : (Tryd.prog.globals[4]?).map (·.type) = some 183 := by kernel_rfl
theorem cells239 : Tryd.prog.cellsOf 239 = 1 := by kernel_rfl
theorem cells9 : Tryd.prog.cellsOf 9 = 1 := by kernel_rfl
theorem star : "*" ++ "errors.errorString" = "*errors.errorString" := by decide
theorem row237 (u : TypeId) (h : Tryd.prog.typeName? 3 u = some "*errors.errorString") : u = 237 :=
  typeName_ptr_named (nm := "errors.errorString") (by rw [star]; kernel_rfl) (by kernel_rfl) (by decide) u (by rw [star]; exact h)
abbrev rd := Rows.fnExactTextEventReadRow.laid
theorem cell_of_var {W : World} {n : String} {g : Nat} {x : Value} (hg : Tryd.prog.globalNamed n = some g) (h : W.var? Tryd.prog n = some #[x]) : W.cell? ⟨g, 0, none⟩ = some x := by
  simpa using World.var?_cell hg h 0
set_option maxRecDepth 100000 in
theorem no_of_laid {W : World} (h : laidMetH Tryd.prog rd W) : ∃ a, W.var? Tryd.prog "loop.example/hive/impl.errNoLine" = some #[.iface 237 (.pointer (some a))] := by
  obtain ⟨a, s, h1, _⟩ := laid_sentinel (r := []) (h.filter fun x => x.1 == "loop.example/hive/impl.errNoLine") gNo gNoType Tryd.underlying183 row237 Tryd.underlying237 Tryd.underlying239 rfl rfl Tryd.underlying9 cells239 cells9
  exact ⟨a, h1⟩
set_option maxRecDepth 100000 in
theorem syn_of_laid {W : World} (h : laidMetH Tryd.prog rd W) : ∃ a, W.var? Tryd.prog "strconv.ErrSyntax" = some #[.iface 237 (.pointer (some a))] := by
  obtain ⟨a, s, h1, _⟩ := laid_sentinel (r := []) (h.filter fun x => x.1 == "strconv.ErrSyntax") gSyn gSynType Tryd.underlying183 row237 Tryd.underlying237 Tryd.underlying239 rfl rfl Tryd.underlying9 cells239 cells9
  exact ⟨a, h1⟩
set_option maxRecDepth 100000 in
theorem ran_of_laid {W : World} (h : laidMetH Tryd.prog rd W) : ∃ a, W.var? Tryd.prog "strconv.ErrRange" = some #[.iface 237 (.pointer (some a))] := by
  obtain ⟨a, s, h1, _⟩ := laid_sentinel (r := []) (h.filter fun x => x.1 == "strconv.ErrRange") gRan gRanType Tryd.underlying183 row237 Tryd.underlying237 Tryd.underlying239 rfl rfl Tryd.underlying9 cells239 cells9
  exact ⟨a, h1⟩
set_option maxRecDepth 100000 in
theorem tab_of_rd {W : World} (h : laidMetH Tryd.prog rd W) : Tab W :=
  Lib.tabIs_of_head (rest := []) gTab gTabType Tryd.underlying209 Tryd.underlying198 cells198 cells209 (h.filter fun x => x.1 == "internal/strconv.uint64pow10")
set_option maxRecDepth 100000 in
theorem big_of_rd {W : World} (h : laidMetH Tryd.prog rd W) : 9 ≤ W.heap.size := by
  have h1 : laidMet Tryd.prog [("unicode/utf8.acceptRanges", Rows.laid_unicode_utf8_acceptRanges)] W := (h.filter fun x => x.1 == "unicode/utf8.acceptRanges")
  obtain ⟨ps, ⟨g0, t0, cs0, f0, p0, q0, hg0, ht0, hv0, _⟩, _⟩ := h1
  obtain rfl := Option.some.inj (gAcc.symm.trans hg0)
  have := World.var?_cell hg0 hv0 0
  rcases Nat.lt_or_ge 8 W.heap.size with h' | h'
  · exact h'
  · unfold World.var? at hv0
    rw [hg0] at hv0
    simp only [Option.bind_some] at hv0
    rw [Array.getElem?_eq_none h'] at hv0
    cases hv0
end Go.Proofs.YtoceohacplmgnaaDoor
