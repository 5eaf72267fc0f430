/- A world for the witness of the reading rows: the library's tables and errors and the program's own error as their initialisers lay them. -/
import Derived.Test.YtoceohacplmgnaaDoorWt
namespace Go.Proofs.YtoceohacplmgnaaDoor
open Go.RowKit

def tab8 : Array Value := #[.int .u8 128, .int .u8 191, .int .u8 160, .int .u8 191, .int .u8 128, .int .u8 159, .int .u8 144, .int .u8 191, .int .u8 128, .int .u8 143, .int .u8 0, .int .u8 0, .int .u8 0, .int .u8 0, .int .u8 0, .int .u8 0, .int .u8 0, .int .u8 0, .int .u8 0, .int .u8 0, .int .u8 0, .int .u8 0, .int .u8 0, .int .u8 0, .int .u8 0, .int .u8 0, .int .u8 0, .int .u8 0, .int .u8 0, .int .u8 0, .int .u8 0, .int .u8 0]
def tab7 : Array Value := (Go.Pinned.utf8FirstZ.map fun (n : Nat) => Value.int .u8 n).toArray
abbrev noS : ByteArray := ⟨#[116, 104, 101, 32, 108, 105, 110, 101, 32, 105, 115, 32, 110, 111, 110, 101]⟩
abbrev synS : ByteArray := ⟨#[105, 110, 118, 97, 108, 105, 100, 32, 115, 121, 110, 116, 97, 120]⟩
abbrev ranS : ByteArray := ⟨#[118, 97, 108, 117, 101, 32, 111, 117, 116, 32, 111, 102, 32, 114, 97, 110, 103, 101]⟩
noncomputable def lowR : Nat := (World.holding Tryd.prog default ⟨#[], #[], []⟩).heap.size
noncomputable def laidWorldR (os : Os) : World :=
  let w0 := World.holding Tryd.prog os ⟨#[.cells #[.string noS] 239, .cells #[.string synS] 239, .cells #[.string ranS] 239], #[], []⟩
  { w0 with heap := (((((((w0.heap.modify 0 (put #[.iface 237 (.pointer (some ⟨lowR, 0, none⟩))])).modify 3 (put #[.iface 237 (.pointer (some ⟨lowR + 1, 0, none⟩))])).modify 4 (put #[.iface 237 (.pointer (some ⟨lowR + 2, 0, none⟩))])).modify 2 (put tab2)).modify 5 (put tab5)).modify 6 (put tab6)).modify 7 (put tab7)).modify 8 (put tab8) }
end Go.Proofs.YtoceohacplmgnaaDoor
