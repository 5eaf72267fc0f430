/-
  No cell of these rows narrows 'for every input' (looked for: loops, veiled, ifaces, maps, wideKeys, modest, calm, conditions, laid).
  DERIVED. THE GIVEN ROWS OF THIS SEAT. 9 by the template 'for every input the law returns true; each argument reads behind the call as it read before'; 0 by the template 'total and deterministic' (their statements: YthpjejnnagamiaaTotals.lean).
  GIVEN WITH THE SEED: the statements are not yours to turn. If you find one false, say at which input.
  Laid BY PROGRAM, IN A SANDBOX (cutbox-rows.mjs): the forced cells as the released guide's own fill.sh prints them over the translation 994d8176ec3a7753… (all of the seat's roots in one cut). By AI agents, Wed Nov 11 2026. No macro, syntax, notation, axiom, sorry.
-/
import Derived.Test.YthpjejnnagamiaaChecked
import GoSem.Claim
import GoSem.ClaimJoined
import GoSem.ClaimMapViews
import Derived.JoinedTies
import Derived.KernelRfl
namespace Go.Proofs.Ythpjejnnagamiaa
/- THE CELL 'sum', in the pinned program and in every row, IS THE sha256 OF THE DUMP (.gsa) THAT YthpjejnnagamiaaProg.lean LOADS. Nothing in Lean hashes anything: it is a label: what it is worth is what the hold of that sum in a sandbox is worth. -/
noncomputable def Try.pinned : Pinned := { name := "ythpjejnnagamiaa", sum := "994d8176ec3a7753a1cd5e7e50af275a90ee14b170ab67f45f912b89147dd480", checked := Try.checked }
namespace Rows
def none {H : Type} : Left H := { results := [], args := [] }

/-- 'laws.FnSize': WHATEVER THE INPUT: true; the input reads as it did. -/
def fnSizeSpec : ChangeSpec := { name := "fnSize", fn := fun _ => fun
  | [d] => { results := [.lit (.bool true)], args := [d] }
  | _ => none }
def fnSizeRow : OpenClaim := { program := "ythpjejnnagamiaa", sum := "994d8176ec3a7753a1cd5e7e50af275a90ee14b170ab67f45f912b89147dd480", func := "loop.example/hive/laws.FnSize", spec := "fnSize", apart := false }
def FnSizeSaid : Prop := fnSizeRow.holds Try.pinned (OpenSpec.ofChange fnSizeSpec)

/-- ITS FALSE NEIGHBOUR: 'it returns false'. Refute it at one input. -/
def fnSizeWrong : ChangeSpec := { name := "fnSize", fn := fun _ => fun
  | [d] => { results := [.lit (.bool false)], args := [d] }
  | _ => none }
def FnSizeWrongFalsely : Prop := fnSizeRow.holds Try.pinned (OpenSpec.ofChange fnSizeWrong)

/-- 'laws.FnSizeMost': WHATEVER THE INPUT: true; the input reads as it did. -/
def fnSizeMostSpec : ChangeSpec := { name := "fnSizeMost", fn := fun _ => fun
  | [d1, d2] => { results := [.lit (.bool true)], args := [d1, d2] }
  | _ => none }
def fnSizeMostRow : OpenClaim := { program := "ythpjejnnagamiaa", sum := "994d8176ec3a7753a1cd5e7e50af275a90ee14b170ab67f45f912b89147dd480", func := "loop.example/hive/laws.FnSizeMost", spec := "fnSizeMost", apart := false }
def FnSizeMostSaid : Prop := fnSizeMostRow.holds Try.pinned (OpenSpec.ofChange fnSizeMostSpec)

/-- ITS FALSE NEIGHBOUR: 'it returns false'. Refute it at one input. -/
def fnSizeMostWrong : ChangeSpec := { name := "fnSizeMost", fn := fun _ => fun
  | [d1, d2] => { results := [.lit (.bool false)], args := [d1, d2] }
  | _ => none }
def FnSizeMostWrongFalsely : Prop := fnSizeMostRow.holds Try.pinned (OpenSpec.ofChange fnSizeMostWrong)

/-- 'laws.FnSizeLess': WHATEVER THE INPUT: true; the input reads as it did. -/
def fnSizeLessSpec : ChangeSpec := { name := "fnSizeLess", fn := fun _ => fun
  | [d1, d2] => { results := [.lit (.bool true)], args := [d1, d2] }
  | _ => none }
def fnSizeLessRow : OpenClaim := { program := "ythpjejnnagamiaa", sum := "994d8176ec3a7753a1cd5e7e50af275a90ee14b170ab67f45f912b89147dd480", func := "loop.example/hive/laws.FnSizeLess", spec := "fnSizeLess", apart := false }
def FnSizeLessSaid : Prop := fnSizeLessRow.holds Try.pinned (OpenSpec.ofChange fnSizeLessSpec)

/-- ITS FALSE NEIGHBOUR: 'it returns false'. Refute it at one input. -/
def fnSizeLessWrong : ChangeSpec := { name := "fnSizeLess", fn := fun _ => fun
  | [d1, d2] => { results := [.lit (.bool false)], args := [d1, d2] }
  | _ => none }
def FnSizeLessWrongFalsely : Prop := fnSizeLessRow.holds Try.pinned (OpenSpec.ofChange fnSizeLessWrong)

/-- 'laws.FnExactSizeOk': WHATEVER THE INPUT: true; the input reads as it did. -/
def fnExactSizeOkSpec : ChangeSpec := { name := "fnExactSizeOk", fn := fun _ => fun
  | [d] => { results := [.lit (.bool true)], args := [d] }
  | _ => none }
def fnExactSizeOkRow : OpenClaim := { program := "ythpjejnnagamiaa", sum := "994d8176ec3a7753a1cd5e7e50af275a90ee14b170ab67f45f912b89147dd480", func := "loop.example/hive/laws.FnExactSizeOk", spec := "fnExactSizeOk", apart := false }
def FnExactSizeOkSaid : Prop := fnExactSizeOkRow.holds Try.pinned (OpenSpec.ofChange fnExactSizeOkSpec)

/-- ITS FALSE NEIGHBOUR: 'it returns false'. Refute it at one input. -/
def fnExactSizeOkWrong : ChangeSpec := { name := "fnExactSizeOk", fn := fun _ => fun
  | [d] => { results := [.lit (.bool false)], args := [d] }
  | _ => none }
def FnExactSizeOkWrongFalsely : Prop := fnExactSizeOkRow.holds Try.pinned (OpenSpec.ofChange fnExactSizeOkWrong)

/-- 'laws.FnExactSizeAdd': WHATEVER THE INPUT: true; the input reads as it did. -/
def fnExactSizeAddSpec : ChangeSpec := { name := "fnExactSizeAdd", fn := fun _ => fun
  | [d1, d2] => { results := [.lit (.bool true)], args := [d1, d2] }
  | _ => none }
def fnExactSizeAddRow : OpenClaim := { program := "ythpjejnnagamiaa", sum := "994d8176ec3a7753a1cd5e7e50af275a90ee14b170ab67f45f912b89147dd480", func := "loop.example/hive/laws.FnExactSizeAdd", spec := "fnExactSizeAdd", apart := false }
def FnExactSizeAddSaid : Prop := fnExactSizeAddRow.holds Try.pinned (OpenSpec.ofChange fnExactSizeAddSpec)

/-- ITS FALSE NEIGHBOUR: 'it returns false'. Refute it at one input. -/
def fnExactSizeAddWrong : ChangeSpec := { name := "fnExactSizeAdd", fn := fun _ => fun
  | [d1, d2] => { results := [.lit (.bool false)], args := [d1, d2] }
  | _ => none }
def FnExactSizeAddWrongFalsely : Prop := fnExactSizeAddRow.holds Try.pinned (OpenSpec.ofChange fnExactSizeAddWrong)

/-- 'laws.FnExactSizeLess': WHATEVER THE INPUT: true; the input reads as it did. -/
def fnExactSizeLessSpec : ChangeSpec := { name := "fnExactSizeLess", fn := fun _ => fun
  | [d1, d2] => { results := [.lit (.bool true)], args := [d1, d2] }
  | _ => none }
def fnExactSizeLessRow : OpenClaim := { program := "ythpjejnnagamiaa", sum := "994d8176ec3a7753a1cd5e7e50af275a90ee14b170ab67f45f912b89147dd480", func := "loop.example/hive/laws.FnExactSizeLess", spec := "fnExactSizeLess", apart := false }
def FnExactSizeLessSaid : Prop := fnExactSizeLessRow.holds Try.pinned (OpenSpec.ofChange fnExactSizeLessSpec)

/-- ITS FALSE NEIGHBOUR: 'it returns false'. Refute it at one input. -/
def fnExactSizeLessWrong : ChangeSpec := { name := "fnExactSizeLess", fn := fun _ => fun
  | [d1, d2] => { results := [.lit (.bool false)], args := [d1, d2] }
  | _ => none }
def FnExactSizeLessWrongFalsely : Prop := fnExactSizeLessRow.holds Try.pinned (OpenSpec.ofChange fnExactSizeLessWrong)

/-- 'laws.FnExactSizeFits': WHATEVER THE INPUT: true; the input reads as it did. -/
def fnExactSizeFitsSpec : ChangeSpec := { name := "fnExactSizeFits", fn := fun _ => fun
  | [d1, d2] => { results := [.lit (.bool true)], args := [d1, d2] }
  | _ => none }
def fnExactSizeFitsRow : OpenClaim := { program := "ythpjejnnagamiaa", sum := "994d8176ec3a7753a1cd5e7e50af275a90ee14b170ab67f45f912b89147dd480", func := "loop.example/hive/laws.FnExactSizeFits", spec := "fnExactSizeFits", apart := false }
def FnExactSizeFitsSaid : Prop := fnExactSizeFitsRow.holds Try.pinned (OpenSpec.ofChange fnExactSizeFitsSpec)

/-- ITS FALSE NEIGHBOUR: 'it returns false'. Refute it at one input. -/
def fnExactSizeFitsWrong : ChangeSpec := { name := "fnExactSizeFits", fn := fun _ => fun
  | [d1, d2] => { results := [.lit (.bool false)], args := [d1, d2] }
  | _ => none }
def FnExactSizeFitsWrongFalsely : Prop := fnExactSizeFitsRow.holds Try.pinned (OpenSpec.ofChange fnExactSizeFitsWrong)

/-- 'laws.FnExactSizeMost': WHATEVER THE INPUT: true; the input reads as it did. -/
def fnExactSizeMostSpec : ChangeSpec := { name := "fnExactSizeMost", fn := fun _ => fun
  | [d1, d2] => { results := [.lit (.bool true)], args := [d1, d2] }
  | _ => none }
def fnExactSizeMostRow : OpenClaim := { program := "ythpjejnnagamiaa", sum := "994d8176ec3a7753a1cd5e7e50af275a90ee14b170ab67f45f912b89147dd480", func := "loop.example/hive/laws.FnExactSizeMost", spec := "fnExactSizeMost", apart := false }
def FnExactSizeMostSaid : Prop := fnExactSizeMostRow.holds Try.pinned (OpenSpec.ofChange fnExactSizeMostSpec)

/-- ITS FALSE NEIGHBOUR: 'it returns false'. Refute it at one input. -/
def fnExactSizeMostWrong : ChangeSpec := { name := "fnExactSizeMost", fn := fun _ => fun
  | [d1, d2] => { results := [.lit (.bool false)], args := [d1, d2] }
  | _ => none }
def FnExactSizeMostWrongFalsely : Prop := fnExactSizeMostRow.holds Try.pinned (OpenSpec.ofChange fnExactSizeMostWrong)

/-- 'laws.FnExactSizeSlots': WHATEVER THE INPUT: true; the input reads as it did. -/
def fnExactSizeSlotsSpec : ChangeSpec := { name := "fnExactSizeSlots", fn := fun _ => fun
  | [d1, d2] => { results := [.lit (.bool true)], args := [d1, d2] }
  | _ => none }
def fnExactSizeSlotsRow : OpenClaim := { program := "ythpjejnnagamiaa", sum := "994d8176ec3a7753a1cd5e7e50af275a90ee14b170ab67f45f912b89147dd480", func := "loop.example/hive/laws.FnExactSizeSlots", spec := "fnExactSizeSlots", apart := false }
def FnExactSizeSlotsSaid : Prop := fnExactSizeSlotsRow.holds Try.pinned (OpenSpec.ofChange fnExactSizeSlotsSpec)

/-- ITS FALSE NEIGHBOUR: 'it returns false'. Refute it at one input. -/
def fnExactSizeSlotsWrong : ChangeSpec := { name := "fnExactSizeSlots", fn := fun _ => fun
  | [d1, d2] => { results := [.lit (.bool false)], args := [d1, d2] }
  | _ => none }
def FnExactSizeSlotsWrongFalsely : Prop := fnExactSizeSlotsRow.holds Try.pinned (OpenSpec.ofChange fnExactSizeSlotsWrong)

/- THE SECOND FORM. 'bulk': how many values and letters a reading holds, each counted each time it is reached (what is shared counts as often as it is met; a slice's spare places count too). A statement '..UptoSaid' is the law's where the arguments, and the package variables that the reading takes, are together of bulk at most 1048576: NARROWER than '..Said'. Prove '..Said' where nothing that the law and all that it calls make is longer than what came in: it says more and counts as full. Else prove '..UptoSaid'. A law counts once. -/
mutual
def uptoBulk {H : Type} : DataW H → Nat
  | .lit (.string bytes) => bytes.length + 1
  | .lit _ => 1
  | .nil => 1
  | .ptr d => uptoBulk d + 1
  | .slice elems spare => uptoBulkAll elems + uptoBulkAll spare + 1
  | .agg parts => uptoBulkAll parts + 1
  | .iface _ d => uptoBulk d + 1
  | .map entries => uptoBulkEntries entries + 1
  | .held _ => 1
def uptoBulkAll {H : Type} : List (DataW H) → Nat
  | [] => 0
  | d :: r => uptoBulk d + uptoBulkAll r
def uptoBulkEntries {H : Type} : List (Lit × DataW H) → Nat
  | [] => 0
  | x :: r => uptoBulkEntry x + uptoBulkEntries r
def uptoBulkEntry {H : Type} : Lit × DataW H → Nat
  | (.string bytes, d) => bytes.length + uptoBulk d + 1
  | (_, d) => uptoBulk d + 1
 end
def uptoSmall : (H : Type) → List (DataW H) → Bool := fun _ ds => decide (uptoBulkAll ds ≤ 1048576)
def OpenSpec.upto (s : _root_.Go.ChangeSpec) : _root_.Go.OpenSpec := { _root_.Go.OpenSpec.ofChange s with cond := some uptoSmall }

/-- 'laws.FnSize', WHERE WHAT IT READS IS OF BULK AT MOST 1048576: true; the input reads as it did. -/
def fnSizeUptoRow : OpenClaim := { program := "ythpjejnnagamiaa", sum := "994d8176ec3a7753a1cd5e7e50af275a90ee14b170ab67f45f912b89147dd480", func := "loop.example/hive/laws.FnSize", spec := "fnSize", apart := false, narrowed := true }
def FnSizeUptoSaid : Prop := fnSizeUptoRow.holds Try.pinned (OpenSpec.upto fnSizeSpec)

/-- 'laws.FnSizeMost', WHERE WHAT IT READS IS OF BULK AT MOST 1048576: true; the input reads as it did. -/
def fnSizeMostUptoRow : OpenClaim := { program := "ythpjejnnagamiaa", sum := "994d8176ec3a7753a1cd5e7e50af275a90ee14b170ab67f45f912b89147dd480", func := "loop.example/hive/laws.FnSizeMost", spec := "fnSizeMost", apart := false, narrowed := true }
def FnSizeMostUptoSaid : Prop := fnSizeMostUptoRow.holds Try.pinned (OpenSpec.upto fnSizeMostSpec)

/-- 'laws.FnSizeLess', WHERE WHAT IT READS IS OF BULK AT MOST 1048576: true; the input reads as it did. -/
def fnSizeLessUptoRow : OpenClaim := { program := "ythpjejnnagamiaa", sum := "994d8176ec3a7753a1cd5e7e50af275a90ee14b170ab67f45f912b89147dd480", func := "loop.example/hive/laws.FnSizeLess", spec := "fnSizeLess", apart := false, narrowed := true }
def FnSizeLessUptoSaid : Prop := fnSizeLessUptoRow.holds Try.pinned (OpenSpec.upto fnSizeLessSpec)

/-- 'laws.FnExactSizeOk', WHERE WHAT IT READS IS OF BULK AT MOST 1048576: true; the input reads as it did. -/
def fnExactSizeOkUptoRow : OpenClaim := { program := "ythpjejnnagamiaa", sum := "994d8176ec3a7753a1cd5e7e50af275a90ee14b170ab67f45f912b89147dd480", func := "loop.example/hive/laws.FnExactSizeOk", spec := "fnExactSizeOk", apart := false, narrowed := true }
def FnExactSizeOkUptoSaid : Prop := fnExactSizeOkUptoRow.holds Try.pinned (OpenSpec.upto fnExactSizeOkSpec)

/-- 'laws.FnExactSizeAdd', WHERE WHAT IT READS IS OF BULK AT MOST 1048576: true; the input reads as it did. -/
def fnExactSizeAddUptoRow : OpenClaim := { program := "ythpjejnnagamiaa", sum := "994d8176ec3a7753a1cd5e7e50af275a90ee14b170ab67f45f912b89147dd480", func := "loop.example/hive/laws.FnExactSizeAdd", spec := "fnExactSizeAdd", apart := false, narrowed := true }
def FnExactSizeAddUptoSaid : Prop := fnExactSizeAddUptoRow.holds Try.pinned (OpenSpec.upto fnExactSizeAddSpec)

/-- 'laws.FnExactSizeLess', WHERE WHAT IT READS IS OF BULK AT MOST 1048576: true; the input reads as it did. -/
def fnExactSizeLessUptoRow : OpenClaim := { program := "ythpjejnnagamiaa", sum := "994d8176ec3a7753a1cd5e7e50af275a90ee14b170ab67f45f912b89147dd480", func := "loop.example/hive/laws.FnExactSizeLess", spec := "fnExactSizeLess", apart := false, narrowed := true }
def FnExactSizeLessUptoSaid : Prop := fnExactSizeLessUptoRow.holds Try.pinned (OpenSpec.upto fnExactSizeLessSpec)

/-- 'laws.FnExactSizeFits', WHERE WHAT IT READS IS OF BULK AT MOST 1048576: true; the input reads as it did. -/
def fnExactSizeFitsUptoRow : OpenClaim := { program := "ythpjejnnagamiaa", sum := "994d8176ec3a7753a1cd5e7e50af275a90ee14b170ab67f45f912b89147dd480", func := "loop.example/hive/laws.FnExactSizeFits", spec := "fnExactSizeFits", apart := false, narrowed := true }
def FnExactSizeFitsUptoSaid : Prop := fnExactSizeFitsUptoRow.holds Try.pinned (OpenSpec.upto fnExactSizeFitsSpec)

/-- 'laws.FnExactSizeMost', WHERE WHAT IT READS IS OF BULK AT MOST 1048576: true; the input reads as it did. -/
def fnExactSizeMostUptoRow : OpenClaim := { program := "ythpjejnnagamiaa", sum := "994d8176ec3a7753a1cd5e7e50af275a90ee14b170ab67f45f912b89147dd480", func := "loop.example/hive/laws.FnExactSizeMost", spec := "fnExactSizeMost", apart := false, narrowed := true }
def FnExactSizeMostUptoSaid : Prop := fnExactSizeMostUptoRow.holds Try.pinned (OpenSpec.upto fnExactSizeMostSpec)

/-- 'laws.FnExactSizeSlots', WHERE WHAT IT READS IS OF BULK AT MOST 1048576: true; the input reads as it did. -/
def fnExactSizeSlotsUptoRow : OpenClaim := { program := "ythpjejnnagamiaa", sum := "994d8176ec3a7753a1cd5e7e50af275a90ee14b170ab67f45f912b89147dd480", func := "loop.example/hive/laws.FnExactSizeSlots", spec := "fnExactSizeSlots", apart := false, narrowed := true }
def FnExactSizeSlotsUptoSaid : Prop := fnExactSizeSlotsUptoRow.holds Try.pinned (OpenSpec.upto fnExactSizeSlotsSpec)

end Rows
end Go.Proofs.Ythpjejnnagamiaa
