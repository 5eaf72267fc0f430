/-
  No cell of these rows narrows 'for every input' (looked for: loops, veiled, ifaces, maps, wideKeys, modest, calm, conditions, laid).
  DERIVED. THE GIVEN ROWS OF THIS SEAT. 4 by the template 'for every input the law returns true; each argument reads behind the call as it read before'; 0 by the template 'total and deterministic' (their statements: YtifijknogofklaaTotals.lean).
  GIVEN WITH THE SEED: the statements are not yours to turn. If you find one false, say at which input.
  Laid BY PROGRAM, IN A SANDBOX (cutbox-rows.mjs): the forced cells as the released guide's own fill.sh prints them over the translation 9d2b16468c5a6981… (all of the seat's roots in one cut). By AI agents, Wed Nov 11 2026. No macro, syntax, notation, axiom, sorry.
-/
import Derived.Test.YtifijknogofklaaChecked
import GoSem.Claim
import GoSem.ClaimJoined
import GoSem.ClaimMapViews
import Derived.JoinedTies
import Derived.KernelRfl
namespace Go.Proofs.Ytifijknogofklaa
/- THE CELL 'sum', in the pinned program and in every row, IS THE sha256 OF THE DUMP (.gsa) THAT YtifijknogofklaaProg.lean LOADS. Nothing in Lean hashes anything: it is a label: what it is worth is what the hold of that sum in a sandbox is worth. -/
noncomputable def Try.pinned : Pinned := { name := "ytifijknogofklaa", sum := "9d2b16468c5a6981432681589caa4cb9b20056bceb5da6db52cdbb3b68ca87c8", checked := Try.checked }
namespace Rows
def none {H : Type} : Left H := { results := [], args := [] }

/-- 'laws.FnRestNear': WHATEVER THE INPUT: true; the input reads as it did. -/
def fnRestNearSpec : ChangeSpec := { name := "fnRestNear", fn := fun _ => fun
  | [d] => { results := [.lit (.bool true)], args := [d] }
  | _ => none }
def fnRestNearRow : OpenClaim := { program := "ytifijknogofklaa", sum := "9d2b16468c5a6981432681589caa4cb9b20056bceb5da6db52cdbb3b68ca87c8", func := "loop.example/hive/laws.FnRestNear", spec := "fnRestNear", unfollowed := true, recurses := true, apart := false }
def FnRestNearSaid : Prop := fnRestNearRow.holds Try.pinned (OpenSpec.ofChange fnRestNearSpec)

/-- ITS FALSE NEIGHBOUR: 'it returns false'. Refute it at one input. -/
def fnRestNearWrong : ChangeSpec := { name := "fnRestNear", fn := fun _ => fun
  | [d] => { results := [.lit (.bool false)], args := [d] }
  | _ => none }
def FnRestNearWrongFalsely : Prop := fnRestNearRow.holds Try.pinned (OpenSpec.ofChange fnRestNearWrong)

/-- 'laws.FnExactRestWant': WHATEVER THE INPUT: true; the input reads as it did. -/
def fnExactRestWantSpec : ChangeSpec := { name := "fnExactRestWant", fn := fun _ => fun
  | [d1, d2, d3] => { results := [.lit (.bool true)], args := [d1, d2, d3] }
  | _ => none }
def fnExactRestWantRow : OpenClaim := { program := "ytifijknogofklaa", sum := "9d2b16468c5a6981432681589caa4cb9b20056bceb5da6db52cdbb3b68ca87c8", func := "loop.example/hive/laws.FnExactRestWant", spec := "fnExactRestWant", unfollowed := true, recurses := true, apart := false }
def FnExactRestWantSaid : Prop := fnExactRestWantRow.holds Try.pinned (OpenSpec.ofChange fnExactRestWantSpec)

/-- ITS FALSE NEIGHBOUR: 'it returns false'. Refute it at one input. -/
def fnExactRestWantWrong : ChangeSpec := { name := "fnExactRestWant", fn := fun _ => fun
  | [d1, d2, d3] => { results := [.lit (.bool false)], args := [d1, d2, d3] }
  | _ => none }
def FnExactRestWantWrongFalsely : Prop := fnExactRestWantRow.holds Try.pinned (OpenSpec.ofChange fnExactRestWantWrong)

/-- 'laws.FnExactRestNear': WHATEVER THE INPUT: true; the input reads as it did. -/
def fnExactRestNearSpec : ChangeSpec := { name := "fnExactRestNear", fn := fun _ => fun
  | [d1, d2, d3, d4] => { results := [.lit (.bool true)], args := [d1, d2, d3, d4] }
  | _ => none }
def fnExactRestNearRow : OpenClaim := { program := "ytifijknogofklaa", sum := "9d2b16468c5a6981432681589caa4cb9b20056bceb5da6db52cdbb3b68ca87c8", func := "loop.example/hive/laws.FnExactRestNear", spec := "fnExactRestNear", unfollowed := true, recurses := true, apart := false }
def FnExactRestNearSaid : Prop := fnExactRestNearRow.holds Try.pinned (OpenSpec.ofChange fnExactRestNearSpec)

/-- ITS FALSE NEIGHBOUR: 'it returns false'. Refute it at one input. -/
def fnExactRestNearWrong : ChangeSpec := { name := "fnExactRestNear", fn := fun _ => fun
  | [d1, d2, d3, d4] => { results := [.lit (.bool false)], args := [d1, d2, d3, d4] }
  | _ => none }
def FnExactRestNearWrongFalsely : Prop := fnExactRestNearRow.holds Try.pinned (OpenSpec.ofChange fnExactRestNearWrong)

/-- 'laws.FnExactRestSame': WHATEVER THE INPUT: true; the input reads as it did. -/
def fnExactRestSameSpec : ChangeSpec := { name := "fnExactRestSame", fn := fun _ => fun
  | [d1, d2] => { results := [.lit (.bool true)], args := [d1, d2] }
  | _ => none }
def fnExactRestSameRow : OpenClaim := { program := "ytifijknogofklaa", sum := "9d2b16468c5a6981432681589caa4cb9b20056bceb5da6db52cdbb3b68ca87c8", func := "loop.example/hive/laws.FnExactRestSame", spec := "fnExactRestSame", unfollowed := true, recurses := true, apart := false }
def FnExactRestSameSaid : Prop := fnExactRestSameRow.holds Try.pinned (OpenSpec.ofChange fnExactRestSameSpec)

/-- ITS FALSE NEIGHBOUR: 'it returns false'. Refute it at one input. -/
def fnExactRestSameWrong : ChangeSpec := { name := "fnExactRestSame", fn := fun _ => fun
  | [d1, d2] => { results := [.lit (.bool false)], args := [d1, d2] }
  | _ => none }
def FnExactRestSameWrongFalsely : Prop := fnExactRestSameRow.holds Try.pinned (OpenSpec.ofChange fnExactRestSameWrong)

/- THE SECOND FORM. 'bulk': how many values and letters a reading holds, each counted each time it is reached (what is shared counts as often as it is met; a slice's spare places count too). A statement '..UptoSaid' is the law's where the arguments, and the package variables that the reading takes, are together of bulk at most 1048576: NARROWER than '..Said'. Prove '..Said' where nothing that the law and all that it calls make is longer than what came in: it says more and counts as full. Else prove '..UptoSaid'. A law counts once. -/
mutual
def uptoBulk {H : Type} : DataW H → Nat
  | .lit (.string bytes) => bytes.length + 1
  | .lit _ => 1
  | .nil => 1
  | .ptr d => uptoBulk d + 1
  | .slice elems spare => uptoBulkAll elems + uptoBulkAll spare + 1
  | .agg parts => uptoBulkAll parts + 1
  | .iface _ d => uptoBulk d + 1
  | .map entries => uptoBulkEntries entries + 1
  | .held _ => 1
def uptoBulkAll {H : Type} : List (DataW H) → Nat
  | [] => 0
  | d :: r => uptoBulk d + uptoBulkAll r
def uptoBulkEntries {H : Type} : List (Lit × DataW H) → Nat
  | [] => 0
  | x :: r => uptoBulkEntry x + uptoBulkEntries r
def uptoBulkEntry {H : Type} : Lit × DataW H → Nat
  | (.string bytes, d) => bytes.length + uptoBulk d + 1
  | (_, d) => uptoBulk d + 1
 end
def uptoSmall : (H : Type) → List (DataW H) → Bool := fun _ ds => decide (uptoBulkAll ds ≤ 1048576)
def OpenSpec.upto (s : _root_.Go.ChangeSpec) : _root_.Go.OpenSpec := { _root_.Go.OpenSpec.ofChange s with cond := some uptoSmall }

/-- 'laws.FnRestNear', WHERE WHAT IT READS IS OF BULK AT MOST 1048576: true; the input reads as it did. -/
def fnRestNearUptoRow : OpenClaim := { program := "ytifijknogofklaa", sum := "9d2b16468c5a6981432681589caa4cb9b20056bceb5da6db52cdbb3b68ca87c8", func := "loop.example/hive/laws.FnRestNear", spec := "fnRestNear", unfollowed := true, recurses := true, apart := false, narrowed := true }
def FnRestNearUptoSaid : Prop := fnRestNearUptoRow.holds Try.pinned (OpenSpec.upto fnRestNearSpec)

/-- 'laws.FnExactRestWant', WHERE WHAT IT READS IS OF BULK AT MOST 1048576: true; the input reads as it did. -/
def fnExactRestWantUptoRow : OpenClaim := { program := "ytifijknogofklaa", sum := "9d2b16468c5a6981432681589caa4cb9b20056bceb5da6db52cdbb3b68ca87c8", func := "loop.example/hive/laws.FnExactRestWant", spec := "fnExactRestWant", unfollowed := true, recurses := true, apart := false, narrowed := true }
def FnExactRestWantUptoSaid : Prop := fnExactRestWantUptoRow.holds Try.pinned (OpenSpec.upto fnExactRestWantSpec)

/-- 'laws.FnExactRestNear', WHERE WHAT IT READS IS OF BULK AT MOST 1048576: true; the input reads as it did. -/
def fnExactRestNearUptoRow : OpenClaim := { program := "ytifijknogofklaa", sum := "9d2b16468c5a6981432681589caa4cb9b20056bceb5da6db52cdbb3b68ca87c8", func := "loop.example/hive/laws.FnExactRestNear", spec := "fnExactRestNear", unfollowed := true, recurses := true, apart := false, narrowed := true }
def FnExactRestNearUptoSaid : Prop := fnExactRestNearUptoRow.holds Try.pinned (OpenSpec.upto fnExactRestNearSpec)

/-- 'laws.FnExactRestSame', WHERE WHAT IT READS IS OF BULK AT MOST 1048576: true; the input reads as it did. -/
def fnExactRestSameUptoRow : OpenClaim := { program := "ytifijknogofklaa", sum := "9d2b16468c5a6981432681589caa4cb9b20056bceb5da6db52cdbb3b68ca87c8", func := "loop.example/hive/laws.FnExactRestSame", spec := "fnExactRestSame", unfollowed := true, recurses := true, apart := false, narrowed := true }
def FnExactRestSameUptoSaid : Prop := fnExactRestSameUptoRow.holds Try.pinned (OpenSpec.upto fnExactRestSameSpec)

end Rows
end Go.Proofs.Ytifijknogofklaa
