/-
  No cell of these rows narrows 'for every input' (looked for: loops, veiled, ifaces, maps, wideKeys, modest, calm, conditions, laid).
  DERIVED. THE GIVEN ROWS OF THIS SEAT. 3 by the template 'for every input the law returns true; each argument reads behind the call as it read before'; 0 by the template 'total and deterministic' (their statements: YtcdjklpnjdladaaTotals.lean).
  GIVEN WITH THE SEED: the statements are not yours to turn. If you find one false, say at which input.
  Laid BY PROGRAM, IN A SANDBOX (cutbox-rows.mjs): the forced cells as the released guide's own fill.sh prints them over the translation f50cdf284ef7bf69… (all of the seat's roots in one cut). By AI agents, Wed Nov 11 2026. No macro, syntax, notation, axiom, sorry.
-/
import Derived.Test.YtcdjklpnjdladaaChecked
import GoSem.Claim
import GoSem.ClaimJoined
import GoSem.ClaimMapViews
import Derived.JoinedTies
import Derived.KernelRfl
namespace Go.Proofs.Ytcdjklpnjdladaa
/- THE CELL 'sum', in the pinned program and in every row, IS THE sha256 OF THE DUMP (.gsa) THAT YtcdjklpnjdladaaProg.lean LOADS. Nothing in Lean hashes anything: it is a label: what it is worth is what the hold of that sum in a sandbox is worth. -/
noncomputable def Try.pinned : Pinned := { name := "ytcdjklpnjdladaa", sum := "f50cdf284ef7bf69af0c3e384786184adb2d11649973002f2332a6ff93bb2ed1", checked := Try.checked }
namespace Rows
def none {H : Type} : Left H := { results := [], args := [] }

/-- 'laws.FnExactStateOpen': WHATEVER THE INPUT: true; the input reads as it did. -/
def fnExactStateOpenSpec : ChangeSpec := { name := "fnExactStateOpen", fn := fun _ => fun
  | [d] => { results := [.lit (.bool true)], args := [d] }
  | _ => none }
def fnExactStateOpenRow : OpenClaim := { program := "ytcdjklpnjdladaa", sum := "f50cdf284ef7bf69af0c3e384786184adb2d11649973002f2332a6ff93bb2ed1", func := "loop.example/hive/laws.FnExactStateOpen", spec := "fnExactStateOpen", unfollowed := true, recurses := true, apart := false }
def FnExactStateOpenSaid : Prop := fnExactStateOpenRow.holds Try.pinned (OpenSpec.ofChange fnExactStateOpenSpec)

/-- ITS FALSE NEIGHBOUR: 'it returns false'. Refute it at one input. -/
def fnExactStateOpenWrong : ChangeSpec := { name := "fnExactStateOpen", fn := fun _ => fun
  | [d] => { results := [.lit (.bool false)], args := [d] }
  | _ => none }
def FnExactStateOpenWrongFalsely : Prop := fnExactStateOpenRow.holds Try.pinned (OpenSpec.ofChange fnExactStateOpenWrong)

/-- 'laws.FnExactStateSame': WHATEVER THE INPUT: true; the input reads as it did. -/
def fnExactStateSameSpec : ChangeSpec := { name := "fnExactStateSame", fn := fun _ => fun
  | [d1, d2] => { results := [.lit (.bool true)], args := [d1, d2] }
  | _ => none }
def fnExactStateSameRow : OpenClaim := { program := "ytcdjklpnjdladaa", sum := "f50cdf284ef7bf69af0c3e384786184adb2d11649973002f2332a6ff93bb2ed1", func := "loop.example/hive/laws.FnExactStateSame", spec := "fnExactStateSame", apart := false }
def FnExactStateSameSaid : Prop := fnExactStateSameRow.holds Try.pinned (OpenSpec.ofChange fnExactStateSameSpec)

/-- ITS FALSE NEIGHBOUR: 'it returns false'. Refute it at one input. -/
def fnExactStateSameWrong : ChangeSpec := { name := "fnExactStateSame", fn := fun _ => fun
  | [d1, d2] => { results := [.lit (.bool false)], args := [d1, d2] }
  | _ => none }
def FnExactStateSameWrongFalsely : Prop := fnExactStateSameRow.holds Try.pinned (OpenSpec.ofChange fnExactStateSameWrong)

/-- 'laws.FnExactStateNodes': WHATEVER THE INPUT: true; the input reads as it did. -/
def fnExactStateNodesSpec : ChangeSpec := { name := "fnExactStateNodes", fn := fun _ => fun
  | [d1, d2] => { results := [.lit (.bool true)], args := [d1, d2] }
  | _ => none }
def fnExactStateNodesRow : OpenClaim := { program := "ytcdjklpnjdladaa", sum := "f50cdf284ef7bf69af0c3e384786184adb2d11649973002f2332a6ff93bb2ed1", func := "loop.example/hive/laws.FnExactStateNodes", spec := "fnExactStateNodes", unfollowed := true, recurses := true, apart := false }
def FnExactStateNodesSaid : Prop := fnExactStateNodesRow.holds Try.pinned (OpenSpec.ofChange fnExactStateNodesSpec)

/-- ITS FALSE NEIGHBOUR: 'it returns false'. Refute it at one input. -/
def fnExactStateNodesWrong : ChangeSpec := { name := "fnExactStateNodes", fn := fun _ => fun
  | [d1, d2] => { results := [.lit (.bool false)], args := [d1, d2] }
  | _ => none }
def FnExactStateNodesWrongFalsely : Prop := fnExactStateNodesRow.holds Try.pinned (OpenSpec.ofChange fnExactStateNodesWrong)

/- THE SECOND FORM. 'bulk': how many values and letters a reading holds, each counted each time it is reached (what is shared counts as often as it is met; a slice's spare places count too). A statement '..UptoSaid' is the law's where the arguments, and the package variables that the reading takes, are together of bulk at most 1048576: NARROWER than '..Said'. Prove '..Said' where nothing that the law and all that it calls make is longer than what came in: it says more and counts as full. Else prove '..UptoSaid'. A law counts once. -/
mutual
def uptoBulk {H : Type} : DataW H → Nat
  | .lit (.string bytes) => bytes.length + 1
  | .lit _ => 1
  | .nil => 1
  | .ptr d => uptoBulk d + 1
  | .slice elems spare => uptoBulkAll elems + uptoBulkAll spare + 1
  | .agg parts => uptoBulkAll parts + 1
  | .iface _ d => uptoBulk d + 1
  | .map entries => uptoBulkEntries entries + 1
  | .held _ => 1
def uptoBulkAll {H : Type} : List (DataW H) → Nat
  | [] => 0
  | d :: r => uptoBulk d + uptoBulkAll r
def uptoBulkEntries {H : Type} : List (Lit × DataW H) → Nat
  | [] => 0
  | x :: r => uptoBulkEntry x + uptoBulkEntries r
def uptoBulkEntry {H : Type} : Lit × DataW H → Nat
  | (.string bytes, d) => bytes.length + uptoBulk d + 1
  | (_, d) => uptoBulk d + 1
 end
def uptoSmall : (H : Type) → List (DataW H) → Bool := fun _ ds => decide (uptoBulkAll ds ≤ 1048576)
def OpenSpec.upto (s : _root_.Go.ChangeSpec) : _root_.Go.OpenSpec := { _root_.Go.OpenSpec.ofChange s with cond := some uptoSmall }

/-- 'laws.FnExactStateOpen', WHERE WHAT IT READS IS OF BULK AT MOST 1048576: true; the input reads as it did. -/
def fnExactStateOpenUptoRow : OpenClaim := { program := "ytcdjklpnjdladaa", sum := "f50cdf284ef7bf69af0c3e384786184adb2d11649973002f2332a6ff93bb2ed1", func := "loop.example/hive/laws.FnExactStateOpen", spec := "fnExactStateOpen", unfollowed := true, recurses := true, apart := false, narrowed := true }
def FnExactStateOpenUptoSaid : Prop := fnExactStateOpenUptoRow.holds Try.pinned (OpenSpec.upto fnExactStateOpenSpec)

/-- 'laws.FnExactStateSame', WHERE WHAT IT READS IS OF BULK AT MOST 1048576: true; the input reads as it did. -/
def fnExactStateSameUptoRow : OpenClaim := { program := "ytcdjklpnjdladaa", sum := "f50cdf284ef7bf69af0c3e384786184adb2d11649973002f2332a6ff93bb2ed1", func := "loop.example/hive/laws.FnExactStateSame", spec := "fnExactStateSame", apart := false, narrowed := true }
def FnExactStateSameUptoSaid : Prop := fnExactStateSameUptoRow.holds Try.pinned (OpenSpec.upto fnExactStateSameSpec)

/-- 'laws.FnExactStateNodes', WHERE WHAT IT READS IS OF BULK AT MOST 1048576: true; the input reads as it did. -/
def fnExactStateNodesUptoRow : OpenClaim := { program := "ytcdjklpnjdladaa", sum := "f50cdf284ef7bf69af0c3e384786184adb2d11649973002f2332a6ff93bb2ed1", func := "loop.example/hive/laws.FnExactStateNodes", spec := "fnExactStateNodes", unfollowed := true, recurses := true, apart := false, narrowed := true }
def FnExactStateNodesUptoSaid : Prop := fnExactStateNodesUptoRow.holds Try.pinned (OpenSpec.upto fnExactStateNodesSpec)

end Rows
end Go.Proofs.Ytcdjklpnjdladaa
