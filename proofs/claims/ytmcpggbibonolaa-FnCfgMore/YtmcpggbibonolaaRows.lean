/-
  No cell of these rows narrows 'for every input' (looked for: loops, veiled, ifaces, maps, wideKeys, modest, calm, conditions, laid).
  DERIVED. THE GIVEN ROWS OF THIS SEAT. 9 by the template 'for every input the law returns true; each argument reads behind the call as it read before'; 0 by the template 'total and deterministic' (their statements: YtmcpggbibonolaaTotals.lean).
  GIVEN WITH THE SEED: the statements are not yours to turn. If you find one false, say at which input.
  Laid BY PROGRAM, IN A SANDBOX (cutbox-rows.mjs): the forced cells as the released guide's own fill.sh prints them over the translation 9e22d8395ef19584… (all of the seat's roots in one cut). By AI agents, Wed Nov 11 2026. No macro, syntax, notation, axiom, sorry.
-/
import Derived.Test.YtmcpggbibonolaaChecked
import GoSem.Claim
import GoSem.ClaimJoined
import GoSem.ClaimMapViews
import Derived.JoinedTies
import Derived.KernelRfl
namespace Go.Proofs.Ytmcpggbibonolaa
/- THE CELL 'sum', in the pinned program and in every row, IS THE sha256 OF THE DUMP (.gsa) THAT YtmcpggbibonolaaProg.lean LOADS. Nothing in Lean hashes anything: it is a label: what it is worth is what the hold of that sum in a sandbox is worth. -/
noncomputable def Try.pinned : Pinned := { name := "ytmcpggbibonolaa", sum := "9e22d8395ef19584bbd3a5ae193fe1354510ed9c5293ed60579b6afb8c280a67", checked := Try.checked }
namespace Rows
def none {H : Type} : Left H := { results := [], args := [] }

/-- 'laws.FnCfgRoomy': WHATEVER THE INPUT: true; the input reads as it did. -/
def fnCfgRoomySpec : ChangeSpec := { name := "fnCfgRoomy", fn := fun _ => fun
  | [d] => { results := [.lit (.bool true)], args := [d] }
  | _ => none }
def fnCfgRoomyRow : OpenClaim := { program := "ytmcpggbibonolaa", sum := "9e22d8395ef19584bbd3a5ae193fe1354510ed9c5293ed60579b6afb8c280a67", func := "loop.example/hive/laws.FnCfgRoomy", spec := "fnCfgRoomy", unfollowed := true, recurses := true, apart := false }
def FnCfgRoomySaid : Prop := fnCfgRoomyRow.holds Try.pinned (OpenSpec.ofChange fnCfgRoomySpec)

/-- ITS FALSE NEIGHBOUR: 'it returns false'. Refute it at one input. -/
def fnCfgRoomyWrong : ChangeSpec := { name := "fnCfgRoomy", fn := fun _ => fun
  | [d] => { results := [.lit (.bool false)], args := [d] }
  | _ => none }
def FnCfgRoomyWrongFalsely : Prop := fnCfgRoomyRow.holds Try.pinned (OpenSpec.ofChange fnCfgRoomyWrong)

/-- 'laws.FnCfgSlots': WHATEVER THE INPUT: true; the input reads as it did. -/
def fnCfgSlotsSpec : ChangeSpec := { name := "fnCfgSlots", fn := fun _ => fun
  | [d1, d2] => { results := [.lit (.bool true)], args := [d1, d2] }
  | _ => none }
def fnCfgSlotsRow : OpenClaim := { program := "ytmcpggbibonolaa", sum := "9e22d8395ef19584bbd3a5ae193fe1354510ed9c5293ed60579b6afb8c280a67", func := "loop.example/hive/laws.FnCfgSlots", spec := "fnCfgSlots", unfollowed := true, recurses := true, apart := false }
def FnCfgSlotsSaid : Prop := fnCfgSlotsRow.holds Try.pinned (OpenSpec.ofChange fnCfgSlotsSpec)

/-- ITS FALSE NEIGHBOUR: 'it returns false'. Refute it at one input. -/
def fnCfgSlotsWrong : ChangeSpec := { name := "fnCfgSlots", fn := fun _ => fun
  | [d1, d2] => { results := [.lit (.bool false)], args := [d1, d2] }
  | _ => none }
def FnCfgSlotsWrongFalsely : Prop := fnCfgSlotsRow.holds Try.pinned (OpenSpec.ofChange fnCfgSlotsWrong)

/-- 'laws.FnCfgMore': WHATEVER THE INPUT: true; the input reads as it did. -/
def fnCfgMoreSpec : ChangeSpec := { name := "fnCfgMore", fn := fun _ => fun
  | [d] => { results := [.lit (.bool true)], args := [d] }
  | _ => none }
def fnCfgMoreRow : OpenClaim := { program := "ytmcpggbibonolaa", sum := "9e22d8395ef19584bbd3a5ae193fe1354510ed9c5293ed60579b6afb8c280a67", func := "loop.example/hive/laws.FnCfgMore", spec := "fnCfgMore", unfollowed := true, recurses := true, apart := false }
def FnCfgMoreSaid : Prop := fnCfgMoreRow.holds Try.pinned (OpenSpec.ofChange fnCfgMoreSpec)

/-- ITS FALSE NEIGHBOUR: 'it returns false'. Refute it at one input. -/
def fnCfgMoreWrong : ChangeSpec := { name := "fnCfgMore", fn := fun _ => fun
  | [d] => { results := [.lit (.bool false)], args := [d] }
  | _ => none }
def FnCfgMoreWrongFalsely : Prop := fnCfgMoreRow.holds Try.pinned (OpenSpec.ofChange fnCfgMoreWrong)

/-- 'laws.FnExactCfgOk': WHATEVER THE INPUT: true; the input reads as it did. -/
def fnExactCfgOkSpec : ChangeSpec := { name := "fnExactCfgOk", fn := fun _ => fun
  | [d] => { results := [.lit (.bool true)], args := [d] }
  | _ => none }
def fnExactCfgOkRow : OpenClaim := { program := "ytmcpggbibonolaa", sum := "9e22d8395ef19584bbd3a5ae193fe1354510ed9c5293ed60579b6afb8c280a67", func := "loop.example/hive/laws.FnExactCfgOk", spec := "fnExactCfgOk", unfollowed := true, recurses := true, apart := false }
def FnExactCfgOkSaid : Prop := fnExactCfgOkRow.holds Try.pinned (OpenSpec.ofChange fnExactCfgOkSpec)

/-- ITS FALSE NEIGHBOUR: 'it returns false'. Refute it at one input. -/
def fnExactCfgOkWrong : ChangeSpec := { name := "fnExactCfgOk", fn := fun _ => fun
  | [d] => { results := [.lit (.bool false)], args := [d] }
  | _ => none }
def FnExactCfgOkWrongFalsely : Prop := fnExactCfgOkRow.holds Try.pinned (OpenSpec.ofChange fnExactCfgOkWrong)

/-- 'laws.FnExactCfgMost': WHATEVER THE INPUT: true; the input reads as it did. -/
def fnExactCfgMostSpec : ChangeSpec := { name := "fnExactCfgMost", fn := fun _ => fun
  | [d] => { results := [.lit (.bool true)], args := [d] }
  | _ => none }
def fnExactCfgMostRow : OpenClaim := { program := "ytmcpggbibonolaa", sum := "9e22d8395ef19584bbd3a5ae193fe1354510ed9c5293ed60579b6afb8c280a67", func := "loop.example/hive/laws.FnExactCfgMost", spec := "fnExactCfgMost", unfollowed := true, recurses := true, apart := false }
def FnExactCfgMostSaid : Prop := fnExactCfgMostRow.holds Try.pinned (OpenSpec.ofChange fnExactCfgMostSpec)

/-- ITS FALSE NEIGHBOUR: 'it returns false'. Refute it at one input. -/
def fnExactCfgMostWrong : ChangeSpec := { name := "fnExactCfgMost", fn := fun _ => fun
  | [d] => { results := [.lit (.bool false)], args := [d] }
  | _ => none }
def FnExactCfgMostWrongFalsely : Prop := fnExactCfgMostRow.holds Try.pinned (OpenSpec.ofChange fnExactCfgMostWrong)

/-- 'laws.FnExactCfgPods': WHATEVER THE INPUT: true; the input reads as it did. -/
def fnExactCfgPodsSpec : ChangeSpec := { name := "fnExactCfgPods", fn := fun _ => fun
  | [d] => { results := [.lit (.bool true)], args := [d] }
  | _ => none }
def fnExactCfgPodsRow : OpenClaim := { program := "ytmcpggbibonolaa", sum := "9e22d8395ef19584bbd3a5ae193fe1354510ed9c5293ed60579b6afb8c280a67", func := "loop.example/hive/laws.FnExactCfgPods", spec := "fnExactCfgPods", unfollowed := true, recurses := true, apart := false }
def FnExactCfgPodsSaid : Prop := fnExactCfgPodsRow.holds Try.pinned (OpenSpec.ofChange fnExactCfgPodsSpec)

/-- ITS FALSE NEIGHBOUR: 'it returns false'. Refute it at one input. -/
def fnExactCfgPodsWrong : ChangeSpec := { name := "fnExactCfgPods", fn := fun _ => fun
  | [d] => { results := [.lit (.bool false)], args := [d] }
  | _ => none }
def FnExactCfgPodsWrongFalsely : Prop := fnExactCfgPodsRow.holds Try.pinned (OpenSpec.ofChange fnExactCfgPodsWrong)

/-- 'laws.FnExactCfgNodes': WHATEVER THE INPUT: true; the input reads as it did. -/
def fnExactCfgNodesSpec : ChangeSpec := { name := "fnExactCfgNodes", fn := fun _ => fun
  | [d] => { results := [.lit (.bool true)], args := [d] }
  | _ => none }
def fnExactCfgNodesRow : OpenClaim := { program := "ytmcpggbibonolaa", sum := "9e22d8395ef19584bbd3a5ae193fe1354510ed9c5293ed60579b6afb8c280a67", func := "loop.example/hive/laws.FnExactCfgNodes", spec := "fnExactCfgNodes", unfollowed := true, recurses := true, apart := false }
def FnExactCfgNodesSaid : Prop := fnExactCfgNodesRow.holds Try.pinned (OpenSpec.ofChange fnExactCfgNodesSpec)

/-- ITS FALSE NEIGHBOUR: 'it returns false'. Refute it at one input. -/
def fnExactCfgNodesWrong : ChangeSpec := { name := "fnExactCfgNodes", fn := fun _ => fun
  | [d] => { results := [.lit (.bool false)], args := [d] }
  | _ => none }
def FnExactCfgNodesWrongFalsely : Prop := fnExactCfgNodesRow.holds Try.pinned (OpenSpec.ofChange fnExactCfgNodesWrong)

/-- 'laws.FnExactCfgRoomy': WHATEVER THE INPUT: true; the input reads as it did. -/
def fnExactCfgRoomySpec : ChangeSpec := { name := "fnExactCfgRoomy", fn := fun _ => fun
  | [d] => { results := [.lit (.bool true)], args := [d] }
  | _ => none }
def fnExactCfgRoomyRow : OpenClaim := { program := "ytmcpggbibonolaa", sum := "9e22d8395ef19584bbd3a5ae193fe1354510ed9c5293ed60579b6afb8c280a67", func := "loop.example/hive/laws.FnExactCfgRoomy", spec := "fnExactCfgRoomy", unfollowed := true, recurses := true, apart := false }
def FnExactCfgRoomySaid : Prop := fnExactCfgRoomyRow.holds Try.pinned (OpenSpec.ofChange fnExactCfgRoomySpec)

/-- ITS FALSE NEIGHBOUR: 'it returns false'. Refute it at one input. -/
def fnExactCfgRoomyWrong : ChangeSpec := { name := "fnExactCfgRoomy", fn := fun _ => fun
  | [d] => { results := [.lit (.bool false)], args := [d] }
  | _ => none }
def FnExactCfgRoomyWrongFalsely : Prop := fnExactCfgRoomyRow.holds Try.pinned (OpenSpec.ofChange fnExactCfgRoomyWrong)

/-- 'laws.FnExactCfgBound': WHATEVER THE INPUT: true; the input reads as it did. -/
def fnExactCfgBoundSpec : ChangeSpec := { name := "fnExactCfgBound", fn := fun _ => fun
  | [d1, d2] => { results := [.lit (.bool true)], args := [d1, d2] }
  | _ => none }
def fnExactCfgBoundRow : OpenClaim := { program := "ytmcpggbibonolaa", sum := "9e22d8395ef19584bbd3a5ae193fe1354510ed9c5293ed60579b6afb8c280a67", func := "loop.example/hive/laws.FnExactCfgBound", spec := "fnExactCfgBound", unfollowed := true, recurses := true, apart := false }
def FnExactCfgBoundSaid : Prop := fnExactCfgBoundRow.holds Try.pinned (OpenSpec.ofChange fnExactCfgBoundSpec)

/-- ITS FALSE NEIGHBOUR: 'it returns false'. Refute it at one input. -/
def fnExactCfgBoundWrong : ChangeSpec := { name := "fnExactCfgBound", fn := fun _ => fun
  | [d1, d2] => { results := [.lit (.bool false)], args := [d1, d2] }
  | _ => none }
def FnExactCfgBoundWrongFalsely : Prop := fnExactCfgBoundRow.holds Try.pinned (OpenSpec.ofChange fnExactCfgBoundWrong)

/- THE SECOND FORM. 'bulk': how many values and letters a reading holds, each counted each time it is reached (what is shared counts as often as it is met; a slice's spare places count too). A statement '..UptoSaid' is the law's where the arguments, and the package variables that the reading takes, are together of bulk at most 1048576: NARROWER than '..Said'. Prove '..Said' where nothing that the law and all that it calls make is longer than what came in: it says more and counts as full. Else prove '..UptoSaid'. A law counts once. -/
mutual
def uptoBulk {H : Type} : DataW H → Nat
  | .lit (.string bytes) => bytes.length + 1
  | .lit _ => 1
  | .nil => 1
  | .ptr d => uptoBulk d + 1
  | .slice elems spare => uptoBulkAll elems + uptoBulkAll spare + 1
  | .agg parts => uptoBulkAll parts + 1
  | .iface _ d => uptoBulk d + 1
  | .map entries => uptoBulkEntries entries + 1
  | .held _ => 1
def uptoBulkAll {H : Type} : List (DataW H) → Nat
  | [] => 0
  | d :: r => uptoBulk d + uptoBulkAll r
def uptoBulkEntries {H : Type} : List (Lit × DataW H) → Nat
  | [] => 0
  | x :: r => uptoBulkEntry x + uptoBulkEntries r
def uptoBulkEntry {H : Type} : Lit × DataW H → Nat
  | (.string bytes, d) => bytes.length + uptoBulk d + 1
  | (_, d) => uptoBulk d + 1
 end
def uptoSmall : (H : Type) → List (DataW H) → Bool := fun _ ds => decide (uptoBulkAll ds ≤ 1048576)
def OpenSpec.upto (s : _root_.Go.ChangeSpec) : _root_.Go.OpenSpec := { _root_.Go.OpenSpec.ofChange s with cond := some uptoSmall }

/-- 'laws.FnCfgRoomy', WHERE WHAT IT READS IS OF BULK AT MOST 1048576: true; the input reads as it did. -/
def fnCfgRoomyUptoRow : OpenClaim := { program := "ytmcpggbibonolaa", sum := "9e22d8395ef19584bbd3a5ae193fe1354510ed9c5293ed60579b6afb8c280a67", func := "loop.example/hive/laws.FnCfgRoomy", spec := "fnCfgRoomy", unfollowed := true, recurses := true, apart := false, narrowed := true }
def FnCfgRoomyUptoSaid : Prop := fnCfgRoomyUptoRow.holds Try.pinned (OpenSpec.upto fnCfgRoomySpec)

/-- 'laws.FnCfgSlots', WHERE WHAT IT READS IS OF BULK AT MOST 1048576: true; the input reads as it did. -/
def fnCfgSlotsUptoRow : OpenClaim := { program := "ytmcpggbibonolaa", sum := "9e22d8395ef19584bbd3a5ae193fe1354510ed9c5293ed60579b6afb8c280a67", func := "loop.example/hive/laws.FnCfgSlots", spec := "fnCfgSlots", unfollowed := true, recurses := true, apart := false, narrowed := true }
def FnCfgSlotsUptoSaid : Prop := fnCfgSlotsUptoRow.holds Try.pinned (OpenSpec.upto fnCfgSlotsSpec)

/-- 'laws.FnCfgMore', WHERE WHAT IT READS IS OF BULK AT MOST 1048576: true; the input reads as it did. -/
def fnCfgMoreUptoRow : OpenClaim := { program := "ytmcpggbibonolaa", sum := "9e22d8395ef19584bbd3a5ae193fe1354510ed9c5293ed60579b6afb8c280a67", func := "loop.example/hive/laws.FnCfgMore", spec := "fnCfgMore", unfollowed := true, recurses := true, apart := false, narrowed := true }
def FnCfgMoreUptoSaid : Prop := fnCfgMoreUptoRow.holds Try.pinned (OpenSpec.upto fnCfgMoreSpec)

/-- 'laws.FnExactCfgOk', WHERE WHAT IT READS IS OF BULK AT MOST 1048576: true; the input reads as it did. -/
def fnExactCfgOkUptoRow : OpenClaim := { program := "ytmcpggbibonolaa", sum := "9e22d8395ef19584bbd3a5ae193fe1354510ed9c5293ed60579b6afb8c280a67", func := "loop.example/hive/laws.FnExactCfgOk", spec := "fnExactCfgOk", unfollowed := true, recurses := true, apart := false, narrowed := true }
def FnExactCfgOkUptoSaid : Prop := fnExactCfgOkUptoRow.holds Try.pinned (OpenSpec.upto fnExactCfgOkSpec)

/-- 'laws.FnExactCfgMost', WHERE WHAT IT READS IS OF BULK AT MOST 1048576: true; the input reads as it did. -/
def fnExactCfgMostUptoRow : OpenClaim := { program := "ytmcpggbibonolaa", sum := "9e22d8395ef19584bbd3a5ae193fe1354510ed9c5293ed60579b6afb8c280a67", func := "loop.example/hive/laws.FnExactCfgMost", spec := "fnExactCfgMost", unfollowed := true, recurses := true, apart := false, narrowed := true }
def FnExactCfgMostUptoSaid : Prop := fnExactCfgMostUptoRow.holds Try.pinned (OpenSpec.upto fnExactCfgMostSpec)

/-- 'laws.FnExactCfgPods', WHERE WHAT IT READS IS OF BULK AT MOST 1048576: true; the input reads as it did. -/
def fnExactCfgPodsUptoRow : OpenClaim := { program := "ytmcpggbibonolaa", sum := "9e22d8395ef19584bbd3a5ae193fe1354510ed9c5293ed60579b6afb8c280a67", func := "loop.example/hive/laws.FnExactCfgPods", spec := "fnExactCfgPods", unfollowed := true, recurses := true, apart := false, narrowed := true }
def FnExactCfgPodsUptoSaid : Prop := fnExactCfgPodsUptoRow.holds Try.pinned (OpenSpec.upto fnExactCfgPodsSpec)

/-- 'laws.FnExactCfgNodes', WHERE WHAT IT READS IS OF BULK AT MOST 1048576: true; the input reads as it did. -/
def fnExactCfgNodesUptoRow : OpenClaim := { program := "ytmcpggbibonolaa", sum := "9e22d8395ef19584bbd3a5ae193fe1354510ed9c5293ed60579b6afb8c280a67", func := "loop.example/hive/laws.FnExactCfgNodes", spec := "fnExactCfgNodes", unfollowed := true, recurses := true, apart := false, narrowed := true }
def FnExactCfgNodesUptoSaid : Prop := fnExactCfgNodesUptoRow.holds Try.pinned (OpenSpec.upto fnExactCfgNodesSpec)

/-- 'laws.FnExactCfgRoomy', WHERE WHAT IT READS IS OF BULK AT MOST 1048576: true; the input reads as it did. -/
def fnExactCfgRoomyUptoRow : OpenClaim := { program := "ytmcpggbibonolaa", sum := "9e22d8395ef19584bbd3a5ae193fe1354510ed9c5293ed60579b6afb8c280a67", func := "loop.example/hive/laws.FnExactCfgRoomy", spec := "fnExactCfgRoomy", unfollowed := true, recurses := true, apart := false, narrowed := true }
def FnExactCfgRoomyUptoSaid : Prop := fnExactCfgRoomyUptoRow.holds Try.pinned (OpenSpec.upto fnExactCfgRoomySpec)

/-- 'laws.FnExactCfgBound', WHERE WHAT IT READS IS OF BULK AT MOST 1048576: true; the input reads as it did. -/
def fnExactCfgBoundUptoRow : OpenClaim := { program := "ytmcpggbibonolaa", sum := "9e22d8395ef19584bbd3a5ae193fe1354510ed9c5293ed60579b6afb8c280a67", func := "loop.example/hive/laws.FnExactCfgBound", spec := "fnExactCfgBound", unfollowed := true, recurses := true, apart := false, narrowed := true }
def FnExactCfgBoundUptoSaid : Prop := fnExactCfgBoundUptoRow.holds Try.pinned (OpenSpec.upto fnExactCfgBoundSpec)

end Rows
end Go.Proofs.Ytmcpggbibonolaa
