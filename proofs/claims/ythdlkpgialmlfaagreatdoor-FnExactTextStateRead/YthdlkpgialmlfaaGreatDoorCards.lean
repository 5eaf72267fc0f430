/-
  DERIVED. GIVEN WITH THE SEED: THE CARDS: each row of YthdlkpgialmlfaaGreatDoorRows.lean that lists a variable, with what it lists TIED to the program's text (the seventh form; the later family's looks); each row that meets fmt, with fmt's text TOLD by the authors' own Lean function (tested against real Go, not proved from fmt's source: count such statements apart). THE CARD IS WHAT COUNTS. Prove the row's statement (the work); the ties are given (YthdlkpgialmlfaaGreatDoorTie.lean); close each card by the builder's one call (the guide's Derived/Test/ToyasCard.lean, 'card_holds'). Laid BY PROGRAM, IN A SANDBOX (cutbox-door.mjs). By AI agents, Wed Nov 11 2026. No macro, syntax, notation, axiom, sorry.
-/
import Derived.Test.YthdlkpgialmlfaaGreatDoorRows
import GoSem.ClaimSeven
namespace Go.Proofs.YthdlkpgialmlfaaGreatDoor
namespace Rows

/-- THE TIED CARD OF 'laws.FnExactTextCfgRead'. -/
def fnExactTextCfgReadCard : Claim7 := { stood := { row := fnExactTextCfgReadRow, standIns := [], harness := (true, "8127c5737bfe340929beccee00c95b29ddcd436f1c5883bd4f7f3603efd00ca6"), looks := true }, kinds := [], alts := [], laidByText := true, laidKinds := [.data, .data, .data, .data, .sentinel, .sentinel, .sentinel, .pinned], laidTests := true, laidLooks := .later }
def FnExactTextCfgReadCardSaid : Prop := Claim7.holds Tryz.pinned (.plain (OpenSpec.ofChange fnExactTextCfgReadSpec)) fnExactTextCfgReadCard

/-- THE TIED CARD OF 'laws.FnExactTextStateRead'. -/
def fnExactTextStateReadCard : Claim7 := { stood := { row := fnExactTextStateReadRow, standIns := [], harness := (true, "8127c5737bfe340929beccee00c95b29ddcd436f1c5883bd4f7f3603efd00ca6"), looks := true }, kinds := [], alts := [], laidByText := true, laidKinds := [.data, .data, .data, .data, .sentinel, .sentinel, .sentinel, .pinned], laidTests := true, laidLooks := .later }
def FnExactTextStateReadCardSaid : Prop := Claim7.holds Tryz.pinned (.plain (OpenSpec.ofChange fnExactTextStateReadSpec)) fnExactTextStateReadCard

/-- THE SECOND FORM's CARD OF 'laws.FnExactTextCfgRead'. -/
def fnExactTextCfgReadUptoCard : Claim7 := { stood := { row := fnExactTextCfgReadUptoRow, standIns := [], harness := (true, "8127c5737bfe340929beccee00c95b29ddcd436f1c5883bd4f7f3603efd00ca6"), looks := true }, kinds := [], alts := [], laidByText := true, laidKinds := [.data, .data, .data, .data, .sentinel, .sentinel, .sentinel, .pinned], laidTests := true, laidLooks := .later }
def FnExactTextCfgReadUptoCardSaid : Prop := Claim7.holds Tryz.pinned (.plain (OpenSpec.upto fnExactTextCfgReadSpec)) fnExactTextCfgReadUptoCard

/-- THE SECOND FORM's CARD OF 'laws.FnExactTextStateRead'. -/
def fnExactTextStateReadUptoCard : Claim7 := { stood := { row := fnExactTextStateReadUptoRow, standIns := [], harness := (true, "8127c5737bfe340929beccee00c95b29ddcd436f1c5883bd4f7f3603efd00ca6"), looks := true }, kinds := [], alts := [], laidByText := true, laidKinds := [.data, .data, .data, .data, .sentinel, .sentinel, .sentinel, .pinned], laidTests := true, laidLooks := .later }
def FnExactTextStateReadUptoCardSaid : Prop := Claim7.holds Tryz.pinned (.plain (OpenSpec.upto fnExactTextStateReadSpec)) fnExactTextStateReadUptoCard
end Rows
end Go.Proofs.YthdlkpgialmlfaaGreatDoor
