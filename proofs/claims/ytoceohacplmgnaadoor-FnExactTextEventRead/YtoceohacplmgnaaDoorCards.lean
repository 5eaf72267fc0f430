/-
  DERIVED. GIVEN WITH THE SEED: THE CARDS: each row of YtoceohacplmgnaaDoorRows.lean that lists a variable, with what it lists TIED to the program's text (the seventh form; the later family's looks); each row that meets fmt, with fmt's text TOLD by the authors' own Lean function (tested against real Go, not proved from fmt's source: count such statements apart). THE CARD IS WHAT COUNTS. Prove the row's statement (the work); the ties are given (YtoceohacplmgnaaDoorTie.lean); close each card by the builder's one call (the guide's Derived/Test/ToyasCard.lean, 'card_holds'). Laid BY PROGRAM, IN A SANDBOX (cutbox-door.mjs). By AI agents, Wed Nov 11 2026. No macro, syntax, notation, axiom, sorry.
-/
import Derived.Test.YtoceohacplmgnaaDoorRows
import GoSem.ClaimSeven
namespace Go.Proofs.YtoceohacplmgnaaDoor
namespace Rows

/-- THE TIED CARD OF 'laws.FnExactTextCfg'. -/
def fnExactTextCfgCard : Claim7 := { stood := { row := fnExactTextCfgRow, standIns := [], harness := (true, "f523f77f1a5062ef122873ab8bb5f29f9251260f2ef4ef50c850fa283deea4fc"), looks := true }, kinds := [], alts := [], laidByText := true, laidKinds := [.data, .data, .data], laidTests := true, laidLooks := .later }
def FnExactTextCfgCardSaid : Prop := Claim7.holds Tryd.pinned (.plain (OpenSpec.ofChange fnExactTextCfgSpec)) fnExactTextCfgCard

/-- THE TIED CARD OF 'laws.FnExactTextState'. -/
def fnExactTextStateCard : Claim7 := { stood := { row := fnExactTextStateRow, standIns := [], harness := (true, "f523f77f1a5062ef122873ab8bb5f29f9251260f2ef4ef50c850fa283deea4fc"), looks := true }, kinds := [], alts := [], laidByText := true, laidKinds := [.data, .data, .data], laidTests := true, laidLooks := .later }
def FnExactTextStateCardSaid : Prop := Claim7.holds Tryd.pinned (.plain (OpenSpec.ofChange fnExactTextStateSpec)) fnExactTextStateCard

/-- THE TIED CARD OF 'laws.FnExactTextEvent'. -/
def fnExactTextEventCard : Claim7 := { stood := { row := fnExactTextEventRow, standIns := [], harness := (true, "f523f77f1a5062ef122873ab8bb5f29f9251260f2ef4ef50c850fa283deea4fc"), looks := true }, kinds := [], alts := [], laidByText := true, laidKinds := [.data, .data, .data], laidTests := true, laidLooks := .later }
def FnExactTextEventCardSaid : Prop := Claim7.holds Tryd.pinned (.plain (OpenSpec.ofChange fnExactTextEventSpec)) fnExactTextEventCard

/-- THE TIED CARD OF 'laws.FnExactTextEventRead'. -/
def fnExactTextEventReadCard : Claim7 := { stood := { row := fnExactTextEventReadRow, standIns := [], harness := (true, "f523f77f1a5062ef122873ab8bb5f29f9251260f2ef4ef50c850fa283deea4fc"), looks := true }, kinds := [], alts := [], laidByText := true, laidKinds := [.data, .data, .data, .data, .sentinel, .sentinel, .sentinel, .pinned], laidTests := true, laidLooks := .later }
def FnExactTextEventReadCardSaid : Prop := Claim7.holds Tryd.pinned (.plain (OpenSpec.ofChange fnExactTextEventReadSpec)) fnExactTextEventReadCard

/-- THE TIED CARD OF 'laws.FnExactTextWrite'. -/
def fnExactTextWriteCard : Claim7 := { stood := { row := fnExactTextWriteRow, standIns := [], harness := (true, "f523f77f1a5062ef122873ab8bb5f29f9251260f2ef4ef50c850fa283deea4fc"), looks := true }, kinds := [], alts := [], laidByText := true, laidKinds := [.data, .data, .data], laidTests := true, laidLooks := .later }
def FnExactTextWriteCardSaid : Prop := Claim7.holds Tryd.pinned (.plain (OpenSpec.ofChange fnExactTextWriteSpec)) fnExactTextWriteCard

/-- THE SECOND FORM's CARD OF 'laws.FnExactTextCfg'. -/
def fnExactTextCfgUptoCard : Claim7 := { stood := { row := fnExactTextCfgUptoRow, standIns := [], harness := (true, "f523f77f1a5062ef122873ab8bb5f29f9251260f2ef4ef50c850fa283deea4fc"), looks := true }, kinds := [], alts := [], laidByText := true, laidKinds := [.data, .data, .data], laidTests := true, laidLooks := .later }
def FnExactTextCfgUptoCardSaid : Prop := Claim7.holds Tryd.pinned (.plain (OpenSpec.upto fnExactTextCfgSpec)) fnExactTextCfgUptoCard

/-- THE SECOND FORM's CARD OF 'laws.FnExactTextState'. -/
def fnExactTextStateUptoCard : Claim7 := { stood := { row := fnExactTextStateUptoRow, standIns := [], harness := (true, "f523f77f1a5062ef122873ab8bb5f29f9251260f2ef4ef50c850fa283deea4fc"), looks := true }, kinds := [], alts := [], laidByText := true, laidKinds := [.data, .data, .data], laidTests := true, laidLooks := .later }
def FnExactTextStateUptoCardSaid : Prop := Claim7.holds Tryd.pinned (.plain (OpenSpec.upto fnExactTextStateSpec)) fnExactTextStateUptoCard

/-- THE SECOND FORM's CARD OF 'laws.FnExactTextEvent'. -/
def fnExactTextEventUptoCard : Claim7 := { stood := { row := fnExactTextEventUptoRow, standIns := [], harness := (true, "f523f77f1a5062ef122873ab8bb5f29f9251260f2ef4ef50c850fa283deea4fc"), looks := true }, kinds := [], alts := [], laidByText := true, laidKinds := [.data, .data, .data], laidTests := true, laidLooks := .later }
def FnExactTextEventUptoCardSaid : Prop := Claim7.holds Tryd.pinned (.plain (OpenSpec.upto fnExactTextEventSpec)) fnExactTextEventUptoCard

/-- THE SECOND FORM's CARD OF 'laws.FnExactTextEventRead'. -/
def fnExactTextEventReadUptoCard : Claim7 := { stood := { row := fnExactTextEventReadUptoRow, standIns := [], harness := (true, "f523f77f1a5062ef122873ab8bb5f29f9251260f2ef4ef50c850fa283deea4fc"), looks := true }, kinds := [], alts := [], laidByText := true, laidKinds := [.data, .data, .data, .data, .sentinel, .sentinel, .sentinel, .pinned], laidTests := true, laidLooks := .later }
def FnExactTextEventReadUptoCardSaid : Prop := Claim7.holds Tryd.pinned (.plain (OpenSpec.upto fnExactTextEventReadSpec)) fnExactTextEventReadUptoCard

/-- THE SECOND FORM's CARD OF 'laws.FnExactTextWrite'. -/
def fnExactTextWriteUptoCard : Claim7 := { stood := { row := fnExactTextWriteUptoRow, standIns := [], harness := (true, "f523f77f1a5062ef122873ab8bb5f29f9251260f2ef4ef50c850fa283deea4fc"), looks := true }, kinds := [], alts := [], laidByText := true, laidKinds := [.data, .data, .data], laidTests := true, laidLooks := .later }
def FnExactTextWriteUptoCardSaid : Prop := Claim7.holds Tryd.pinned (.plain (OpenSpec.upto fnExactTextWriteSpec)) fnExactTextWriteUptoCard
end Rows
end Go.Proofs.YtoceohacplmgnaaDoor
