/-
  DERIVED. GIVEN WITH THE SEED: THE CARDS: each row of YtkefkplnamkicabGreatDoorRows.lean that lists a variable, with what it lists TIED to the program's text (the seventh form; the later family's looks); each row that meets fmt, with fmt's text TOLD by the authors' own Lean function (tested against real Go, not proved from fmt's source: count such statements apart). THE CARD IS WHAT COUNTS. Prove the row's statement (the work); the ties are given (YtkefkplnamkicabGreatDoorTie.lean); close each card by the builder's one call (the guide's Derived/Test/ToyasCard.lean, 'card_holds'). Laid BY PROGRAM, IN A SANDBOX (cutbox-door.mjs). By AI agents, Wed Nov 11 2026. No macro, syntax, notation, axiom, sorry.
-/
import Derived.Test.YtkefkplnamkicabGreatDoorRows
import GoSem.ClaimSeven
namespace Go.Proofs.YtkefkplnamkicabGreatDoor
namespace Rows

/-- THE TIED CARD OF 'viewtop.TopWins'. -/
def topWinsCard : Claim7 := { stood := { row := topWinsRow, standIns := [], harness := (true, "9125040d7ebff3083e71c2dfc602ea55eb5007dd0b0ba8bb453d2eb993f93a1b"), looks := true }, kinds := [], alts := [], laidByText := true, laidKinds := [.data, .data, .data, .data, .sentinel, .sentinel, .pinned], laidTests := true, laidLooks := .later }
def TopWinsCardSaid : Prop := Claim7.holds Tryz.pinned (.plain (OpenSpec.ofChange topWinsSpec)) topWinsCard

/-- THE TIED CARD OF 'viewtop.TopGone'. -/
def topGoneCard : Claim7 := { stood := { row := topGoneRow, standIns := [], harness := (true, "9125040d7ebff3083e71c2dfc602ea55eb5007dd0b0ba8bb453d2eb993f93a1b"), looks := true }, kinds := [], alts := [], laidByText := true, laidKinds := [.data, .data, .data, .data, .sentinel, .sentinel, .pinned], laidTests := true, laidLooks := .later }
def TopGoneCardSaid : Prop := Claim7.holds Tryz.pinned (.plain (OpenSpec.ofChange topGoneSpec)) topGoneCard

/-- THE SECOND FORM's CARD OF 'viewtop.TopWins'. -/
def topWinsUptoCard : Claim7 := { stood := { row := topWinsUptoRow, standIns := [], harness := (true, "9125040d7ebff3083e71c2dfc602ea55eb5007dd0b0ba8bb453d2eb993f93a1b"), looks := true }, kinds := [], alts := [], laidByText := true, laidKinds := [.data, .data, .data, .data, .sentinel, .sentinel, .pinned], laidTests := true, laidLooks := .later }
def TopWinsUptoCardSaid : Prop := Claim7.holds Tryz.pinned (.plain (OpenSpec.upto topWinsSpec)) topWinsUptoCard

/-- THE SECOND FORM's CARD OF 'viewtop.TopGone'. -/
def topGoneUptoCard : Claim7 := { stood := { row := topGoneUptoRow, standIns := [], harness := (true, "9125040d7ebff3083e71c2dfc602ea55eb5007dd0b0ba8bb453d2eb993f93a1b"), looks := true }, kinds := [], alts := [], laidByText := true, laidKinds := [.data, .data, .data, .data, .sentinel, .sentinel, .pinned], laidTests := true, laidLooks := .later }
def TopGoneUptoCardSaid : Prop := Claim7.holds Tryz.pinned (.plain (OpenSpec.upto topGoneSpec)) topGoneUptoCard
end Rows
end Go.Proofs.YtkefkplnamkicabGreatDoor
