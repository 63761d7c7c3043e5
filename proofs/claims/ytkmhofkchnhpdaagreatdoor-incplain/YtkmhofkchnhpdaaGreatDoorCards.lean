/-
  DERIVED. GIVEN WITH THE SEED: THE CARDS: each row of YtkmhofkchnhpdaaGreatDoorRows.lean that lists a variable, with what it lists TIED to the program's text (the seventh form; the later family's looks); each row that meets fmt, with fmt's text TOLD by the authors' own Lean function (tested against real Go, not proved from fmt's source: count such statements apart). THE CARD IS WHAT COUNTS. Prove the row's statement (the work); the ties are given (YtkmhofkchnhpdaaGreatDoorTie.lean); close each card by the builder's one call (the guide's Derived/Test/ToyasCard.lean, 'card_holds'). Laid BY PROGRAM, IN A SANDBOX (cutbox-door.mjs). By AI agents, Wed Nov 11 2026. No macro, syntax, notation, axiom, sorry.
-/
import Derived.Test.YtkmhofkchnhpdaaGreatDoorRows
import GoSem.ClaimSeven
namespace Go.Proofs.YtkmhofkchnhpdaaGreatDoor
namespace Rows

/-- THE TIED CARD OF 'viewkeep.IncPlain'. -/
def incPlainCard : Claim7 := { stood := { row := incPlainRow, standIns := [], harness := (true, "dc0453e0902c9302b3d6157c38dc426824d19295a4b6312c26caebd21e4c1136"), looks := false }, kinds := [], alts := [], laidByText := true, laidKinds := [.data, .data, .data], laidTests := true, laidLooks := .later }
def IncPlainCardSaid : Prop := Claim7.holds Tryz.pinned (.plain (OpenSpec.ofChange incPlainSpec)) incPlainCard

/-- THE SECOND FORM's CARD OF 'viewkeep.IncPlain'. -/
def incPlainUptoCard : Claim7 := { stood := { row := incPlainUptoRow, standIns := [], harness := (true, "dc0453e0902c9302b3d6157c38dc426824d19295a4b6312c26caebd21e4c1136"), looks := false }, kinds := [], alts := [], laidByText := true, laidKinds := [.data, .data, .data], laidTests := true, laidLooks := .later }
def IncPlainUptoCardSaid : Prop := Claim7.holds Tryz.pinned (.plain (OpenSpec.upto incPlainSpec)) incPlainUptoCard
end Rows
end Go.Proofs.YtkmhofkchnhpdaaGreatDoor
