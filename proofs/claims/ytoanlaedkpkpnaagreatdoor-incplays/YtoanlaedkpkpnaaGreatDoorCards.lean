/-
  DERIVED. GIVEN WITH THE SEED: THE CARDS: each row of YtoanlaedkpkpnaaGreatDoorRows.lean that lists a variable, with what it lists TIED to the program's text (the seventh form; the later family's looks); each row that meets fmt, with fmt's text TOLD by the authors' own Lean function (tested against real Go, not proved from fmt's source: count such statements apart). THE CARD IS WHAT COUNTS. Prove the row's statement (the work); the ties are given (YtoanlaedkpkpnaaGreatDoorTie.lean); close each card by the builder's one call (the guide's Derived/Test/ToyasCard.lean, 'card_holds'). Laid BY PROGRAM, IN A SANDBOX (cutbox-door.mjs). By AI agents, Wed Nov 11 2026. No macro, syntax, notation, axiom, sorry.
-/
import Derived.Test.YtoanlaedkpkpnaaGreatDoorRows
import GoSem.ClaimSeven
namespace Go.Proofs.YtoanlaedkpkpnaaGreatDoor
namespace Rows

/-- THE TIED CARD OF 'viewlaw.IncPlays'. -/
def incPlaysCard : Claim7 := { stood := { row := incPlaysRow, standIns := [], harness := (true, "c4f14a57e04e0ade7a044b026b4ce5e1e6fcd244c59f74558bfefc035231b4d0"), looks := false }, kinds := [], alts := [], laidByText := true, laidKinds := [.data, .data, .data], laidTests := true, laidLooks := .later }
def IncPlaysCardSaid : Prop := Claim7.holds Tryz.pinned (.plain (OpenSpec.ofChange incPlaysSpec)) incPlaysCard

/-- THE SECOND FORM's CARD OF 'viewlaw.IncPlays'. -/
def incPlaysUptoCard : Claim7 := { stood := { row := incPlaysUptoRow, standIns := [], harness := (true, "c4f14a57e04e0ade7a044b026b4ce5e1e6fcd244c59f74558bfefc035231b4d0"), looks := false }, kinds := [], alts := [], laidByText := true, laidKinds := [.data, .data, .data], laidTests := true, laidLooks := .later }
def IncPlaysUptoCardSaid : Prop := Claim7.holds Tryz.pinned (.plain (OpenSpec.upto incPlaysSpec)) incPlaysUptoCard
end Rows
end Go.Proofs.YtoanlaedkpkpnaaGreatDoor
