/-
  DERIVED. GIVEN WITH THE SEED: THE CARDS: each row of YtjjpmkekcffceaaDoorRows.lean that lists a variable, with what it lists TIED to the program's text (the seventh form; the later family's looks); each row that meets fmt, with fmt's text TOLD by the authors' own Lean function (tested against real Go, not proved from fmt's source: count such statements apart). THE CARD IS WHAT COUNTS. Prove the row's statement (the work); the ties are given (YtjjpmkekcffceaaDoorTie.lean); close each card by the builder's one call (the guide's Derived/Test/ToyasCard.lean, 'card_holds'). Laid BY PROGRAM, IN A SANDBOX (cutbox-door.mjs). By AI agents, Wed Nov 11 2026. No macro, syntax, notation, axiom, sorry.
-/
import Derived.Test.YtjjpmkekcffceaaDoorRows
import GoSem.ClaimSeven
namespace Go.Proofs.YtjjpmkekcffceaaDoor
namespace Rows

/-- THE TIED CARD OF 'viewlaw.QuerySays'. -/
def querySaysCard : Claim7 := { stood := { row := querySaysRow, standIns := [], harness := (true, "200885c93da0ec8b98052b509f2e2be7bd49b061a44bae9740ac2cc9db438ae4"), looks := false }, kinds := [], alts := [], laidByText := true, laidKinds := [.data, .data, .data, .widerDeep], laidTests := true, laidLooks := .later }
def QuerySaysCardSaid : Prop := Claim7.holds Tryd.pinned (.plain (OpenSpec.ofChange querySaysSpec)) querySaysCard

/-- THE SECOND FORM's CARD OF 'viewlaw.QuerySays'. -/
def querySaysUptoCard : Claim7 := { stood := { row := querySaysUptoRow, standIns := [], harness := (true, "200885c93da0ec8b98052b509f2e2be7bd49b061a44bae9740ac2cc9db438ae4"), looks := false }, kinds := [], alts := [], laidByText := true, laidKinds := [.data, .data, .data, .widerDeep], laidTests := true, laidLooks := .later }
def QuerySaysUptoCardSaid : Prop := Claim7.holds Tryd.pinned (.plain (OpenSpec.upto querySaysSpec)) querySaysUptoCard
end Rows
end Go.Proofs.YtjjpmkekcffceaaDoor
