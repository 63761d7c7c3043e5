/-
  DERIVED. GIVEN WITH THE SEED: THE CARDS: each row of YtkefkplnamkicaaGreatDoorRows.lean that lists a variable, with what it lists TIED to the program's text (the seventh form; the later family's looks); each row that meets fmt, with fmt's text TOLD by the authors' own Lean function (tested against real Go, not proved from fmt's source: count such statements apart). THE CARD IS WHAT COUNTS. Prove the row's statement (the work); the ties are given (YtkefkplnamkicaaGreatDoorTie.lean); close each card by the builder's one call (the guide's Derived/Test/ToyasCard.lean, 'card_holds'). Laid BY PROGRAM, IN A SANDBOX (cutbox-door.mjs). By AI agents, Wed Nov 11 2026. No macro, syntax, notation, axiom, sorry.
-/
import Derived.Test.YtkefkplnamkicaaGreatDoorRows
import GoSem.ClaimSeven
namespace Go.Proofs.YtkefkplnamkicaaGreatDoor
namespace Rows

/-- THE TIED CARD OF 'viewkeep.NetOrders'. -/
def netOrdersCard : Claim7 := { stood := { row := netOrdersRow, standIns := [], harness := (true, "43aa2129ccf93032296b54d5bcba23c86bb1771c124bd182a094903d9c289ee7"), looks := true }, kinds := [], alts := [], laidByText := true, laidKinds := [.data, .data, .data, .data, .sentinel, .sentinel, .pinned], laidTests := true, laidLooks := .later }
def NetOrdersCardSaid : Prop := Claim7.holds Tryz.pinned (.plain (OpenSpec.ofChange netOrdersSpec)) netOrdersCard

/-- THE TIED CARD OF 'viewtop.TopMeets'. -/
def topMeetsCard : Claim7 := { stood := { row := topMeetsRow, standIns := [], harness := (true, "43aa2129ccf93032296b54d5bcba23c86bb1771c124bd182a094903d9c289ee7"), looks := true }, kinds := [], alts := [], laidByText := true, laidKinds := [.data, .data, .data, .data, .sentinel, .sentinel, .pinned], laidTests := true, laidLooks := .later }
def TopMeetsCardSaid : Prop := Claim7.holds Tryz.pinned (.plain (OpenSpec.ofChange topMeetsSpec)) topMeetsCard

/-- THE TIED CARD OF 'viewtop.TopViews'. -/
def topViewsCard : Claim7 := { stood := { row := topViewsRow, standIns := [], harness := (true, "43aa2129ccf93032296b54d5bcba23c86bb1771c124bd182a094903d9c289ee7"), looks := true }, kinds := [], alts := [], laidByText := true, laidKinds := [.data, .data, .data, .data, .sentinel, .sentinel, .pinned], laidTests := true, laidLooks := .later }
def TopViewsCardSaid : Prop := Claim7.holds Tryz.pinned (.plain (OpenSpec.ofChange topViewsSpec)) topViewsCard

/-- THE TIED CARD OF 'viewtop.TopAlike'. -/
def topAlikeCard : Claim7 := { stood := { row := topAlikeRow, standIns := [], harness := (true, "43aa2129ccf93032296b54d5bcba23c86bb1771c124bd182a094903d9c289ee7"), looks := true }, kinds := [], alts := [], laidByText := true, laidKinds := [.data, .data, .data, .data, .sentinel, .sentinel, .pinned], laidTests := true, laidLooks := .later }
def TopAlikeCardSaid : Prop := Claim7.holds Tryz.pinned (.plain (OpenSpec.ofChange topAlikeSpec)) topAlikeCard

/-- THE TIED CARD OF 'viewtop.TopOrder'. -/
def topOrderCard : Claim7 := { stood := { row := topOrderRow, standIns := [], harness := (true, "43aa2129ccf93032296b54d5bcba23c86bb1771c124bd182a094903d9c289ee7"), looks := true }, kinds := [], alts := [], laidByText := true, laidKinds := [.data, .data, .data, .data, .sentinel, .sentinel, .pinned], laidTests := true, laidLooks := .later }
def TopOrderCardSaid : Prop := Claim7.holds Tryz.pinned (.plain (OpenSpec.ofChange topOrderSpec)) topOrderCard

/-- THE TIED CARD OF 'viewtop.TopDiffs'. -/
def topDiffsCard : Claim7 := { stood := { row := topDiffsRow, standIns := [], harness := (true, "43aa2129ccf93032296b54d5bcba23c86bb1771c124bd182a094903d9c289ee7"), looks := true }, kinds := [], alts := [], laidByText := true, laidKinds := [.data, .data, .data, .data, .sentinel, .sentinel, .pinned], laidTests := true, laidLooks := .later }
def TopDiffsCardSaid : Prop := Claim7.holds Tryz.pinned (.plain (OpenSpec.ofChange topDiffsSpec)) topDiffsCard

/-- THE SECOND FORM's CARD OF 'viewkeep.NetOrders'. -/
def netOrdersUptoCard : Claim7 := { stood := { row := netOrdersUptoRow, standIns := [], harness := (true, "43aa2129ccf93032296b54d5bcba23c86bb1771c124bd182a094903d9c289ee7"), looks := true }, kinds := [], alts := [], laidByText := true, laidKinds := [.data, .data, .data, .data, .sentinel, .sentinel, .pinned], laidTests := true, laidLooks := .later }
def NetOrdersUptoCardSaid : Prop := Claim7.holds Tryz.pinned (.plain (OpenSpec.upto netOrdersSpec)) netOrdersUptoCard

/-- THE SECOND FORM's CARD OF 'viewtop.TopMeets'. -/
def topMeetsUptoCard : Claim7 := { stood := { row := topMeetsUptoRow, standIns := [], harness := (true, "43aa2129ccf93032296b54d5bcba23c86bb1771c124bd182a094903d9c289ee7"), looks := true }, kinds := [], alts := [], laidByText := true, laidKinds := [.data, .data, .data, .data, .sentinel, .sentinel, .pinned], laidTests := true, laidLooks := .later }
def TopMeetsUptoCardSaid : Prop := Claim7.holds Tryz.pinned (.plain (OpenSpec.upto topMeetsSpec)) topMeetsUptoCard

/-- THE SECOND FORM's CARD OF 'viewtop.TopViews'. -/
def topViewsUptoCard : Claim7 := { stood := { row := topViewsUptoRow, standIns := [], harness := (true, "43aa2129ccf93032296b54d5bcba23c86bb1771c124bd182a094903d9c289ee7"), looks := true }, kinds := [], alts := [], laidByText := true, laidKinds := [.data, .data, .data, .data, .sentinel, .sentinel, .pinned], laidTests := true, laidLooks := .later }
def TopViewsUptoCardSaid : Prop := Claim7.holds Tryz.pinned (.plain (OpenSpec.upto topViewsSpec)) topViewsUptoCard

/-- THE SECOND FORM's CARD OF 'viewtop.TopAlike'. -/
def topAlikeUptoCard : Claim7 := { stood := { row := topAlikeUptoRow, standIns := [], harness := (true, "43aa2129ccf93032296b54d5bcba23c86bb1771c124bd182a094903d9c289ee7"), looks := true }, kinds := [], alts := [], laidByText := true, laidKinds := [.data, .data, .data, .data, .sentinel, .sentinel, .pinned], laidTests := true, laidLooks := .later }
def TopAlikeUptoCardSaid : Prop := Claim7.holds Tryz.pinned (.plain (OpenSpec.upto topAlikeSpec)) topAlikeUptoCard

/-- THE SECOND FORM's CARD OF 'viewtop.TopOrder'. -/
def topOrderUptoCard : Claim7 := { stood := { row := topOrderUptoRow, standIns := [], harness := (true, "43aa2129ccf93032296b54d5bcba23c86bb1771c124bd182a094903d9c289ee7"), looks := true }, kinds := [], alts := [], laidByText := true, laidKinds := [.data, .data, .data, .data, .sentinel, .sentinel, .pinned], laidTests := true, laidLooks := .later }
def TopOrderUptoCardSaid : Prop := Claim7.holds Tryz.pinned (.plain (OpenSpec.upto topOrderSpec)) topOrderUptoCard

/-- THE SECOND FORM's CARD OF 'viewtop.TopDiffs'. -/
def topDiffsUptoCard : Claim7 := { stood := { row := topDiffsUptoRow, standIns := [], harness := (true, "43aa2129ccf93032296b54d5bcba23c86bb1771c124bd182a094903d9c289ee7"), looks := true }, kinds := [], alts := [], laidByText := true, laidKinds := [.data, .data, .data, .data, .sentinel, .sentinel, .pinned], laidTests := true, laidLooks := .later }
def TopDiffsUptoCardSaid : Prop := Claim7.holds Tryz.pinned (.plain (OpenSpec.upto topDiffsSpec)) topDiffsUptoCard
end Rows
end Go.Proofs.YtkefkplnamkicaaGreatDoor
