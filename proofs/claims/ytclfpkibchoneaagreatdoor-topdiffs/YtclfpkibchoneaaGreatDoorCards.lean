/-
  DERIVED. GIVEN WITH THE SEED: THE CARDS: each row of YtclfpkibchoneaaGreatDoorRows.lean that lists a variable, with what it lists TIED to the program's text (the seventh form; the later family's looks); each row that meets fmt, with fmt's text TOLD by the authors' own Lean function (tested against real Go, not proved from fmt's source: count such statements apart). THE CARD IS WHAT COUNTS. Prove the row's statement (the work); the ties are given (YtclfpkibchoneaaGreatDoorTie.lean); close each card by the builder's one call (the guide's Derived/Test/ToyasCard.lean, 'card_holds'). Laid BY PROGRAM, IN A SANDBOX (cutbox-door.mjs). By AI agents, Wed Nov 11 2026. No macro, syntax, notation, axiom, sorry.
-/
import Derived.Test.YtclfpkibchoneaaGreatDoorRows
import GoSem.ClaimSeven
namespace Go.Proofs.YtclfpkibchoneaaGreatDoor
namespace Rows

/-- THE TIED CARD OF 'viewkeep.NetOrders'. -/
def netOrdersCard : Claim7 := { stood := { row := netOrdersRow, standIns := [], harness := (true, "5fb396f40b52d536dc3a9c3f8dca09ad4020e97bd83f803d9102ac79ad63d1b4"), looks := true }, kinds := [], alts := [], laidByText := true, laidKinds := [.data, .data, .data, .data, .sentinel, .sentinel, .pinned], laidTests := true, laidLooks := .later }
def NetOrdersCardSaid : Prop := Claim7.holds Tryz.pinned (.plain (OpenSpec.ofChange netOrdersSpec)) netOrdersCard

/-- THE TIED CARD OF 'viewtop.TopOrder'. -/
def topOrderCard : Claim7 := { stood := { row := topOrderRow, standIns := [], harness := (true, "5fb396f40b52d536dc3a9c3f8dca09ad4020e97bd83f803d9102ac79ad63d1b4"), looks := true }, kinds := [], alts := [], laidByText := true, laidKinds := [.data, .data, .data, .data, .sentinel, .sentinel, .pinned], laidTests := true, laidLooks := .later }
def TopOrderCardSaid : Prop := Claim7.holds Tryz.pinned (.plain (OpenSpec.ofChange topOrderSpec)) topOrderCard

/-- THE TIED CARD OF 'viewtop.TopDiffs'. -/
def topDiffsCard : Claim7 := { stood := { row := topDiffsRow, standIns := [], harness := (true, "5fb396f40b52d536dc3a9c3f8dca09ad4020e97bd83f803d9102ac79ad63d1b4"), looks := true }, kinds := [], alts := [], laidByText := true, laidKinds := [.data, .data, .data, .data, .sentinel, .sentinel, .pinned], laidTests := true, laidLooks := .later }
def TopDiffsCardSaid : Prop := Claim7.holds Tryz.pinned (.plain (OpenSpec.ofChange topDiffsSpec)) topDiffsCard

/-- THE TIED CARD OF 'viewtop.TopWins'. -/
def topWinsCard : Claim7 := { stood := { row := topWinsRow, standIns := [], harness := (true, "5fb396f40b52d536dc3a9c3f8dca09ad4020e97bd83f803d9102ac79ad63d1b4"), looks := true }, kinds := [], alts := [], laidByText := true, laidKinds := [.data, .data, .data, .data, .sentinel, .sentinel, .pinned], laidTests := true, laidLooks := .later }
def TopWinsCardSaid : Prop := Claim7.holds Tryz.pinned (.plain (OpenSpec.ofChange topWinsSpec)) topWinsCard

/-- THE TIED CARD OF 'viewtop.TopGone'. -/
def topGoneCard : Claim7 := { stood := { row := topGoneRow, standIns := [], harness := (true, "5fb396f40b52d536dc3a9c3f8dca09ad4020e97bd83f803d9102ac79ad63d1b4"), looks := true }, kinds := [], alts := [], laidByText := true, laidKinds := [.data, .data, .data, .data, .sentinel, .sentinel, .pinned], laidTests := true, laidLooks := .later }
def TopGoneCardSaid : Prop := Claim7.holds Tryz.pinned (.plain (OpenSpec.ofChange topGoneSpec)) topGoneCard

/-- THE SECOND FORM's CARD OF 'viewkeep.NetOrders'. -/
def netOrdersUptoCard : Claim7 := { stood := { row := netOrdersUptoRow, standIns := [], harness := (true, "5fb396f40b52d536dc3a9c3f8dca09ad4020e97bd83f803d9102ac79ad63d1b4"), looks := true }, kinds := [], alts := [], laidByText := true, laidKinds := [.data, .data, .data, .data, .sentinel, .sentinel, .pinned], laidTests := true, laidLooks := .later }
def NetOrdersUptoCardSaid : Prop := Claim7.holds Tryz.pinned (.plain (OpenSpec.upto netOrdersSpec)) netOrdersUptoCard

/-- THE SECOND FORM's CARD OF 'viewtop.TopOrder'. -/
def topOrderUptoCard : Claim7 := { stood := { row := topOrderUptoRow, standIns := [], harness := (true, "5fb396f40b52d536dc3a9c3f8dca09ad4020e97bd83f803d9102ac79ad63d1b4"), looks := true }, kinds := [], alts := [], laidByText := true, laidKinds := [.data, .data, .data, .data, .sentinel, .sentinel, .pinned], laidTests := true, laidLooks := .later }
def TopOrderUptoCardSaid : Prop := Claim7.holds Tryz.pinned (.plain (OpenSpec.upto topOrderSpec)) topOrderUptoCard

/-- THE SECOND FORM's CARD OF 'viewtop.TopDiffs'. -/
def topDiffsUptoCard : Claim7 := { stood := { row := topDiffsUptoRow, standIns := [], harness := (true, "5fb396f40b52d536dc3a9c3f8dca09ad4020e97bd83f803d9102ac79ad63d1b4"), looks := true }, kinds := [], alts := [], laidByText := true, laidKinds := [.data, .data, .data, .data, .sentinel, .sentinel, .pinned], laidTests := true, laidLooks := .later }
def TopDiffsUptoCardSaid : Prop := Claim7.holds Tryz.pinned (.plain (OpenSpec.upto topDiffsSpec)) topDiffsUptoCard

/-- THE SECOND FORM's CARD OF 'viewtop.TopWins'. -/
def topWinsUptoCard : Claim7 := { stood := { row := topWinsUptoRow, standIns := [], harness := (true, "5fb396f40b52d536dc3a9c3f8dca09ad4020e97bd83f803d9102ac79ad63d1b4"), looks := true }, kinds := [], alts := [], laidByText := true, laidKinds := [.data, .data, .data, .data, .sentinel, .sentinel, .pinned], laidTests := true, laidLooks := .later }
def TopWinsUptoCardSaid : Prop := Claim7.holds Tryz.pinned (.plain (OpenSpec.upto topWinsSpec)) topWinsUptoCard

/-- THE SECOND FORM's CARD OF 'viewtop.TopGone'. -/
def topGoneUptoCard : Claim7 := { stood := { row := topGoneUptoRow, standIns := [], harness := (true, "5fb396f40b52d536dc3a9c3f8dca09ad4020e97bd83f803d9102ac79ad63d1b4"), looks := true }, kinds := [], alts := [], laidByText := true, laidKinds := [.data, .data, .data, .data, .sentinel, .sentinel, .pinned], laidTests := true, laidLooks := .later }
def TopGoneUptoCardSaid : Prop := Claim7.holds Tryz.pinned (.plain (OpenSpec.upto topGoneSpec)) topGoneUptoCard
end Rows
end Go.Proofs.YtclfpkibchoneaaGreatDoor
