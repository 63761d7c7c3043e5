/-
  No cell of these rows narrows 'for every input' (looked for: loops, veiled, ifaces, maps, wideKeys, modest, calm, conditions, laid).
  DERIVED. THE GIVEN ROWS OF THIS SEAT. 4 by the template 'for every input the law returns true; each argument reads behind the call as it read before'; 0 by the template 'total and deterministic' (their statements: YtjgefnipkaecgaaTotals.lean).
  GIVEN WITH THE SEED: the statements are not yours to turn. If you find one false, say at which input.
  Laid BY PROGRAM, IN A SANDBOX (cutbox-rows.mjs): the forced cells as the released guide's own fill.sh prints them over the translation 131217d698db9b3c… (all of the seat's roots in one cut). By AI agents, Wed Nov 11 2026. No macro, syntax, notation, axiom, sorry.
-/
import Derived.Test.YtjgefnipkaecgaaChecked
import GoSem.Claim
import GoSem.ClaimJoined
import GoSem.ClaimMapViews
import Derived.JoinedTies
import Derived.KernelRfl
namespace Go.Proofs.Ytjgefnipkaecgaa
/- THE CELL 'sum', in the pinned program and in every row, IS THE sha256 OF THE DUMP (.gsa) THAT YtjgefnipkaecgaaProg.lean LOADS. Nothing in Lean hashes anything: it is a label: what it is worth is what the hold of that sum in a sandbox is worth. -/
noncomputable def Try.pinned : Pinned := { name := "ytjgefnipkaecgaa", sum := "131217d698db9b3cbf93bc646abb86558f017280d562b156b7fb44f16c5dd1ee", checked := Try.checked }
namespace Rows
def none {H : Type} : Left H := { results := [], args := [] }

/-- 'viewlaw.DotSays': WHATEVER THE INPUT: true; the input reads as it did. -/
def dotSaysSpec : ChangeSpec := { name := "dotSays", fn := fun _ => fun
  | [d1, d2, d3, d4] => { results := [.lit (.bool true)], args := [d1, d2, d3, d4] }
  | _ => none }
def dotSaysRow : OpenClaim := { program := "ytjgefnipkaecgaa", sum := "131217d698db9b3cbf93bc646abb86558f017280d562b156b7fb44f16c5dd1ee", func := "viewmere/viewlaw.DotSays", spec := "dotSays", unfollowed := true, recurses := true, apart := false }
def DotSaysSaid : Prop := dotSaysRow.holds Try.pinned (OpenSpec.ofChange dotSaysSpec)

/-- ITS FALSE NEIGHBOUR: 'it returns false'. Refute it at one input. -/
def dotSaysWrong : ChangeSpec := { name := "dotSays", fn := fun _ => fun
  | [d1, d2, d3, d4] => { results := [.lit (.bool false)], args := [d1, d2, d3, d4] }
  | _ => none }
def DotSaysWrongFalsely : Prop := dotSaysRow.holds Try.pinned (OpenSpec.ofChange dotSaysWrong)

/-- 'viewlaw.DotPairs': WHATEVER THE INPUT: true; the input reads as it did. -/
def dotPairsSpec : ChangeSpec := { name := "dotPairs", fn := fun _ => fun
  | [d1, d2] => { results := [.lit (.bool true)], args := [d1, d2] }
  | _ => none }
def dotPairsRow : OpenClaim := { program := "ytjgefnipkaecgaa", sum := "131217d698db9b3cbf93bc646abb86558f017280d562b156b7fb44f16c5dd1ee", func := "viewmere/viewlaw.DotPairs", spec := "dotPairs", unfollowed := true, recurses := true, apart := false }
def DotPairsSaid : Prop := dotPairsRow.holds Try.pinned (OpenSpec.ofChange dotPairsSpec)

/-- ITS FALSE NEIGHBOUR: 'it returns false'. Refute it at one input. -/
def dotPairsWrong : ChangeSpec := { name := "dotPairs", fn := fun _ => fun
  | [d1, d2] => { results := [.lit (.bool false)], args := [d1, d2] }
  | _ => none }
def DotPairsWrongFalsely : Prop := dotPairsRow.holds Try.pinned (OpenSpec.ofChange dotPairsWrong)

/-- 'viewlaw.TableSays': WHATEVER THE INPUT: true; the input reads as it did. -/
def tableSaysSpec : ChangeSpec := { name := "tableSays", fn := fun _ => fun
  | [d1, d2, d3, d4, d5] => { results := [.lit (.bool true)], args := [d1, d2, d3, d4, d5] }
  | _ => none }
def tableSaysRow : OpenClaim := { program := "ytjgefnipkaecgaa", sum := "131217d698db9b3cbf93bc646abb86558f017280d562b156b7fb44f16c5dd1ee", func := "viewmere/viewlaw.TableSays", spec := "tableSays", unfollowed := true, recurses := true, apart := false }
def TableSaysSaid : Prop := tableSaysRow.holds Try.pinned (OpenSpec.ofChange tableSaysSpec)

/-- ITS FALSE NEIGHBOUR: 'it returns false'. Refute it at one input. -/
def tableSaysWrong : ChangeSpec := { name := "tableSays", fn := fun _ => fun
  | [d1, d2, d3, d4, d5] => { results := [.lit (.bool false)], args := [d1, d2, d3, d4, d5] }
  | _ => none }
def TableSaysWrongFalsely : Prop := tableSaysRow.holds Try.pinned (OpenSpec.ofChange tableSaysWrong)

/-- 'viewlaw.TableMerges': WHATEVER THE INPUT: true; the input reads as it did. -/
def tableMergesSpec : ChangeSpec := { name := "tableMerges", fn := fun _ => fun
  | [d1, d2] => { results := [.lit (.bool true)], args := [d1, d2] }
  | _ => none }
def tableMergesRow : OpenClaim := { program := "ytjgefnipkaecgaa", sum := "131217d698db9b3cbf93bc646abb86558f017280d562b156b7fb44f16c5dd1ee", func := "viewmere/viewlaw.TableMerges", spec := "tableMerges", unfollowed := true, recurses := true, apart := false }
def TableMergesSaid : Prop := tableMergesRow.holds Try.pinned (OpenSpec.ofChange tableMergesSpec)

/-- ITS FALSE NEIGHBOUR: 'it returns false'. Refute it at one input. -/
def tableMergesWrong : ChangeSpec := { name := "tableMerges", fn := fun _ => fun
  | [d1, d2] => { results := [.lit (.bool false)], args := [d1, d2] }
  | _ => none }
def TableMergesWrongFalsely : Prop := tableMergesRow.holds Try.pinned (OpenSpec.ofChange tableMergesWrong)

/- THE SECOND FORM. 'bulk': how many values and letters a reading holds, each counted each time it is reached (what is shared counts as often as it is met; a slice's spare places count too). A statement '..UptoSaid' is the law's where the arguments, and the package variables that the reading takes, are together of bulk at most 1048576: NARROWER than '..Said'. Prove '..Said' where nothing that the law and all that it calls make is longer than what came in: it says more and counts as full. Else prove '..UptoSaid'. A law counts once. -/
mutual
def uptoBulk {H : Type} : DataW H → Nat
  | .lit (.string bytes) => bytes.length + 1
  | .lit _ => 1
  | .nil => 1
  | .ptr d => uptoBulk d + 1
  | .slice elems spare => uptoBulkAll elems + uptoBulkAll spare + 1
  | .agg parts => uptoBulkAll parts + 1
  | .iface _ d => uptoBulk d + 1
  | .map entries => uptoBulkEntries entries + 1
  | .held _ => 1
def uptoBulkAll {H : Type} : List (DataW H) → Nat
  | [] => 0
  | d :: r => uptoBulk d + uptoBulkAll r
def uptoBulkEntries {H : Type} : List (Lit × DataW H) → Nat
  | [] => 0
  | x :: r => uptoBulkEntry x + uptoBulkEntries r
def uptoBulkEntry {H : Type} : Lit × DataW H → Nat
  | (.string bytes, d) => bytes.length + uptoBulk d + 1
  | (_, d) => uptoBulk d + 1
 end
def uptoSmall : (H : Type) → List (DataW H) → Bool := fun _ ds => decide (uptoBulkAll ds ≤ 1048576)
def OpenSpec.upto (s : _root_.Go.ChangeSpec) : _root_.Go.OpenSpec := { _root_.Go.OpenSpec.ofChange s with cond := some uptoSmall }

/-- 'viewlaw.DotSays', WHERE WHAT IT READS IS OF BULK AT MOST 1048576: true; the input reads as it did. -/
def dotSaysUptoRow : OpenClaim := { program := "ytjgefnipkaecgaa", sum := "131217d698db9b3cbf93bc646abb86558f017280d562b156b7fb44f16c5dd1ee", func := "viewmere/viewlaw.DotSays", spec := "dotSays", unfollowed := true, recurses := true, apart := false, narrowed := true }
def DotSaysUptoSaid : Prop := dotSaysUptoRow.holds Try.pinned (OpenSpec.upto dotSaysSpec)

/-- 'viewlaw.DotPairs', WHERE WHAT IT READS IS OF BULK AT MOST 1048576: true; the input reads as it did. -/
def dotPairsUptoRow : OpenClaim := { program := "ytjgefnipkaecgaa", sum := "131217d698db9b3cbf93bc646abb86558f017280d562b156b7fb44f16c5dd1ee", func := "viewmere/viewlaw.DotPairs", spec := "dotPairs", unfollowed := true, recurses := true, apart := false, narrowed := true }
def DotPairsUptoSaid : Prop := dotPairsUptoRow.holds Try.pinned (OpenSpec.upto dotPairsSpec)

/-- 'viewlaw.TableSays', WHERE WHAT IT READS IS OF BULK AT MOST 1048576: true; the input reads as it did. -/
def tableSaysUptoRow : OpenClaim := { program := "ytjgefnipkaecgaa", sum := "131217d698db9b3cbf93bc646abb86558f017280d562b156b7fb44f16c5dd1ee", func := "viewmere/viewlaw.TableSays", spec := "tableSays", unfollowed := true, recurses := true, apart := false, narrowed := true }
def TableSaysUptoSaid : Prop := tableSaysUptoRow.holds Try.pinned (OpenSpec.upto tableSaysSpec)

/-- 'viewlaw.TableMerges', WHERE WHAT IT READS IS OF BULK AT MOST 1048576: true; the input reads as it did. -/
def tableMergesUptoRow : OpenClaim := { program := "ytjgefnipkaecgaa", sum := "131217d698db9b3cbf93bc646abb86558f017280d562b156b7fb44f16c5dd1ee", func := "viewmere/viewlaw.TableMerges", spec := "tableMerges", unfollowed := true, recurses := true, apart := false, narrowed := true }
def TableMergesUptoSaid : Prop := tableMergesUptoRow.holds Try.pinned (OpenSpec.upto tableMergesSpec)

end Rows
end Go.Proofs.Ytjgefnipkaecgaa
