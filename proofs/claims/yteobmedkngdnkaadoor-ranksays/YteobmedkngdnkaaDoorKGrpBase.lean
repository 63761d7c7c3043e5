/-
  What is carried through the calls of viewkeep.ZsetGroup: lists of items, and what each call tells of them.
-/
import Derived.Test.YteobmedkngdnkaaDoorZCheck
import Derived.Test.YteobmedkngdnkaaDoorZTotMath
import Derived.Test.YteobmedkngdnkaaDoorZOwn
namespace Go.Proofs.YteobmedkngdnkaaDoor
open Go.RowKit Go.Sort

/-- A list of items that lies in memory. -/
structure Lv (W : World) (A : Option Addr) (c : Nat) (l : List Itm) : Prop where
  items : Items W A l
  nilc : NilC A l.length c
  len : l.length ≤ maxLen
theorem Lv.nil {W : World} {A : Option Addr} {c : Nat} {l : List Itm} (h : Lv W A c l) : A = none → c = 0 := h.nilc.z
theorem Lv.below {W W' : World} {A : Option Addr} {c : Nat} {l : List Itm} (h : Lv W A c l) (q : Below W.heap.size W W') : Lv W' A c l := ⟨h.items.below q, h.nilc, h.len⟩
theorem Lv.gr {W W' : World} {A : Option Addr} {c : Nat} {l : List Itm} (h : Lv W A c l) (q : Gr W W') : Lv W' A c l := h.below q.below

end Go.Proofs.YteobmedkngdnkaaDoor
