/-
  (*Net).View: a view of a node.
-/
import Derived.Test.YtkefkplnamkicaaGreatDoorM41
set_option maxRecDepth 100000
set_option maxHeartbeats 8000000
open Go.Value renaming int → I, pointer → V, slice → S, tuple → O
namespace Go.Proofs.YtkefkplnamkicaaGreatDoor
open Go.RowKit Go.Sort

theorem rN {w:World} {B:Nat} (i:Nat) (hi:i<4) (j:Int) {E:Int} {F:List Zit}
  (hV0:Calls Tryz.prog 47 #[V (some ⟨B,i*38,none⟩),I .i64 j] w fun e w'=>∃(L:List Itm) (C:Option Addr) (k:Nat),e= .returned (O #[S C L.length k,I .i64 E])∧L.map Itm.z=F∧Lv w' C k L∧Below w.heap.size w w') :
  Calls Tryz.prog 24 #[V (some ⟨B,0,none⟩),I .i64 i,I .i64 j] w fun e w'=>∃(L:List Itm) (C:Option Addr) (k:Nat),e= .returned (O #[S C L.length k,I .i64 E])∧L.map Itm.z=F∧Lv w' C k L∧Below w.heap.size w w':=by
 have hN:Hid (∀W,Calls Tryz.prog 33 #[I .i64 i] W fun e w'=>e= .returned (.bool true)∧w'=W):=cK i hi
 have hV:Hid _:=hV0
 have hi4:(i:Int)<4:=by omega
 clear hV0
 go_enter Tryz.func24,Tryz.ntmps24
 go_wp2_with fail
 refine cM (hN.out _) ?_
 rintro e w1 ⟨rfl,h0⟩
 have h0:=h0.symm
 subst h0
 go_wp2_with fail
 refine cM (show Calls _ _ _ _ _ from hV.out) ?_
 rintro e w2 ⟨L,C,k,rfl,f1,f2,f3⟩
 have hfin:Hid (L.map Itm.z=F∧Lv w2 C k L∧Below w.heap.size w w2):=⟨f1,f2,f3⟩
 clear f1 f2 f3 hV
 go_wp2
 go_ret2
 exact ⟨L,C,k,rfl,hfin.out⟩
theorem yu {w:World} {B:Nat} {P:Nat→Prop} {M:NetM} {Q:Nat→List (List Stp)} (h:NetP w B P M Q) (i:Nat) (hi:i<4) {j:Nat} (hj:j<(Q i).length) :
  Calls Tryz.prog 24 #[V (some ⟨B,0,none⟩),I .i64 i,I .i64 j] w fun e w'=>∃(L:List Itm) (C:Option Addr) (k:Nat),e= .returned (O #[S C L.length k,I .i64 (bY (Q i)[j] (ofR (M.s i)) (ofR (M.t i)))])∧L.map Itm.z=e7 (Q i)[j] (ofR (M.s i)) (ofR (M.t i))∧Lv w' C k L∧Below w.heap.size w w' :=
 rN i hi j ((rO (h.nd i hi) hj).mono fun _ _ ⟨L,C,k,h1,f1,f2,f3,_⟩=>⟨L,C,k,h1,f1,f2,f3⟩)
theorem vJ {w:World} {B:Nat} {P:Nat→Prop} {M:NetM} {Q:Nat→List (List Stp)} (h:NetP w B P M Q) (i:Nat) (hi:i<4) {E:Int} {F:List Zit}
  (hq:(Q i=[]∧E=4∧F=[])∨∃q r,Q i=q::r∧bY q (ofR (M.s i)) (ofR (M.t i))=E∧e7 q (ofR (M.s i)) (ofR (M.t i))=F) :
  Calls Tryz.prog 24 #[V (some ⟨B,0,none⟩),I .i64 i,I .i64 0] w fun e w'=>∃(L:List Itm) (C:Option Addr) (k:Nat),e= .returned (O #[S C L.length k,I .i64 E])∧L.map Itm.z=F∧Lv w' C k L∧Below w.heap.size w w':=by
 refine rN i hi 0 ?_
 have hn:=h.nd i hi
 rcases hq with ⟨h1,rfl,rfl⟩|⟨q,r,h1,rfl,rfl⟩
 ·rw[h1] at hn
  refine (vK hn (i:=0) (oR (by simp))).mono ?_
  rintro e w' ⟨rfl,rfl⟩
  exact ⟨[],none,0,rfl,rfl,⟨⟨oL rfl,fun x hx=>by cases hx⟩,dx.mk (fun _=>rfl) (nZ _),nZ _⟩,bR _ _⟩
 ·rw[h1] at hn
  refine (rO hn (j:=0) (by simp)).mono ?_
  rintro e w' ⟨L,C,k,rfl,f1,f2,f3,_⟩
  exact ⟨L,C,k,rfl,f1,f2,f3⟩
end Go.Proofs.YtkefkplnamkicaaGreatDoor
