/-
  A node's view in memory: a kept query, what it has missed, and its error.
  (*view).turn: what came to both tables is taken, with what was missed; (*view).tell.
  slices.BinarySearchFunc at cells, with table.order.
  viewref.SameContext: whether two contexts are the same.
  slices.Equal at cells; viewref.SameTable: whether two tables are the same.
  table.clash: has a cell of one list the dot of one of the other, and is another one?
-/
import Derived.Test.YtckeonpnfankhaaGreatDoorM18
import Derived.ChangeKeysEq
set_option maxRecDepth 100000
set_option maxHeartbeats 8000000
namespace Go.Proofs.YtckeonpnfankhaaGreatDoor
open Go.RowKit Go.Sort

theorem Vo.mono {w:World} {V o:Nat} {P P':Nat→Prop} {q:List Stp} {QA:Option Addr} {cq:Nat} {a:List Itm} {A:Option Addr} {ca:Nat} {b:List Itm} {B:Option Addr} {cb:Nat} (h:Vo w V o P q QA cq a A ca b B cb) (k:∀b,P b→P' b):Vo w V o P' q QA cq a A ca b B cb :=
 ⟨h.lt,h.fz,h.c0,h.c1,h.c2,h.st.mono k,h.len,h.la.mono k,h.lb.mono k⟩
theorem Vo.set {w:World} {V o:Nat} {P:Nat→Prop} {q:List Stp} {QA:Option Addr} {cq:Nat} {a:List Itm} {A:Option Addr} {ca:Nat} {b:List Itm} {B:Option Addr} {cb:Nat} (h:Vo w V o P q QA cq a A ca b B cb) (hV:¬P V) {j:Nat} (hj:o+3≤j) (v:Value):Vo (w.setCell ⟨V,j,none⟩ v) V o P q QA cq a A ca b B cb :=
 have hA:Agr P w (w.setCell ⟨V,j,none⟩ v):=aS v hV
 ⟨by simpa using h.lt,fun j=>by simpa using h.fz j,by rw[ct (by omega)];exact h.c0,by rw[ct (by omega)];exact h.c1,by rw[ct (by omega)];exact h.c2,h.st.agr hA,h.len,h.la.agr hA,h.lb.agr hA⟩
structure Vm (w:World) (V o:Nat) (P:Nat→Prop) (q:List Stp) (QA:Option Addr) (cq:Nat) (a:List Itm) (A:Option Addr) (ca:Nat) (b:List Itm) (B:Option Addr) (cb:Nat) (x:List Itm) (X:Option Addr) (cx:Nat) (y:List Itm) (Y:Option Addr) (cy:Nat) (e:Int):Prop where
 vo:Vo w V o P q QA cq a A ca b B cb
 c3:w.cell? ⟨V,o+3,none⟩=some (.slice X x.length cx)
 c4:w.cell? ⟨V,o+4,none⟩=some (.slice Y y.length cy)
 c5:w.cell? ⟨V,o+5,none⟩=some (.int .i64 e)
 lx:LvP P w X cx x
 ly:LvP P w Y cy y
section
variable {w w':World} {V o:Nat} {P P':Nat→Prop} {q:List Stp} {QA:Option Addr} {cq:Nat} {a:List Itm} {A:Option Addr} {ca:Nat} {b:List Itm} {B:Option Addr} {cb:Nat} {x:List Itm} {X:Option Addr} {cx:Nat} {y:List Itm} {Y:Option Addr} {cy:Nat} {e:Int}
theorem Vm.below (h:Vm w V o P q QA cq a A ca b B cb x X cx y Y cy e) (k:Below w.heap.size w w'):Vm w' V o P q QA cq a A ca b B cb x X cx y Y cy e :=
 ⟨h.vo.below k,(k.cell (p:=⟨V,o+3,none⟩) h.vo.lt).trans h.c3,(k.cell (p:=⟨V,o+4,none⟩) h.vo.lt).trans h.c4,(k.cell (p:=⟨V,o+5,none⟩) h.vo.lt).trans h.c5,h.lx.below k,h.ly.below k⟩
theorem Vm.mono (h:Vm w V o P q QA cq a A ca b B cb x X cx y Y cy e) (k:∀b,P b→P' b):Vm w V o P' q QA cq a A ca b B cb x X cx y Y cy e :=
 ⟨h.vo.mono k,h.c3,h.c4,h.c5,h.lx.mono k,h.ly.mono k⟩
theorem Vm.set3 (h:Vm w V o P q QA cq a A ca b B cb x X cx y Y cy e) (hV:¬P V) {x':List Itm} {X':Option Addr} {cx':Nat} (hx:LvP P w X' cx' x'):Vm (w.setCell ⟨V,o+3,none⟩ (.slice X' x'.length cx')) V o P q QA cq a A ca b B cb x' X' cx' y Y cy e :=
 ⟨h.vo.set hV (by omega) _,World.cell?_setCell_same _ _ _ h.c3,by rw[ct (by omega)];exact h.c4,by rw[ct (by omega)];exact h.c5,hx.agr (aS _ hV),h.ly.agr (aS _ hV)⟩
theorem Vm.set4 (h:Vm w V o P q QA cq a A ca b B cb x X cx y Y cy e) (hV:¬P V) {y':List Itm} {Y':Option Addr} {cy':Nat} (hy:LvP P w Y' cy' y'):Vm (w.setCell ⟨V,o+4,none⟩ (.slice Y' y'.length cy')) V o P q QA cq a A ca b B cb x X cx y' Y' cy' e :=
 ⟨h.vo.set hV (by omega) _,by rw[ct (by omega)];exact h.c3,World.cell?_setCell_same _ _ _ h.c4,by rw[ct (by omega)];exact h.c5,h.lx.agr (aS _ hV),hy.agr (aS _ hV)⟩
theorem Vm.set5 (h:Vm w V o P q QA cq a A ca b B cb x X cx y Y cy e) (hV:¬P V) (e':Int):Vm (w.setCell ⟨V,o+5,none⟩ (.int .i64 e')) V o P q QA cq a A ca b B cb x X cx y Y cy e' :=
 ⟨h.vo.set hV (by omega) _,by rw[ct (by omega)];exact h.c3,by rw[ct (by omega)];exact h.c4,World.cell?_setCell_same _ _ _ h.c5,h.lx.agr (aS _ hV),h.ly.agr (aS _ hV)⟩
end
def VwM (w:World) (V o:Nat) (P:Nat→Prop) (q:List Stp) (k l m n:List Zit) (e:Int):Prop :=
 ∃(q':List Stp) (QA:Option Addr) (cq:Nat) (a:List Itm) (A:Option Addr) (ca:Nat) (b:List Itm) (B:Option Addr) (cb:Nat) (x:List Itm) (X:Option Addr) (cx:Nat) (y:List Itm) (Y:Option Addr) (cy:Nat),
  Vm w V o P q' QA cq a A ca b B cb x X cx y Y cy e∧q'.map bare=q.map bare∧a.map Itm.z=k∧b.map Itm.z=l∧x.map Itm.z=m∧y.map Itm.z=n
theorem VwM.below {w w':World} {V o:Nat} {P:Nat→Prop} {q:List Stp} {k l m n:List Zit} {e:Int} (h:VwM w V o P q k l m n e) (g:Below w.heap.size w w'):VwM w' V o P q k l m n e:=by
 obtain ⟨q',QA,cq,a,A,ca,b,B,cb,x,X,cx,y,Y,cy,h1,h2⟩:=h
 exact ⟨q',QA,cq,a,A,ca,b,B,cb,x,X,cx,y,Y,cy,h1.below g,h2⟩
theorem VwM.mono {w:World} {V o:Nat} {P P':Nat→Prop} {q:List Stp} {k l m n:List Zit} {e:Int} (h:VwM w V o P q k l m n e) (g:∀b,P b→P' b):VwM w V o P' q k l m n e:=by
 obtain ⟨q',QA,cq,a,A,ca,b,B,cb,x,X,cx,y,Y,cy,h1,h2⟩:=h
 exact ⟨q',QA,cq,a,A,ca,b,B,cb,x,X,cx,y,Y,cy,h1.mono g,h2⟩
theorem VwM.keep {w w':World} {V o:Nat} {P:Nat→Prop} {q:List Stp} {k l m n:List Zit} {e:Int} (h:VwM w V o P q k l m n e) (hA:Agr P w w') (hl:V<w'.heap.size) (hf:∀j,w'.frozen? ⟨V,j,none⟩=false) (hc:∀j,o≤j→j<o+6→w'.cell? ⟨V,j,none⟩=w.cell? ⟨V,j,none⟩):VwM w' V o P q k l m n e:=by
 obtain ⟨q',QA,cq,a,A,ca,b,B,cb,x,X,cx,y,Y,cy,h1,h2⟩:=h
 exact ⟨q',QA,cq,a,A,ca,b,B,cb,x,X,cx,y,Y,cy,⟨⟨hl,hf,(hc o (by omega) (by omega)).trans h1.vo.c0,(hc (o+1) (by omega) (by omega)).trans h1.vo.c1,(hc (o+2) (by omega) (by omega)).trans h1.vo.c2,h1.vo.st.agr hA,h1.vo.len,h1.vo.la.agr hA,h1.vo.lb.agr hA⟩,(hc (o+3) (by omega) (by omega)).trans h1.c3,(hc (o+4) (by omega) (by omega)).trans h1.c4,(hc (o+5) (by omega) (by omega)).trans h1.c5,h1.lx.agr hA,h1.ly.agr hA⟩,h2⟩
def VwN (w:World) (V o:Nat) (P:Nat→Prop) (q:List Stp) (z y:List Zit):Prop :=
 ∃k l,VwM w V o P q k l (aX z k) (aX y l) (cH q z y)∧TS k∧TS l∧(cH q z y=0→k=z∧l=y)
theorem VwN.mono {w:World} {V o:Nat} {P P':Nat→Prop} {q:List Stp} {z y:List Zit} (h:VwN w V o P q z y) (g:∀b,P b→P' b):VwN w V o P' q z y:=by
 obtain ⟨k,l,h1,h2⟩:=h
 exact ⟨k,l,h1.mono g,h2⟩
theorem VwN.keep {w w':World} {V o:Nat} {P:Nat→Prop} {q:List Stp} {z y:List Zit} (h:VwN w V o P q z y) (hA:Agr P w w') (hl:V<w'.heap.size) (hf:∀j,w'.frozen? ⟨V,j,none⟩=false) (hc:∀j,o≤j→j<o+6→w'.cell? ⟨V,j,none⟩=w.cell? ⟨V,j,none⟩):VwN w' V o P q z y:=by
 obtain ⟨k,l,h1,h2⟩:=h
 exact ⟨k,l,h1.keep hA hl hf hc,h2⟩

theorem ue {w w5 w6:World} {V o:Nat} {P:Nat→Prop} {q:List Stp} {QA:Option Addr} {cq:Nat} {a a':List Itm} {A A':Option Addr} {ca ca':Nat} {b b':List Itm} {B B':Option Addr} {cb cb':Nat} {x:List Itm} {X:Option Addr} {cx:Nat} {y:List Itm} {Y:Option Addr} {cy:Nat} {e:Int} {k l:List Zit} {T:TypeId} {n:Nat} (hB:Blk w V T n) (h:Vm w5 V o (ae P w.heap.size w5.heap.size) q QA cq a A ca b B cb x X cx y Y cy e) (hw:Wr V o (o+6) w w5) (hlt:V<w.heap.size) (hV:¬P V) (f1:a'.map Itm.z=k) (f2:b'.map Itm.z=l) (f3:Vo w6 V o (ae (ae P w.heap.size w5.heap.size) w5.drew.heap.size w6.heap.size) q QA cq a' A' ca' b' B' cb') (f4:Wr V (o+1) (o+3) w5.drew w6) :
  a'.map Itm.z=k∧b'.map Itm.z=l∧Vm w6 V o (ae P w.heap.size w6.heap.size) q QA cq a' A' ca' b' B' cb' x X cx y Y cy e∧Wr V o (o+6) w w6:=by
 have hs:w5.heap.size≤w6.heap.size:=f4.size
 have hPV:¬ae P w.heap.size w5.heap.size V:=fun k=>k.elim hV fun k=>by omega
 have hA:Agr (ae P w.heap.size w5.heap.size) w5 w6:=(Agr.of (gR w5).drew.below).trans (f4.agr hPV)
 have hm:=ae.more (P:=P) (m:=w.heap.size) (n:=w5.heap.size) (nR w.heap.size) hs
 have hc:∀j,o+3≤j→w6.cell? ⟨V,j,none⟩=w5.cell? ⟨V,j,none⟩:=fun j hj=>by
  have hb5:Blk w5.drew V T n:=hw.block hB
  exact f4.cell hb5 (oR hj)
 exact ⟨f1,f2,⟨f3.mono (fun b hb=>ae.two hw.size hs b hb),(hc _ (by omega)).trans h.c3,(hc _ (by omega)).trans h.c4,(hc _ (by omega)).trans h.c5,(h.lx.agr hA).mono hm,(h.ly.agr hA).mono hm⟩,hw.trans ((Wr.of (gR w5).drew.below h.vo.lt).trans (f4.mono (by omega) (by omega)))⟩
theorem oS {w:World} {V o:Nat} {P Q:Nat→Prop} {q:List Stp} {k l z y z' y':List Zit} {e0:Int} {T:TypeId} {nB:Nat} (hBk:Blk w V T nB) (hV:¬P V) (hQ:¬Q V) (h:VwM w V o P q k l (aX z k) (aX y l) e0) (hk:TS k) (hl:TS l) (hz:TS z) (hy:TS y) (hz':TS z') (hy':TS y') {m n:List Itm} {M N:Option Addr} {cm cn:Nat} (hm:LvP Q w M cm m) (hn:LvP Q w N cn n) (em:m.map Itm.z=aX z' z) (en:n.map Itm.z=aX y' y) :
  Calls Tryz.prog 80 #[.pointer (some ⟨V,o,none⟩),.agg #[.slice M m.length cm,.slice N n.length cn]] w fun e w'=>e= .returned (.tuple #[])∧VwN w' V o (ae P w.heap.size w'.heap.size) q z' y'∧Wr V o (o+6) w w':=by
 obtain ⟨q',QA,cq,a,A,ca,b,B,cb,x,X,cx,u,U,cu,h1,hq,ha,hb,hx,hu⟩:=h
 have hi0:=yw (.slice M m.length cm) (.slice N n.length cn)
 have hi1:=zj (.slice M m.length cm) (.slice N n.length cn)
 have mixed:Tryz.prog.follows .mixedOrders=true:=by kernel_rfl
 have hT:Hid (TS k∧TS l∧TS z∧TS y∧TS z'∧TS y'):=⟨hk,hl,hz,hy,hz',hy'⟩
 have hE:Hid (q'.map bare=q.map bare∧a.map Itm.z=k∧b.map Itm.z=l∧m.map Itm.z=aX z' z∧n.map Itm.z=aX y' y∧x.map Itm.z=aX z k∧u.map Itm.z=aX y l):=⟨hq,ha,hb,em,en,hx,hu⟩
 have hP:Hid (¬P V∧¬Q V):=⟨hV,hQ⟩
 have hBH:Hid (Blk w V T nB):=hBk
 clear hBk
 obtain ⟨w1,hw1⟩:∃W,(w.alloc (.cells #[.slice M m.length cm,.slice N n.length cn] 71))=W:=⟨_,rfl⟩
 have s0:w1.cell? ⟨w.heap.size,0,none⟩=some (.slice M m.length cm):=by rw[←hw1];exact aa (w:=w) (gR _) rfl
 have s1:w1.cell? ⟨w.heap.size,1,none⟩=some (.slice N n.length cn):=by rw[←hw1];exact aa (w:=w) (gR _) rfl
 have hb1:Below w.heap.size w w1:=by rw[←hw1];exact ((gR w).alloc _).below
 have hH:Hid (Vm w1 V o P q' QA cq a A ca b B cb x X cx u U cu e0∧LvP Q w1 M cm m∧LvP Q w1 N cn n∧Below w.heap.size w w1∧V<w.heap.size):=⟨h1.below hb1,hm.below hb1,hn.below hb1,hb1,h1.vo.lt⟩
 have c3:=hH.out.1.c3
 have hS0:Hid (∀W,Gr w1 W→Calls Tryz.prog 112 #[.slice X x.length cx,.slice M m.length cm] W fun e w'=>∃(L:List Itm) (C:Option Addr) (k':Nat),e= .returned (.slice C L.length k')∧L.map Itm.z=aX z' k∧LvP (fun b=>W.heap.size≤b∧b<w'.heap.size) w' C k' L∧Below W.heap.size W w'):=fun W hg=>jr (hH.out.1.lx.lv.gr hg) (hH.out.2.1.lv.gr hg) (by rw[hx,em];exact (lp hk hz hz').2)
 clear h1 hm hn hb1 hk hl hz hy hz' hy' hq ha hb em en hx hu hV hQ
 go_enter Tryz.func80,Tryz.ntmps80
 go_wp2
 clear hw1 s0 s1
 refine wp_loop_rounds 3 ?_
 rw[rounds_succ]
 go_wp2
 go_region_with (go_at_call 112;refine cM (hS0.out _ (gR w1).drew) ?_;rintro e w2 ⟨L,C,k',rfl,h1,h2,h3⟩;have hb2:Below w1.heap.size w1 w2:=(gR w1).drew.below.trans h3;have hHH:Hid (Below w1.heap.size w1 w2∧LvP (fun b=>w1.heap.size≤b∧b<w2.heap.size) w2 C k' L∧L.map Itm.z=aX z' k):=⟨hb2,h2,h1⟩;clear h1 h2 h3;have p0:=(hH.out.1.below hb2).c3;have z0:=(hH.out.1.below hb2).vo.fz (o+3);clear hb2)
 clear p0 z0 c3 hS0 hi0
 obtain ⟨w3,hw3⟩:∃W,w2.setCell ⟨V,o+3,none⟩ (.slice C L.length k')=W:=⟨_,rfl⟩
 rw[hw3]
 have h3:Hid (Vm w3 V o (ae P w.heap.size w3.heap.size) q' QA cq a A ca b B cb L C k' u U cu e0∧L.map Itm.z=aX z' k∧Wr V o (o+6) w w3∧LvP Q w3 N cn n):=by
  have hb2:=hHH.out.1
  have hs3:w3.heap.size=w2.heap.size:=by rw[←hw3];simp
  have hlt:=hH.out.2.2.2.2
  have hsz:=hH.out.2.2.2.1.size
  have hPV:¬ae P w.heap.size w2.heap.size V:=fun k=>k.elim hP.out.1 fun k=>by omega
  refine ⟨?_,hHH.out.2.2,?_,?_⟩
  ·rw[hs3,←hw3]
   exact ((hH.out.1.below hb2).mono fun b hb=>ae.old b hb).set3 hPV (hHH.out.2.1.mono fun b hb=>ae.new (m:=w.heap.size) (n:=w2.heap.size) hsz (nR _) b hb)
  ·rw[←hw3]
   exact ((Wr.of (hH.out.2.2.2.1.trans (hb2.mono hsz)) hlt).trans (Wr.set _ _ (by omega) (by omega)))
  ·rw[←hw3]
   exact (hH.out.2.2.1.below hb2).agr (aS _ hP.out.2)
 have hlt0:Hid (V<w.heap.size):=hH.out.2.2.2.2
 clear hw3 hHH hH
 go_wp2
 rw[rounds_succ]
 have c4:=h3.out.1.c4
 have hS0:Hid (∀W,Gr w3 W→Calls Tryz.prog 112 #[.slice U u.length cu,.slice N n.length cn] W fun e w'=>∃(L:List Itm) (C:Option Addr) (k':Nat),e= .returned (.slice C L.length k')∧L.map Itm.z=aX y' l∧LvP (fun b=>W.heap.size≤b∧b<w'.heap.size) w' C k' L∧Below W.heap.size W w'):=fun W hg=>jr (h3.out.1.ly.lv.gr hg) (h3.out.2.2.2.lv.gr hg) (by rw[hE.out.2.2.2.2.2.2,hE.out.2.2.2.2.1];exact (lp hT.out.2.1 hT.out.2.2.2.1 hT.out.2.2.2.2.2).2)
 go_wp2
 go_region_with (go_at_call 112;refine cM (hS0.out _ (gR w3).drew) ?_;rintro e w4 ⟨L2,C2,k2,rfl,h1,h2,h4⟩;have hb4:Below w3.heap.size w3 w4:=(gR w3).drew.below.trans h4;have hHH:Hid (Below w3.heap.size w3 w4∧LvP (fun b=>w3.heap.size≤b∧b<w4.heap.size) w4 C2 k2 L2∧L2.map Itm.z=aX y' l):=⟨hb4,h2,h1⟩;clear h1 h2 h4;have p0:=(h3.out.1.below hb4).c4;have z0:=(h3.out.1.below hb4).vo.fz (o+4);clear hb4)
 clear p0 z0 c4 hS0 hi1
 obtain ⟨w5,hw5⟩:∃W,w4.setCell ⟨V,o+3+1,none⟩ (.slice C2 L2.length k2)=W:=⟨_,rfl⟩
 rw[hw5]
 have h5:Hid (Vm w5 V o (ae P w.heap.size w5.heap.size) q' QA cq a A ca b B cb L C k' L2 C2 k2 e0∧L2.map Itm.z=aX y' l∧Wr V o (o+6) w w5∧V<w.heap.size):=by
  have hb4:=hHH.out.1
  have hs5:w5.heap.size=w4.heap.size:=by rw[←hw5];simp
  have hsz:=h3.out.2.2.1.size
  have hlt:=hlt0.out
  have hPV:¬ae P w.heap.size w4.heap.size V:=fun k=>k.elim hP.out.1 fun k=>by omega
  refine ⟨?_,hHH.out.2.2,?_,hlt⟩
  ·rw[hs5,←hw5]
   exact ((h3.out.1.below hb4).mono (ae.more (nR _) hb4.size)).set4 hPV (hHH.out.2.1.mono fun b hb=>ae.new (m:=w.heap.size) (n:=w4.heap.size) hsz (nR _) b hb)
  ·rw[←hw5]
   exact h3.out.2.2.1.trans ((Wr.of hb4 (by omega)).trans (Wr.set _ _ (by omega) (by omega)))
 have h3z:Hid (L.map Itm.z=aX z' k):=h3.out.2.1
 clear hw5 hHH h3
 go_wp2
 rw[rounds_succ]
 have c3:=h5.out.1.c3
 have c4:=h5.out.1.c4
 have hF:Hid (il q' (a.map Itm.z) (b.map Itm.z) (L.map Itm.z) (L2.map Itm.z)=cH q z' y'):=by
  show _=_
  rw[h3z.out,h5.out.2.1,hE.out.2.1,hE.out.2.2.1,qe hT.out.1 hT.out.2.1 hT.out.2.2.2.2.1 hT.out.2.2.2.2.2]
  exact s9 hE.out.1 _ _
 by_cases h0:cH q z' y'=0
 ·have hFd:Hid (∀W,Gr w5 W→Calls Tryz.prog 113 #[.pointer (some ⟨V,o,none⟩),.slice C L.length k',.slice C2 L2.length k2] W fun e w'=>∃(n:Nat) (C:Option Addr) (k:Nat) (a':List Itm) (A':Option Addr) (ca':Nat) (b':List Itm) (B':Option Addr) (cb':Nat),e= .returned (.tuple #[.slice C n k,.int .i64 0])∧a'.map Itm.z=aN (a.map Itm.z) (L.map Itm.z)∧b'.map Itm.z=aN (b.map Itm.z) (L2.map Itm.z)∧Vo w' V o (ae (ae P w.heap.size w5.heap.size) W.heap.size w'.heap.size) q' QA cq a' A' ca' b' B' cb'∧Wr V (o+1) (o+3) W w'):=fun W hg=>vS W V o (ae P w.heap.size w5.heap.size) q' QA cq a A ca b B cb (h5.out.1.vo.gr hg) (fun k=>k.elim hP.out.1 fun k=>by have:=h5.out.2.2.2;omega) L L2 C C2 k' k2 (h5.out.1.lx.lv.gr hg) (h5.out.1.ly.lv.gr hg) (by rw[hF.out];exact h0)
  have h0H:Hid (cH q z' y'=0):=h0
  clear h0
  go_wp2
  go_region_with (go_at_call 113;refine cM (hFd.out _ (gR w5).drew) ?_;rintro e w6 ⟨r1,r2,r3,a',A',ca',b',B',cb',rfl,f1,f2,f3,f4⟩;have hHH:Hid (a'.map Itm.z=aN (a.map Itm.z) (L.map Itm.z)∧b'.map Itm.z=aN (b.map Itm.z) (L2.map Itm.z)∧Vm w6 V o (ae P w.heap.size w6.heap.size) q' QA cq a' A' ca' b' B' cb' L C k' L2 C2 k2 e0∧Wr V o (o+6) w w6):=ue hBH.out h5.out.1 h5.out.2.2.1 h5.out.2.2.2 hP.out.1 f1 f2 f3 f4;clear f1 f2 f3 f4;have p0:=hHH.out.2.2.1.c5;have z0:=hHH.out.2.2.1.vo.fz (o+5))
  all_goals
   clear p0 z0 hFd c3 c4
   obtain ⟨w7,hw7⟩:∃W,w6.setCell ⟨V,o+5,none⟩ (.int .i64 0)=W:=⟨_,rfl⟩
   rw[hw7]
   have h7:Hid (Vm w7 V o (ae P w.heap.size w7.heap.size) q' QA cq a' A' ca' b' B' cb' L C k' L2 C2 k2 0∧Wr V o (o+6) w w7):=by
    have hs7:w7.heap.size=w6.heap.size:=by rw[←hw7];simp
    have hlt:=h5.out.2.2.2
    refine ⟨?_,?_⟩
    ·rw[hs7,←hw7]
     exact hHH.out.2.2.1.set5 (fun k=>k.elim hP.out.1 fun k=>by omega) 0
    ·rw[←hw7]
     exact hHH.out.2.2.2.trans (Wr.set _ _ (by omega) (by omega))
   clear hw7
   have c5:=h7.out.1.c5
   have c3:=h7.out.1.c3
   have c4:=h7.out.1.c4
   have z3:=h7.out.1.vo.fz (o+3)
   have z4:=h7.out.1.vo.fz (o+4)
   go_wp2
   clear c5 c3 c4 z3 z4
   go_end0
   have hlt:=h5.out.2.2.2
   have hPV:¬ae P w.heap.size w7.heap.size V:=fun k=>k.elim hP.out.1 fun k=>by omega
   have h8:=(h7.out.1.set3 hPV (LvP.none _ _)).set4 hPV (LvP.none _ _)
   have ez:a'.map Itm.z=z':=by rw[hHH.out.1,hE.out.2.1,h3z.out];exact (fu hT.out.1 hT.out.2.2.2.2.1).2
   have ey:b'.map Itm.z=y':=by rw[hHH.out.2.1,hE.out.2.2.1,h5.out.2.1];exact (fu hT.out.2.1 hT.out.2.2.2.2.2).2
   refine ⟨rfl,⟨z',y',⟨q',QA,cq,a',A',ca',b',B',cb',[],none,0,[],none,0,?_,hE.out.1,ez,ey,by rw[ov];rfl,by rw[ov];rfl⟩,hT.out.2.2.2.2.1,hT.out.2.2.2.2.2,fun _=>⟨rfl,rfl⟩⟩,h7.out.2.trans ((Wr.set _ _ (by omega) (by omega)).trans (Wr.set _ _ (by omega) (by omega)))⟩
   rw[h0H.out]
   simpa using h8
 ·have hFd:Hid (∀W,Gr w5 W→Calls Tryz.prog 113 #[.pointer (some ⟨V,o,none⟩),.slice C L.length k',.slice C2 L2.length k2] W fun e w'=>∃E,e= .returned (.tuple #[.slice none 0 0,.int .i64 E])∧E=cH q z' y'∧Below W.heap.size W w'):=fun W hg=>by
   have:=vx W V o (ae P w.heap.size w5.heap.size) q' QA cq a A ca b B cb (h5.out.1.vo.gr hg) L L2 C C2 k' k2 (h5.out.1.lx.lv.gr hg) (h5.out.1.ly.lv.gr hg) (by rw[hF.out];exact h0)
   rwa [hF.out] at this
  have h0H:Hid (¬cH q z' y'=0):=h0
  clear h0
  go_wp2
  go_region_with (go_at_call 113;refine cM (hFd.out _ (gR w5).drew) ?_;rintro e w6 ⟨E,rfl,hEE,f3⟩;have hHH:Hid (E=cH q z' y'∧Below w5.heap.size w5 w6):=⟨hEE,(gR w5).drew.below.trans f3⟩;clear hEE f3;have p0:=(h5.out.1.below hHH.out.2).c5;have z0:=(h5.out.1.below hHH.out.2).vo.fz (o+5))
  all_goals
   clear p0 z0 hFd c3 c4
   have hEn:(E==0)=false:=by
    have:=h0H.out
    rw[←hHH.out.1] at this
    simpa using this
   obtain ⟨w7,hw7⟩:∃W,w6.setCell ⟨V,o+5,none⟩ (.int .i64 E)=W:=⟨_,rfl⟩
   rw[hw7]
   have h7:Hid (Vm w7 V o (ae P w.heap.size w7.heap.size) q' QA cq a A ca b B cb L C k' L2 C2 k2 E∧Wr V o (o+6) w w7):=by
    have hs7:w7.heap.size=w6.heap.size:=by rw[←hw7];simp
    have hlt:=h5.out.2.2.2
    have hsz:=h5.out.2.2.1.size
    refine ⟨?_,?_⟩
    ·rw[hs7,←hw7]
     exact ((h5.out.1.below hHH.out.2).mono (ae.more (nR _) hHH.out.2.size)).set5 (fun k=>k.elim hP.out.1 fun k=>by omega) E
    ·rw[←hw7]
     exact h5.out.2.2.1.trans ((Wr.of hHH.out.2 (by omega)).trans (Wr.set _ _ (by omega) (by omega)))
   clear hw7
   have c5:=h7.out.1.c5
   go_wp2
   clear c5
   go_end0
   refine ⟨rfl,⟨k,l,⟨q',QA,cq,a,A,ca,b,B,cb,L,C,k',L2,C2,k2,?_,hE.out.1,hE.out.2.1,hE.out.2.2.1,h3z.out,h5.out.2.1⟩,hT.out.1,hT.out.2.1,fun h=>absurd h h0H.out⟩,h7.out.2⟩
   rw[←hHH.out.1]
   exact h7.out.1

theorem j7 (x y:Int×Int):bq x y=true↔x.1<y.1∨(x.1=y.1∧x.2<y.2):=by simp[bq]
theorem fN {x y z:Int×Int} (h:bq x y=true) (k:bq y z=true):bq x z=true:=by rw[j7] at *;omega
theorem ol (x:Int×Int):bq x x=false:=by simp[bq]
theorem gP {x y:Int×Int} (h:bq x y=true):x≠y:=by rintro rfl;rw[ol] at h;cases h
theorem mI (x y:Int×Int):dO x y=0↔x=y:=by
 obtain ⟨a,b⟩:=x
 obtain ⟨c,d⟩:=y
 unfold dO bg
 simp only[Prod.mk.injEq]
 constructor
 ·intro h
  by_cases h1:a<c
  ·simp[h1] at h
  ·by_cases h2:c<a
   ·simp[h1,h2] at h
   ·by_cases h3:b<d
    ·simp[h1,h2,h3] at h
    ·by_cases h4:d<b
     ·simp[h1,h2,h3,h4] at h
     ·omega
 ·rintro ⟨rfl,rfl⟩;simp
theorem CelAt.G {w:World} {B:Nat} {x:Cel} (h:CelAt w B x):(∀n os,(grow (w.drewN n) os).cell? ⟨B,0,none⟩=some (.int .i64 x.1.1))∧(∀n os,(grow (w.drewN n) os).cell? ⟨B,1,none⟩=some (.int .i64 x.1.2))∧(∀n os,(grow (w.drewN n) os).cell? ⟨B,2,none⟩=some (.int .i64 x.2.1))∧(∀n os,(grow (w.drewN n) os).cell? ⟨B,3,none⟩=some (.int .i64 x.2.2.1))∧(∀n os,(grow (w.drewN n) os).cell? ⟨B,4,none⟩=some (.int .i64 x.2.2.2)) :=
 ⟨cell_grown (a:=⟨B,0,none⟩) h.lt h.k0,cell_grown (a:=⟨B,1,none⟩) h.lt h.k1,cell_grown (a:=⟨B,2,none⟩) h.lt h.k2,cell_grown (a:=⟨B,3,none⟩) h.lt h.k3,cell_grown (a:=⟨B,4,none⟩) h.lt h.k4⟩

def Asc (l:List Cel):Prop:=l.Pairwise fun x y=>bq x.1 y.1=true
def gl (l:List Cel) (d:Int×Int):Bool:=l.any fun y=>decide (y.1=d)

theorem uB {l:List Cel} {d:Int×Int} {a:Nat} (hs:Asc l) (h1:∀k (h:k<l.length),k<a→bq l[k].1 d=true) (h2:∀k (h:k<l.length),a≤k→bq l[k].1 d=false) :
  gl l d=decide (∃h:a<l.length,l[a].1=d):=by
 by_cases hm:∃h:a<l.length,l[a].1=d
 ·rw[decide_eq_true hm]
  obtain ⟨h,e⟩:=hm
  unfold gl
  rw[List.any_eq_true]
  exact ⟨l[a],gM h,by simpa using e⟩
 ·rw[decide_eq_false hm]
  unfold gl
  rw[List.any_eq_false]
  intro y hy he
  have he':y.1=d:=by simpa using he
  obtain ⟨k,hk,rfl⟩:=List.getElem_of_mem hy
  by_cases hka:k<a
  ·exact gP (h1 k hk hka) he'
  ·by_cases e:k=a
   ·subst e;exact hm ⟨hk,he'⟩
   ·have h3:=(List.pairwise_iff_getElem.1 hs) a k (by omega) hk (by omega)
    rw[he',h2 a (by omega) (Nat.le_refl _)] at h3
    cases h3

theorem ke (l:List Cel) (A:Option Addr) (cap:Nat) (x:Cel) (w:World) (hl:l.length≤400) (hr:bj w A l) (hs:Asc l) :
  Calls Tryz.prog 161 #[.slice A l.length cap,.agg #[.int .i64 x.1.1,.int .i64 x.1.2,.int .i64 x.2.1,.int .i64 x.2.2.1,.int .i64 x.2.2.2],.func (.func 68) #[] #[]] w fun e w'=>∃i:Nat,e= .returned (.tuple #[.int .i64 i,.bool (gl l x.1)])∧(gl l x.1=true→∃h:i<l.length,l[i].1=x.1)∧Gr w w':=by
 have mixed:Tryz.prog.follows .mixedOrders=true:=by kernel_rfl
 have hx0:CelAt (w.alloc (.cells #[.int .i64 x.1.1,.int .i64 x.1.2,.int .i64 x.2.1,.int .i64 x.2.2.1,.int .i64 x.2.2.2] 97)) w.heap.size x:=CelAt.new x 97 rfl
 have hg0:Gr w (w.alloc (.cells #[.int .i64 x.1.1,.int .i64 x.1.2,.int .i64 x.2.1,.int .i64 x.2.2.1,.int .i64 x.2.2.2] 97)):=(gR w).alloc _
 have hsH:Hid (Asc l):=hs
 clear hs
 go_enter Tryz.func161,Tryz.ntmps161
 go_wp2
 generalize w.alloc (.cells #[.int .i64 x.1.1,.int .i64 x.1.2,.int .i64 x.2.1,.int .i64 x.2.2.1,.int .i64 x.2.2.2] 97)=w0 at hx0 hg0 ⊢
 go_loopw [9,10] (fun i j wr=>∃a b:Nat,a≤b∧b≤l.length∧i= .int .i64 a∧j= .int .i64 b∧Hid ((∀k (h:k<l.length),k<a→bq l[k].1 x.1=true)∧(∀k (h:k<l.length),b≤k→bq l[k].1 x.1=false))∧Gr w0 wr) (fun i j _=>(intOf j).toNat-(intOf i).toNat)
 case atStart=>exact ⟨0,l.length,by omega,by omega,rfl,rfl,⟨fun k _ h=>absurd h (Nat.not_lt_zero _),fun k h1 h2=>by omega⟩,gR _⟩
 case round =>
  obtain ⟨a,b,hab,hbl,rfl,rfl,hinv,hgr⟩:=hrel
  have hxR:=hx0.gr hgr
  obtain ⟨x0,x1,x2,x3,x4⟩:=hxR.G
  by_cases hlt:a<b
  ·have hltz:(a:Int)<(b:Int):=by omega
   obtain ⟨h,hh⟩:∃h,(a+b) / 2=h:=⟨_,rfl⟩
   have hha:a≤h:=by omega
   have hhb:h<b:=by omega
   have hhl:h<l.length:=by omega
   obtain ⟨bb,off,rfl,hb,hcs⟩:=bj.get (hr.gr (hg0.trans hgr)) hhl
   obtain ⟨y,hy⟩:∃y,l[h]=y:=⟨_,rfl⟩
   obtain ⟨e0,e1,e2,e3,e4⟩:=hcs h hhl
   rw[hy] at e0 e1 e2 e3 e4
   have q0:=cell_grown (a:=⟨bb,off+h*5,none⟩) hb e0
   have q1:=cell_grown (a:=⟨bb,off+h*5+1,none⟩) hb e1
   have q2:=cell_grown (a:=⟨bb,off+h*5+2,none⟩) hb e2
   have q3:=cell_grown (a:=⟨bb,off+h*5+3,none⟩) hb e3
   have q4:=cell_grown (a:=⟨bb,off+h*5+4,none⟩) hb e4
   clear e0 e1 e2 e3 e4
   have hyH:Hid (l[h]=y):=hy
   clear hcs hy
   have hz:((a:Int)+(b:Int)) / 2=(h:Int):=by omega
   have hhz:(h:Int)<(l.length:Int):=by omega
   have hhH:Hid ((a+b) / 2=h):=hh
   clear hh
   cases hbe:bq y.1 x.1
   ·have hge:=gI hbe
    have hgez:(decide (dO y.1 x.1<0))=false:=decide_eq_false (by omega)
    go_wp2
    refine wp_region_quiet_grown mixed (by kernel_rfl) ?_
    repeat (go_big_quiet_step ((go_at_call 68;refine Calls.grown_of (fs rfl _))))
    refine wpQuiet_nil ?_
    rintro _ ⟨⟨nq2,osq2⟩,rfl⟩
    go_wp2
    go_roundw
    case rel =>
     refine ⟨a,h,hha,by omega,rfl,rfl,⟨hinv.out.1,fun k hk hhk=> ?_⟩,hgr.trans ⟨nq2,osq2,rfl⟩⟩
     by_cases e:k=h
     ·subst e;rw[hyH.out];exact hbe
     ·have:=(List.pairwise_iff_getElem.1 hsH.out) h k hhl hk (by omega)
      rw[hyH.out] at this
      cases hk2:bq l[k].1 x.1
      ·rfl
      ·rw[fN this hk2] at hbe;cases hbe
    case measure=>simp[intOf];omega
   ·have hge:=gK hbe
    go_wp2
    refine wp_region_quiet_grown mixed (by kernel_rfl) ?_
    repeat (go_big_quiet_step ((go_at_call 68;refine Calls.grown_of (fs hge _))))
    refine wpQuiet_nil ?_
    rintro _ ⟨⟨nq2,osq2⟩,rfl⟩
    go_wp2
    go_roundw
    case rel =>
     refine ⟨h+1,b,by omega,hbl,by go_num,rfl,⟨fun k hk hkh=> ?_,hinv.out.2⟩,hgr.trans ⟨nq2,osq2,rfl⟩⟩
     by_cases e:k=h
     ·subst e;rw[hyH.out];exact hbe
     ·have:=(List.pairwise_iff_getElem.1 hsH.out) k h hk hhl (by omega)
      rw[hyH.out] at this
      exact fN this hbe
    case measure=>simp[intOf];omega
  ·have hltz:¬(a:Int)<(b:Int):=by omega
   obtain rfl:a=b:=by omega
   have hme:=uB hsH.out hinv.out.1 hinv.out.2
   have hwR:Gr w wr:=hg0.trans hgr
   clear hlt
   by_cases hal:a<l.length
   ·have halz:(a:Int)<(l.length:Int):=by omega
    obtain ⟨bb,off,rfl,hb,hcs⟩:=bj.get (hr.gr hwR) hal
    obtain ⟨y,hy⟩:∃y,l[a]=y:=⟨_,rfl⟩
    obtain ⟨e0,e1,e2,e3,e4⟩:=hcs a hal
    rw[hy] at e0 e1 e2 e3 e4
    have q0:=cell_grown (a:=⟨bb,off+a*5,none⟩) hb e0
    have q1:=cell_grown (a:=⟨bb,off+a*5+1,none⟩) hb e1
    have q2:=cell_grown (a:=⟨bb,off+a*5+2,none⟩) hb e2
    have q3:=cell_grown (a:=⟨bb,off+a*5+3,none⟩) hb e3
    have q4:=cell_grown (a:=⟨bb,off+a*5+4,none⟩) hb e4
    clear e0 e1 e2 e3 e4
    have hyH:Hid (l[a]=y):=hy
    clear hcs
    by_cases hq:y.1=x.1
    ·have hoz:=(mI y.1 x.1).2 hq
     have hfin:Hid (gl l x.1=true∧∃h:a<l.length,l[a].1=x.1):=by
      have hex:∃h:a<l.length,l[a].1=x.1:=⟨hal,by rw[hy];exact hq⟩
      exact ⟨by rw[hme];exact decide_eq_true hex,hex⟩
     clear hme hq hy
     go_wp2
     refine wp_region_quiet_grown mixed (by kernel_rfl) ?_
     repeat (go_big_quiet_step ((go_at_call 68;refine Calls.grown_of (fs hoz _))))
     refine wpQuiet_nil ?_
     rintro _ ⟨⟨nq2,osq2⟩,rfl⟩
     go_wp2
     go_ret2
     rw[hfin.out.1]
     exact ⟨a,rfl,fun _=>hfin.out.2,hwR.trans ⟨nq2,osq2,rfl⟩⟩
    ·have hoz:(dO y.1 x.1==0)=false:=beq_eq_false_iff_ne.2 (fun h=>hq ((mI y.1 x.1).1 h))
     have hfin:Hid (gl l x.1=false):=by
      show gl l x.1=false
      rw[hme]
      refine decide_eq_false ?_
      rintro ⟨_,h⟩
      rw[hy] at h
      exact hq h
     clear hme hq hy
     go_wp2
     refine wp_region_quiet_grown mixed (by kernel_rfl) ?_
     repeat (go_big_quiet_step ((go_at_call 68;refine Calls.grown_of (fs rfl _))))
     refine wpQuiet_nil ?_
     rintro _ ⟨⟨nq2,osq2⟩,rfl⟩
     go_wp2
     go_ret2
     rw[hfin.out]
     exact ⟨a,rfl,(fun h=>by cases h),hwR.trans ⟨nq2,osq2,rfl⟩⟩
   ·have halz:¬(a:Int)<(l.length:Int):=by omega
    have hfin:Hid (gl l x.1=false):=by
     show gl l x.1=false
     rw[hme]
     refine decide_eq_false ?_
     rintro ⟨h,_⟩
     exact hal h
    clear hme
    go_wp2
    refine wp_region_quiet_grown mixed (by kernel_rfl) ?_
    repeat (go_big_quiet_step (fail))
    refine wpQuiet_nil ?_
    rintro _ ⟨⟨nq2,osq2⟩,rfl⟩
    go_wp2
    go_ret2
    rw[hfin.out]
    exact ⟨a,rfl,(fun h=>by cases h),hwR.trans ⟨nq2,osq2,rfl⟩⟩


theorem Tryz.info3:(Tryz.prog.info? 3).map (fun i=>(i.zero,i.size,i.bytes))=some (some (.int .i64 0),1,8):=by kernel_rfl

def pE (a b c d a' b' c' d':Int):Bool:=decide ((a,b,c,d)=(a',b',c',d'))

theorem zm (a b c d a' b' c' d':Int) (w:World):(binOp .eql 35 (.agg #[.int .i64 a,.int .i64 b,.int .i64 c,.int .i64 d]) (.agg #[.int .i64 a',.int .i64 b',.int .i64 c',.int .i64 d'])).run Tryz.prog w= .ok (.bool (pE a b c d a' b' c' d')) w:=by
 unfold pE
 obtain ⟨i0,hi,hz0,hz1,hz2⟩:=info_parts Tryz.info3
 have u3:=Tryz.underlying3
 have a3:=Tryz.isAgg3
 have z3:=Tryz.sizeOf3
 have c3:Tryz.prog.cellsOf 3=1:=by kernel_rfl
 rw[run_eql_struct,show (10000:Nat)=9998+1+1 from rfl,run_equalIn_array w (9998+1) _ _ Tryz.underlying35 hi,c3]
 simp only[show List.range 4=[0,1,2,3] from rfl,Op.eqItems]
 go_simp
 by_cases h1:a=a'<;>by_cases h2:b=b'<;>by_cases h3:c=c'<;>by_cases h4:d=d'<;>simp[h1,h2,h3,h4]

theorem uh (op:BinOp) (p q:Operand) (a b c d a' b' c' d':Int) (w:World):(eqGuard op 35 p q (.agg #[.int .i64 a,.int .i64 b,.int .i64 c,.int .i64 d]) (.agg #[.int .i64 a',.int .i64 b',.int .i64 c',.int .i64 d'])).run Tryz.prog w= .ok () w :=
 run_eqGuard_agg w op 35 p q _ _ (by kernel_rfl)

def io (c d:Ctx):Bool:=pE c.c0 c.c1 c.c2 c.c3 d.c0 d.c1 d.c2 d.c3 && eqL c.l d.l

theorem tH (c d:Ctx) (A B:Option Addr) (cap dap:Nat) (w:World) (hl:c.l.length≤maxLen) (hm:d.l.length≤maxLen) (hr:Row w A c.l) (hs:Row w B d.l) :
  Calls Tryz.prog 35 #[.agg #[.int .i64 c.c0,.int .i64 c.c1,.int .i64 c.c2,.int .i64 c.c3,.slice A c.l.length cap],.agg #[.int .i64 d.c0,.int .i64 d.c1,.int .i64 d.c2,.int .i64 d.c3,.slice B d.l.length dap]] w fun e w'=>e= .returned (.bool (io c d))∧Gr w w':=by
 have hE:=zm
 have hG:=uh
 cases hq:pE c.c0 c.c1 c.c2 c.c3 d.c0 d.c1 d.c2 d.c3
 ·have hfin:Hid (io c d=false):=by
   show io c d=false
   unfold io;rw[hq];rfl
  go_enter Tryz.func35,Tryz.ntmps35
  go_wp2
  go_ret
  rw[hfin.out]
  exact ⟨rfl,((gR _).alloc _).alloc _⟩
 ·have hfin:Hid (io c d=eqL c.l d.l):=by
   show io c d=_
   unfold io;rw[hq];rfl
  go_enter Tryz.func35,Tryz.ntmps35
  go_wp2_with fail
  refine (sx c.l d.l A B cap dap _ hl hm (hr.gr (((gR _).alloc _).alloc _)) (hs.gr (((gR _).alloc _).alloc _))).mono ?_
  rintro e w' ⟨rfl,hg⟩
  go_wp2
  go_ret
  rw[hfin.out]
  exact ⟨rfl,bQ (bQ hg)⟩


def gq (x y:Cel):Bool:=decide (x=y)
theorem gN {x y:Cel}:gq x y=true↔x=y:=by simp[gq]

theorem wn (a b c d:Int) (w:World):(Op.equalIn 9999 95 (.agg #[.int .i64 a,.int .i64 b]) (.agg #[.int .i64 c,.int .i64 d])).run Tryz.prog w= .ok (a==c && b==d) w:=by
 have u3:=Tryz.underlying3
 have a3:=Tryz.isAgg3
 have z3:=Tryz.sizeOf3
 have hS:Tryz.prog.underlying 95=some (.struct (Tryz.prog.fieldsOf 95)):=by kernel_rfl
 have hp:Tryz.prog.stoodInHeld 95=false:=by kernel_rfl
 rw[show (9999:Nat)=9998+1 from rfl,run_equalIn_agg w 9998 95 _ _ hS hp]
 simp only[Program.fieldsOf,Tryz.underlying95]
 go_simp
 by_cases h1:a=c<;>by_cases h2:b=d<;>simp[h1,h2]

theorem vZ (x y:Cel) (w:World):(Op.equalIn 10000 97 (.agg #[.int .i64 x.1.1,.int .i64 x.1.2,.int .i64 x.2.1,.int .i64 x.2.2.1,.int .i64 x.2.2.2]) (.agg #[.int .i64 y.1.1,.int .i64 y.1.2,.int .i64 y.2.1,.int .i64 y.2.2.1,.int .i64 y.2.2.2])).run Tryz.prog w= .ok (gq x y) w:=by
 obtain ⟨⟨a0,a1⟩,a2,a3,a4⟩:=x
 obtain ⟨⟨b0,b1⟩,b2,b3,b4⟩:=y
 have u3:=Tryz.underlying3
 have g3:=Tryz.isAgg3
 have z3:=Tryz.sizeOf3
 have c2:Tryz.prog.cellsOf 95=2:=by kernel_rfl
 have c1:Tryz.prog.cellsOf 3=1:=by kernel_rfl
 have gD:=Tryz.isAgg95
 have zD:=Tryz.sizeOf95
 have hd:=wn
 have hS:Tryz.prog.underlying 97=some (.struct (Tryz.prog.fieldsOf 97)):=by kernel_rfl
 have hp:Tryz.prog.stoodInHeld 97=false:=by kernel_rfl
 rw[show (10000:Nat)=9999+1 from rfl,run_equalIn_agg w 9999 97 _ _ hS hp]
 simp only[Program.fieldsOf,Tryz.underlying97]
 clear hS hp
 go_simp
 by_cases h0:a0=b0<;>by_cases h1:a1=b1<;>by_cases h2:a2=b2<;>by_cases h3:a3=b3<;>by_cases h4:a4=b4<;>simp[gq,h0,h1,h2,h3,h4]

theorem uX (x y:Cel) (w:World):(binOp .neq 97 (.agg #[.int .i64 x.1.1,.int .i64 x.1.2,.int .i64 x.2.1,.int .i64 x.2.2.1,.int .i64 x.2.2.2]) (.agg #[.int .i64 y.1.1,.int .i64 y.1.2,.int .i64 y.2.1,.int .i64 y.2.2.1,.int .i64 y.2.2.2])).run Tryz.prog w= .ok (.bool (!gq x y)) w:=by
 rw[run_neq_struct,vZ];rfl
theorem oo (op:BinOp) (p q:Operand) (x y:Cel) (w:World):(eqGuard op 97 p q (.agg #[.int .i64 x.1.1,.int .i64 x.1.2,.int .i64 x.2.1,.int .i64 x.2.2.1,.int .i64 x.2.2.2]) (.agg #[.int .i64 y.1.1,.int .i64 y.1.2,.int .i64 y.2.1,.int .i64 y.2.2.1,.int .i64 y.2.2.2])).run Tryz.prog w= .ok () w :=
 run_eqGuard_agg w op 97 p q _ _ (by kernel_rfl)

def jG (l m:List Cel):Bool:=decide (l=m)

theorem pK (l m:List Cel) (A B:Option Addr) (cap dap:Nat) (w:World) (hl:l.length≤maxLen) (hm:m.length≤maxLen) (hr:bj w A l) (hs:bj w B m) :
  Calls Tryz.prog 36 #[.slice A l.length cap,.slice B m.length dap] w fun e w'=>e= .returned (.bool (jG l m))∧Gr w w':=by
 unfold maxLen at hl hm
 have hE:=uX
 have hG:=oo
 by_cases hlen:l.length=m.length
 ·have hlz:((l.length:Int) != (m.length:Int))=false:=by rw[hlen];simp
  have hlH:Hid (l.length=m.length):=hlen
  clear hlen
  go_enter Tryz.func36,Tryz.ntmps36
  go_wp2
  go_loopw [13] (fun i wr=>∃k:Nat,k≤l.length∧i= .int .i64 k∧Hid (∀j (h:j<l.length) (h':j<m.length),j<k→l[j]=m[j])∧Gr w wr) (fun i _=>l.length-(intOf i).toNat)
  case atStart=>exact ⟨0,nZ _,rfl,fun j _ _ hj=>absurd hj (Nat.not_lt_zero _),gR _⟩
  case round =>
   obtain ⟨k,hk,rfl,hno,hgr⟩:=hrel
   by_cases hlt:k<l.length
   ·have hltz:(k:Int)<(l.length:Int):=by omega
    have hlt2:k<m.length:=by have:=hlH.out;omega
    have hltz2:(k:Int)<(m.length:Int):=by omega
    obtain ⟨bb,off,rfl,hb,hcs⟩:=bj.get (hr.gr hgr) hlt
    obtain ⟨bb2,off2,rfl,hb2,hcs2⟩:=bj.get (hs.gr hgr) hlt2
    obtain ⟨e0,e1,e2,e3,e4⟩:=hcs k hlt
    obtain ⟨f0,f1,f2,f3,f4⟩:=hcs2 k hlt2
    obtain ⟨x,hx⟩:∃x,l[k]=x:=⟨_,rfl⟩
    obtain ⟨y,hy⟩:∃y,m[k]=y:=⟨_,rfl⟩
    rw[hx] at e0 e1 e2 e3 e4
    rw[hy] at f0 f1 f2 f3 f4
    have hxH:Hid (l[k]=x):=hx
    have hyH:Hid (m[k]=y):=hy
    clear hcs hcs2 hx hy
    cases hq:gq x y
    ·have hfin:Hid (jG l m=false):=by
      show jG l m=false
      simp only[jG,decide_eq_false_iff_not]
      intro h
      subst h
      have:x=y:=hxH.out.symm.trans hyH.out
      rw[gN.2 this] at hq
      cases hq
     go_wp2
     go_quiet (fail)
     go_wp2
     go_ret
     rw[hfin.out]
     exact ⟨rfl,hgr.trans ⟨nq,#[],by rw[grow_empty]⟩⟩
    ·have hne:Hid (l[k]=m[k]):=hxH.out.trans ((gN.1 hq).trans hyH.out.symm)
     go_wp2
     go_quiet (fail)
     go_wp2
     go_roundw
     case rel =>
      refine ⟨k+1,by omega,by go_num,?_,hgr.trans ⟨nq,#[],by rw[grow_empty]⟩⟩
      intro j hj hj' hjk
      by_cases e:j=k
      ·subst e;exact hne
      ·exact hno j hj hj' (by omega)
     case measure=>simp[intOf];omega
   ·have hltz:¬(k:Int)<(l.length:Int):=by omega
    have hfin:Hid (jG l m=true):=by
     show jG l m=true
     simp only[jG,decide_eq_true_eq]
     exact List.ext_getElem hlH.out fun j h1 h2=>hno j h1 h2 (by omega)
    go_wp2
    go_ret
    rw[hfin.out]
    exact ⟨rfl,hgr⟩
 ·have hlz:((l.length:Int) != (m.length:Int))=true:=by simp;omega
  have hfin:Hid (jG l m=false):=by
   show jG l m=false
   simp only[jG,decide_eq_false_iff_not]
   intro h
   exact hlen (by rw[h])
  clear hlen
  go_enter Tryz.func36,Tryz.ntmps36
  go_wp2
  go_ret
  rw[hfin.out]
  exact ⟨rfl,gR _⟩

def eQ (s t:Tab):Bool:=io s.c t.c && jG s.e t.e

theorem mr (s t:Tab) (A B C D:Option Addr) (ca cb cc cd:Nat) (w:World) (hsl:s.c.l.length≤maxLen) (htl:t.c.l.length≤maxLen) (hse:s.e.length≤maxLen) (hte:t.e.length≤maxLen) (hr:Row w A s.c.l) (hs:Row w C t.c.l) (hre:bj w B s.e) (hte':bj w D t.e) :
  Calls Tryz.prog 15 #[.agg (T6 s A ca B cb).toArray,.agg (T6 t C cc D cd).toArray] w fun e w'=>e= .returned (.bool (eQ s t))∧Gr w w':=by
 have hgX:Gr w ((w.alloc (.cells #[.int .i64 s.c.c0,.int .i64 s.c.c1,.int .i64 s.c.c2,.int .i64 s.c.c3,.slice A s.c.l.length ca,.slice B s.e.length cb] 41)).alloc (.cells #[.int .i64 t.c.c0,.int .i64 t.c.c1,.int .i64 t.c.c2,.int .i64 t.c.c3,.slice C t.c.l.length cc,.slice D t.e.length cd] 41)):=((gR _).alloc _).alloc _
 have hS0:TabAt ((w.alloc (.cells #[.int .i64 s.c.c0,.int .i64 s.c.c1,.int .i64 s.c.c2,.int .i64 s.c.c3,.slice A s.c.l.length ca,.slice B s.e.length cb] 41)).alloc (.cells #[.int .i64 t.c.c0,.int .i64 t.c.c1,.int .i64 t.c.c2,.int .i64 t.c.c3,.slice C t.c.l.length cc,.slice D t.e.length cd] 41)) w.heap.size s A ca B cb:=(TabAt.new 41 hr hre rfl).gr ((gR _).alloc _)
 have hT0:TabAt ((w.alloc (.cells #[.int .i64 s.c.c0,.int .i64 s.c.c1,.int .i64 s.c.c2,.int .i64 s.c.c3,.slice A s.c.l.length ca,.slice B s.e.length cb] 41)).alloc (.cells #[.int .i64 t.c.c0,.int .i64 t.c.c1,.int .i64 t.c.c2,.int .i64 t.c.c3,.slice C t.c.l.length cc,.slice D t.e.length cd] 41)) (w.heap.size+1) t C cc D cd:=TabAt.new 41 (hs.gr ((gR _).alloc _)) (hte'.gr ((gR _).alloc _)) (by simp)
 have hc:=tH s.c t.c A C ca cc _ hsl htl hS0.row hT0.row
 have hcH:Hid _:=hc
 clear hc
 go_enter Tryz.func15,Tryz.ntmps15
 go_wp2_with fail
 refine cM (show Calls _ _ _ _ _ from hcH.out) ?_
 rintro e w1 ⟨rfl,hg1⟩
 clear hcH
 have hS1:=hS0.gr hg1
 have hT1:=hT0.gr hg1
 have hgW:Gr w w1:=hgX.trans hg1
 clear hS0 hT0 hgX hg1
 cases hq:io s.c t.c
 ·have hfin:Hid (eQ s t=false):=by
   show eQ s t=false
   unfold eQ;rw[hq];rfl
  go_wp2
  go_ret
  rw[hfin.out]
  exact ⟨rfl,hgW⟩
 ·have hfin:Hid (eQ s t=jG s.e t.e):=by
   show eQ s t=_
   unfold eQ;rw[hq];rfl
  have s5:=hS1.k5
  have t5:=hT1.k5
  have he:=pK s.e t.e B D cb cd w1 hse hte hS1.rowC hT1.rowC
  have heH:Hid _:=he
  clear he
  go_wp2_with fail
  refine cM (show Calls _ _ _ _ _ from heH.out) ?_
  rintro e w2 ⟨rfl,hg2⟩
  go_wp2
  go_ret
  rw[hfin.out]
  exact ⟨rfl,hgW.trans hg2⟩

theorem lG (t:Tab):eQ t t=true:=by
 unfold eQ io pE eqL jG
 simp

def clP (l:List Cel) (x:Cel):Bool:=l.any fun y=>decide (y.1=x.1) && !gq y x

theorem uR {l:List Cel} (hs:Asc l) {i j:Nat} (hi:i<l.length) (hj:j<l.length) (h:l[i].1=l[j].1):i=j:=by
 rcases Nat.lt_trichotomy i j with h1|h1|h1
 ·have:=(List.pairwise_iff_getElem.1 hs) i j hi hj h1
  exact absurd h (gP this)
 ·exact h1
 ·have:=(List.pairwise_iff_getElem.1 hs) j i hj hi h1
  exact absurd h.symm (gP this)
theorem xA {l:List Cel} {x:Cel} (hs:Asc l) {i:Nat} (hi:i<l.length) (h:l[i].1=x.1):clP l x= !gq l[i] x:=by
 cases hq:gq l[i] x
 ·unfold clP
  show _=true
  rw[List.any_eq_true]
  exact ⟨l[i],gM hi,by rw[hq];simpa using h⟩
 ·unfold clP
  show _=false
  rw[List.any_eq_false]
  intro y hy
  obtain ⟨j,hj,rfl⟩:=List.getElem_of_mem hy
  by_cases hd:l[j].1=x.1
  ·obtain rfl:=uR hs hi hj (h.trans hd.symm)
   rw[hq];simp
  ·simp[hd]
theorem vK {l:List Cel} {x:Cel} (h:gl l x.1=false):clP l x=false:=by
 unfold gl at h
 rw[List.any_eq_false] at h
 unfold clP
 rw[List.any_eq_false]
 intro y hy
 have:=h y hy
 simp at this ⊢
 intro he
 exact absurd he this

theorem qu (l:List Cel) (B:Option Addr) (cb:Nat) (p:Nat) (x:Cel) (w:World) (hl:l.length≤400) (hp:p<w.heap.size) (kp:w.cell? ⟨p,0,none⟩=some (.slice B l.length cb)) (hr:bj w B l) (hs:Asc l) :
  Calls Tryz.prog 160 #[.agg #[.int .i64 x.1.1,.int .i64 x.1.2,.int .i64 x.2.1,.int .i64 x.2.2.1,.int .i64 x.2.2.2],.pointer (some ⟨p,0,none⟩)] w fun e w'=>e= .returned (.bool (clP l x))∧Gr w w':=by
 have mixed:Tryz.prog.follows .mixedOrders=true:=by kernel_rfl
 have hx0:CelAt (w.alloc (.cells #[.int .i64 x.1.1,.int .i64 x.1.2,.int .i64 x.2.1,.int .i64 x.2.2.1,.int .i64 x.2.2.2] 97)) w.heap.size x:=CelAt.new x 97 rfl
 have hg0:Gr w (w.alloc (.cells #[.int .i64 x.1.1,.int .i64 x.1.2,.int .i64 x.2.1,.int .i64 x.2.2.1,.int .i64 x.2.2.2] 97)):=(gR w).alloc _
 go_enter Tryz.func160,Tryz.ntmps160
 go_wp2_with fail
 refine (ke l B cb x _ hl (hr.gr hg0) hs).mono ?_
 rintro e w1 ⟨i,rfl,hf,hg1⟩
 have hgW:Gr w w1:=hg0.trans hg1
 have kp1:w1.cell? ⟨p,0,none⟩=some (.slice B l.length cb):=(hgW.cell (p:=⟨p,0,none⟩) hp).trans kp
 have hp1:p<w1.heap.size:=nL hp hgW.size
 have hx1:=hx0.gr hg1
 have hr1:=hr.gr hgW
 clear hx0 hg0 hg1 kp hr
 cases hm:gl l x.1
 ·have hfin:Hid (clP l x=false):=vK hm
  clear hf
  go_wp2
  refine wp_region_quiet_grown mixed (by kernel_rfl) ?_
  repeat (go_big_quiet_step (fail))
  refine wpQuiet_nil ?_
  rintro _ ⟨⟨nq2,osq2⟩,rfl⟩
  go_wp2
  go_ret
  rw[hfin.out]
  exact ⟨rfl,hgW.trans ⟨nq2,osq2,rfl⟩⟩
 ·obtain ⟨hi,hd⟩:=hf hm
  have hfin:Hid (clP l x= !gq l[i] x):=xA hs hi hd
  have hiz:(i:Int)<(l.length:Int):=by omega
  obtain ⟨bb,off,rfl,hb,hcs⟩:=bj.get hr1 hi
  obtain ⟨y,hy⟩:∃y,l[i]=y:=⟨_,rfl⟩
  obtain ⟨e0,e1,e2,e3,e4⟩:=hcs i hi
  rw[hy] at e0 e1 e2 e3 e4 hfin
  have q0:=cell_grown (a:=⟨bb,off+i*5,none⟩) hb e0
  have q1:=cell_grown (a:=⟨bb,off+i*5+1,none⟩) hb e1
  have q2:=cell_grown (a:=⟨bb,off+i*5+2,none⟩) hb e2
  have q3:=cell_grown (a:=⟨bb,off+i*5+3,none⟩) hb e3
  have q4:=cell_grown (a:=⟨bb,off+i*5+4,none⟩) hb e4
  have kG:=cell_grown (a:=⟨p,0,none⟩) hp1 kp1
  obtain ⟨x0,x1,x2,x3,x4⟩:=hx1.G
  have hE:=uX
  have hG:=oo
  clear e0 e1 e2 e3 e4 hcs hf hd hy hs
  go_wp2
  refine wp_region_quiet_grown mixed (by kernel_rfl) ?_
  repeat (go_big_quiet_step (fail))
  refine wpQuiet_nil ?_
  rintro _ ⟨⟨nq2,osq2⟩,rfl⟩
  go_wp2
  go_ret
  rw[hfin.out]
  exact ⟨rfl,hgW.trans ⟨nq2,osq2,rfl⟩⟩

theorem rX (a b:List Cel) (A B:Option Addr) (ca cb:Nat) (w:World) (hal:a.length≤400) (hbl:b.length≤400) (hra:bj w A a) (hrb:bj w B b) (hs:Asc b) :
  Calls Tryz.prog 106 #[.slice A a.length ca,.slice B b.length cb] w fun e w'=>e= .returned (.bool (a.any (clP b)))∧Gr w w':=by
 have hg0:Gr w (w.alloc (.cells #[.slice B b.length cb] 39)):=(gR w).alloc _
 have k0:(w.alloc (.cells #[.slice B b.length cb] 39)).cell? ⟨w.heap.size,0,none⟩=some (.slice B b.length cb):=aa (gR _) rfl
 have hlt0:w.heap.size<(w.alloc (.cells #[.slice B b.length cb] 39)).heap.size:=by simp
 have hpr:qY 160 #[.pointer (some ⟨w.heap.size,0,none⟩)] (clP b) (w.alloc (.cells #[.slice B b.length cb] 39)):=fun W hg x =>
  qu b B cb w.heap.size x W hbl (nL hlt0 hg.size) ((hg.cell (p:=⟨w.heap.size,0,none⟩) hlt0).trans k0) (hrb.gr (hg0.trans hg)) hs
 have hc:=fb (clP b) 160 #[.pointer (some ⟨w.heap.size,0,none⟩)] (enters_of Tryz.func160 (by kernel_rfl) rfl) a A ca _ (by unfold maxLen;omega) (hra.gr hg0) hpr
 have hcH:Hid _:=hc
 clear hc hpr
 go_enter Tryz.func106,Tryz.ntmps106
 go_wp2_with fail
 refine cM (show Calls _ _ _ _ _ from hcH.out) ?_
 rintro e w1 ⟨rfl,hg1⟩
 go_wp2
 go_ret
 exact ⟨rfl,hg0.trans hg1⟩

end Go.Proofs.YtckeonpnfankhaaGreatDoor
