/-
  (*Net).Table, (*Net).Packets.
  (*Net).tellAll, (*Net).Meet: each node tells each other one all that it has.
  A net that a law, or a desk, has made.
  viewtop.played, tables, same.
  viewtop.tables, same.
-/
import Derived.Test.YtkefkplnamkicaaGreatDoorM40
set_option maxRecDepth 100000
set_option maxHeartbeats 8000000
open Go.Ending renaming returned → H
open Go.IntKind renaming i64 → I
open Go.Obj renaming cells → K
open Go.Proofs.Tryz renaming prog → Z
open Go.Value renaming int → O, slice → J, pointer → Y, agg → X, tuple → R, bool → F, string → E
namespace Go.Proofs.YtkefkplnamkicaaGreatDoor
open Go.RowKit Go.Sort

theorem lg {w:World} {B:Nat} {P:Nat→Prop} {M:NetM} {Q:Nat→List (List Stp)} (h:NetP w B P M Q):Calls Z 12 #[Y (some ⟨B,0,none⟩)] w fun e w'=>e= H (O I (M.pk.length:Int))∧w'=w:=by
 obtain ⟨L,A,c,hp⟩:=h.pk
 have hc:=hp.cel
 rw[show M.pk.length=L.length by rw[←hp.eq,List.length_map]]
 clear h hp
 go_enter Tryz.func12,Tryz.ntmps12
 go_wp2
 go_ret
 exact ⟨rfl,rfl⟩
theorem AX (a b c d e f g h i j k l:Value) (w:World):(Instr.field 90 (X #[a,b,c,d,e,f,g,h,i,j,k,l]) 0).run Z w= .ok (X #[a,b,c,d,e,f,g,h,i,j,k,l]) w:=by kernel_rfl
def TbV (n:Nat) (w:World) (v:Value) (t:Tab):Prop:=∃(A:Option Addr) (ca:Nat) (C:Option Addr) (cc:Nat),v= X (T6 t A ca C cc).toArray∧TbW n w t A ca C cc
theorem lN {w:World} {B:Nat} {P:Nat→Prop} {M:NetM} {Q:Nat→List (List Stp)} (h:NetP w B P M Q) (i:Nat) (hi:i<4) :
  Calls Z 14 #[Y (some ⟨B,0,none⟩),O I i,O I 0] w fun e w'=>∃v,e= H (R #[v,O I 0])∧TbV w.heap.size w' v (M.s i)∧Below w.heap.size w w':=by
 obtain ⟨w1,hw1⟩:∃W,w.alloc (K #[O I 0,O I 0,O I 0,O I 0,J none 0 0,J none 0 0] 41)=W:=⟨_,rfl⟩
 have hg1:Gr w w1:=by rw[←hw1];exact (gR w).alloc _
 have hC1:Hid (Cls w1 w.heap.size Z6):=by show Cls _ _ _;rw[←hw1];exact Cls.new w _ _
 have hi4:(i:Int)<4:=by omega
 have hN:Hid (∀W,Calls Z 33 #[O I i] W fun e w'=>e= H (F true)∧w'=W):=cK i hi
 obtain ⟨S,hS⟩:∃S,M.s i=S:=⟨_,rfl⟩
 obtain ⟨T,hT⟩:∃T,M.t i=T:=⟨_,rfl⟩
 have hWh:Hid (Calls Z 34 #[Y (some ⟨B,i*38,none⟩)] w1 fun e w'=>∃(EA:Option Addr) (eca:Nat) (EC:Option Addr) (ecc:Nat) (EB:Option Addr) (ecb:Nat) (ED:Option Addr) (ecd:Nat),e= H (X (T2 S EA eca EC ecc T EB ecb ED ecd).toArray)∧TbW w1.heap.size w' S EA eca EC ecc∧TbW w1.heap.size w' T EB ecb ED ecd∧Below w1.heap.size w1 w'):=by
  have hw:=iY ((h.below hg1.below).nd i hi)
  rw[hS,hT] at hw
  refine hw.mono ?_
  rintro e w' ⟨EA,eca,EC,ecc,EB,ecb,ED,ecd,rfl,f1,f2,f3⟩
  exact ⟨EA,eca,EC,ecc,EB,ecb,ED,ecd,rfl,fE f1.1 f1.2,fE f2.1 f2.2,f3⟩
 rw[hS]
 have hgH:Hid (Gr w w1):=hg1
 clear h hi hg1 hS hT
 go_enter Tryz.func14,Tryz.ntmps14
 go_wp2_with fail
 try rw[hw1]
 refine cM (hN.out _) ?_
 rintro e w0 ⟨rfl,h0⟩
 have h0:=h0.symm
 subst h0
 go_wp2_with fail
 try rw[hw1]
 clear hw1
 refine cM (show Calls _ _ _ _ _ from hWh.out) ?_
 rintro e w2 ⟨EA,eca,EC,ecc,EB,ecb,ED,ecd,rfl,f1,f2,f3⟩
 have hF:Hid (TbW w1.heap.size w2 S EA eca EC ecc∧TbW w1.heap.size w2 T EB ecb ED ecd∧Below w1.heap.size w1 w2∧Cls w2 w.heap.size Z6):=⟨f1,f2,f3,hC1.out.below f3⟩
 clear f1 f2 f3 hWh
 have hx:=qR (O I S.c.c0) (O I S.c.c1) (O I S.c.c2) (O I S.c.c3) (J EA S.c.l.length eca) (J EC S.e.length ecc) (O I T.c.c0) (O I T.c.c1) (O I T.c.c2) (O I T.c.c3) (J EB T.c.l.length ecb) (J ED T.e.length ecd)
 have hy:=AX (O I S.c.c0) (O I S.c.c1) (O I S.c.c2) (O I S.c.c3) (J EA S.c.l.length eca) (J EC S.e.length ecc) (O I T.c.c0) (O I T.c.c1) (O I T.c.c2) (O I T.c.c3) (J EB T.c.l.length ecb) (J ED T.e.length ecd)
 obtain ⟨p0,p1,p2,p3,p4,p5⟩:=gw hF.out.2.2.2
 obtain ⟨z0,z1,z2,z3,z4,z5⟩:=sn hF.out.2.2.2
 go_wp2
 have hlt:w.heap.size<w1.heap.size:=hC1.out.lt
 have hb:Below w.heap.size w w2:=hgH.out.below.trans (hF.out.2.2.1.mono hgH.out.size)
 have hAg:Agr (fun b=>w1.heap.size≤b) w2 ((((((w2.setCell ⟨w.heap.size,0,none⟩ (O I S.c.c0)).setCell ⟨w.heap.size,1,none⟩ (O I S.c.c1)).setCell ⟨w.heap.size,2,none⟩ (O I S.c.c2)).setCell ⟨w.heap.size,3,none⟩ (O I S.c.c3)).setCell ⟨w.heap.size,4,none⟩ (J EA S.c.l.length eca)).setCell ⟨w.heap.size,5,none⟩ (J EC S.e.length ecc)):=((((((aS _ fun h=>by omega).trans (aS _ fun h=>by omega)).trans (aS _ fun h=>by omega)).trans (aS _ fun h=>by omega)).trans (aS _ fun h=>by omega)).trans (aS _ fun h=>by omega))
 have hfin:Hid (TbW w.heap.size ((((((w2.setCell ⟨w.heap.size,0,none⟩ (O I S.c.c0)).setCell ⟨w.heap.size,1,none⟩ (O I S.c.c1)).setCell ⟨w.heap.size,2,none⟩ (O I S.c.c2)).setCell ⟨w.heap.size,3,none⟩ (O I S.c.c3)).setCell ⟨w.heap.size,4,none⟩ (J EA S.c.l.length eca)).setCell ⟨w.heap.size,5,none⟩ (J EC S.e.length ecc)) S EA eca EC ecc∧Below w.heap.size w ((((((w2.setCell ⟨w.heap.size,0,none⟩ (O I S.c.c0)).setCell ⟨w.heap.size,1,none⟩ (O I S.c.c1)).setCell ⟨w.heap.size,2,none⟩ (O I S.c.c2)).setCell ⟨w.heap.size,3,none⟩ (O I S.c.c3)).setCell ⟨w.heap.size,4,none⟩ (J EA S.c.l.length eca)).setCell ⟨w.heap.size,5,none⟩ (J EC S.e.length ecc))):=⟨(hF.out.1.agr hAg).mono (by omega),((((((hb.setCell (nR _) _).setCell (nR _) _).setCell (nR _) _).setCell (nR _) _).setCell (nR _) _).setCell (nR _) _)⟩
 clear hlt hb hAg
 exact bodyPost_ret (v:= R #[X (T6 S EA eca EC ecc).toArray,O I 0]) (by simp[results,Tryz.results14,go_sem,p0,p1,p2,p3,p4,p5]) rfl ⟨_,rfl,⟨EA,eca,EC,ecc,rfl,hfin.out.1⟩,hfin.out.2⟩
theorem ub {w:World} {B:Nat} {P:Nat→Prop} {M:NetM} {Q:Nat→List (List Stp)} (h:NetP w B P M Q) (i:Nat) (hi:i<4) :
  Calls Z 14 #[Y (some ⟨B,0,none⟩),O I i,O I 1] w fun e w'=>∃v,e= H (R #[v,O I 0])∧TbV w.heap.size w' v (M.t i)∧Below w.heap.size w w':=by
 obtain ⟨w1,hw1⟩:∃W,w.alloc (K #[O I 0,O I 0,O I 0,O I 0,J none 0 0,J none 0 0] 41)=W:=⟨_,rfl⟩
 have hg1:Gr w w1:=by rw[←hw1];exact (gR w).alloc _
 have hC1:Hid (Cls w1 w.heap.size Z6):=by show Cls _ _ _;rw[←hw1];exact Cls.new w _ _
 have hi4:(i:Int)<4:=by omega
 have hN:Hid (∀W,Calls Z 33 #[O I i] W fun e w'=>e= H (F true)∧w'=W):=cK i hi
 obtain ⟨S,hS⟩:∃S,M.s i=S:=⟨_,rfl⟩
 obtain ⟨T,hT⟩:∃T,M.t i=T:=⟨_,rfl⟩
 have hWh:Hid (Calls Z 34 #[Y (some ⟨B,i*38,none⟩)] w1 fun e w'=>∃(EA:Option Addr) (eca:Nat) (EC:Option Addr) (ecc:Nat) (EB:Option Addr) (ecb:Nat) (ED:Option Addr) (ecd:Nat),e= H (X (T2 S EA eca EC ecc T EB ecb ED ecd).toArray)∧TbW w1.heap.size w' S EA eca EC ecc∧TbW w1.heap.size w' T EB ecb ED ecd∧Below w1.heap.size w1 w'):=by
  have hw:=iY ((h.below hg1.below).nd i hi)
  rw[hS,hT] at hw
  refine hw.mono ?_
  rintro e w' ⟨EA,eca,EC,ecc,EB,ecb,ED,ecd,rfl,f1,f2,f3⟩
  exact ⟨EA,eca,EC,ecc,EB,ecb,ED,ecd,rfl,fE f1.1 f1.2,fE f2.1 f2.2,f3⟩
 rw[hT]
 have hgH:Hid (Gr w w1):=hg1
 clear h hi hg1 hS hT
 go_enter Tryz.func14,Tryz.ntmps14
 go_wp2_with fail
 try rw[hw1]
 refine cM (hN.out _) ?_
 rintro e w0 ⟨rfl,h0⟩
 have h0:=h0.symm
 subst h0
 go_wp2_with fail
 try rw[hw1]
 clear hw1
 refine cM (show Calls _ _ _ _ _ from hWh.out) ?_
 rintro e w2 ⟨EA,eca,EC,ecc,EB,ecb,ED,ecd,rfl,f1,f2,f3⟩
 have hF:Hid (TbW w1.heap.size w2 S EA eca EC ecc∧TbW w1.heap.size w2 T EB ecb ED ecd∧Below w1.heap.size w1 w2∧Cls w2 w.heap.size Z6):=⟨f1,f2,f3,hC1.out.below f3⟩
 clear f1 f2 f3 hWh
 have hx:=qS (O I S.c.c0) (O I S.c.c1) (O I S.c.c2) (O I S.c.c3) (J EA S.c.l.length eca) (J EC S.e.length ecc) (O I T.c.c0) (O I T.c.c1) (O I T.c.c2) (O I T.c.c3) (J EB T.c.l.length ecb) (J ED T.e.length ecd)
 have hy:=AX (O I S.c.c0) (O I S.c.c1) (O I S.c.c2) (O I S.c.c3) (J EA S.c.l.length eca) (J EC S.e.length ecc) (O I T.c.c0) (O I T.c.c1) (O I T.c.c2) (O I T.c.c3) (J EB T.c.l.length ecb) (J ED T.e.length ecd)
 obtain ⟨p0,p1,p2,p3,p4,p5⟩:=gw hF.out.2.2.2
 obtain ⟨z0,z1,z2,z3,z4,z5⟩:=sn hF.out.2.2.2
 go_wp2
 have hlt:w.heap.size<w1.heap.size:=hC1.out.lt
 have hb:Below w.heap.size w w2:=hgH.out.below.trans (hF.out.2.2.1.mono hgH.out.size)
 have hAg:Agr (fun b=>w1.heap.size≤b) w2 ((((((w2.setCell ⟨w.heap.size,0,none⟩ (O I T.c.c0)).setCell ⟨w.heap.size,1,none⟩ (O I T.c.c1)).setCell ⟨w.heap.size,2,none⟩ (O I T.c.c2)).setCell ⟨w.heap.size,3,none⟩ (O I T.c.c3)).setCell ⟨w.heap.size,4,none⟩ (J EB T.c.l.length ecb)).setCell ⟨w.heap.size,5,none⟩ (J ED T.e.length ecd)):=((((((aS _ fun h=>by omega).trans (aS _ fun h=>by omega)).trans (aS _ fun h=>by omega)).trans (aS _ fun h=>by omega)).trans (aS _ fun h=>by omega)).trans (aS _ fun h=>by omega))
 have hfin:Hid (TbW w.heap.size ((((((w2.setCell ⟨w.heap.size,0,none⟩ (O I T.c.c0)).setCell ⟨w.heap.size,1,none⟩ (O I T.c.c1)).setCell ⟨w.heap.size,2,none⟩ (O I T.c.c2)).setCell ⟨w.heap.size,3,none⟩ (O I T.c.c3)).setCell ⟨w.heap.size,4,none⟩ (J EB T.c.l.length ecb)).setCell ⟨w.heap.size,5,none⟩ (J ED T.e.length ecd)) T EB ecb ED ecd∧Below w.heap.size w ((((((w2.setCell ⟨w.heap.size,0,none⟩ (O I T.c.c0)).setCell ⟨w.heap.size,1,none⟩ (O I T.c.c1)).setCell ⟨w.heap.size,2,none⟩ (O I T.c.c2)).setCell ⟨w.heap.size,3,none⟩ (O I T.c.c3)).setCell ⟨w.heap.size,4,none⟩ (J EB T.c.l.length ecb)).setCell ⟨w.heap.size,5,none⟩ (J ED T.e.length ecd))):=⟨(hF.out.2.1.agr hAg).mono (by omega),((((((hb.setCell (nR _) _).setCell (nR _) _).setCell (nR _) _).setCell (nR _) _).setCell (nR _) _).setCell (nR _) _)⟩
 clear hlt hb hAg
 exact bodyPost_ret (v:= R #[X (T6 T EB ecb ED ecd).toArray,O I 0]) (by simp[results,Tryz.results14,go_sem,p0,p1,p2,p3,p4,p5]) rfl ⟨_,rfl,⟨EB,ecb,ED,ecd,rfl,hfin.out.1⟩,hfin.out.2⟩

theorem TbN.len {w:World} {N o:Nat} {P:Nat→Prop} {t:Tab} (h:TbN w N o P t):t.c.l.length≤maxLen∧t.e.length≤maxLen:=by
 obtain ⟨A,ca,D,cd,_,h2⟩:=h
 exact h2.len
def nN (a b:Nat):List (Nat×Nat):=(List.range b).filterMap fun j=>if j=a then none else some (a,j)
def rS (a:Nat):List (Nat×Nat):=(List.range a).flatMap fun i=>nN i 4
theorem pg (a b:Nat):nN a (b+1)=if b=a then nN a b else nN a b++[(a,b)]:=by
 unfold nN
 rw[List.range_succ,List.filterMap_append]
 by_cases h:b=a
 ·simp[h]
 ·simp[h]
theorem uj (a:Nat):rS (a+1)=rS a++nN a 4:=by
 unfold rS
 rw[List.range_succ,List.flatMap_append]
 simp
theorem lj {w:World} {B:Nat} {P:Nat→Prop} {M:NetM} {Q:Nat→List (List Stp)} {c:Nat} (h:NetP w B P M Q) (hI:NInv c M) :
  Calls Z 39 #[Y (some ⟨B,0,none⟩)] w fun e w'=>e= H (O I 0)∧bk w B P w' (cQ.foldl cS M) Q:=by
 have mixed:Tryz.prog.follows .mixedOrders=true:=by kernel_rfl
 have hH:Hid (bk w B P w M Q∧NInv c M):=⟨bk.same h (bR _ _),hI⟩
 clear h hI
 go_enter Tryz.func39,Tryz.ntmps39
 go_wp2
 go_loopw [6] (fun v6 wr=>∃a:Nat,a≤4∧v6= O I a∧Hid (bk w B P wr ((rS a).foldl cS M) Q)) (fun v6 _=>4-(intOf v6).toNat)
 case atStart=>exact ⟨0,by omega,rfl,hH.out.1⟩
 case round =>
  obtain ⟨a,ha,rfl,hS⟩:=hrel
  by_cases ha4:a<4
  rotate_left
  ·have hz:¬(a:Int)<4:=by omega
   obtain rfl:a=4:=by omega
   go_wp2
   go_ret
   exact ⟨rfl,hS.out⟩
  have haz:(a:Int)<4:=by omega
  go_wp2
  go_loopw [9] (fun v9 wx=>∃b:Nat,b≤4∧v9= O I b∧Hid (bk w B P wx ((rS a++nN a b).foldl cS M) Q)) (fun v9 _=>4-(intOf v9).toNat)
  case atStart=>exact ⟨0,by omega,rfl,by show bk _ _ _ _ _ _;rw[show nN a 0=[] from rfl,List.append_nil];exact hS.out⟩
  case round =>
   obtain ⟨b,hb,rfl,hT⟩:=hrel
   by_cases hb4:b<4
   rotate_left
   ·have hz:¬(b:Int)<4:=by omega
    obtain rfl:b=4:=by omega
    go_wp2
    go_roundw
    case rel=>exact ⟨a+1,by omega,by go_num,by show bk _ _ _ _ _ _;rw[uj];exact hT.out⟩
    case measure=>simp[intOf];omega
   have hbz:(b:Int)<4:=by omega
   by_cases hab:b=a
   ·subst hab
    have hab':((b:Int)==(b:Int))=true:=by simp
    go_wp2
    go_roundw
    case rel=>exact ⟨b+1,by omega,by go_num,by show bk _ _ _ _ _ _;rw[pg,if_pos rfl];exact hT.out⟩
    case measure=>simp[intOf];omega
   have hab':((a:Int)==(b:Int))=false:=by simp;omega
   obtain ⟨N,hN⟩:∃N,(rS a++nN a b).foldl cS M=N:=⟨_,rfl⟩
   rw[hN] at hT
   have hIn:NInv c N:=by rw[←hN];exact (NInv.tells _ hH.out.2).1
   have hNx:Hid ((rS a++nN a (b+1)).foldl cS M=cS N (a,b)):=by
    show _=_
    rw[pg,if_neg hab,←List.append_assoc,List.foldl_append,hN]
    rfl
   obtain ⟨S,hSe⟩:∃S,N.s a=S:=⟨_,rfl⟩
   obtain ⟨T,hTe⟩:∃T,N.t a=T:=⟨_,rfl⟩
   have hWh:Hid (∀W,Gr wr W→Calls Z 34 #[Y (some ⟨B,a*38,none⟩)] W fun e w'=>∃(EA:Option Addr) (eca:Nat) (EC:Option Addr) (ecc:Nat) (EB:Option Addr) (ecb:Nat) (ED:Option Addr) (ecd:Nat),e= H (X (T2 S EA eca EC ecc T EB ecb ED ecd).toArray)∧TbW W.heap.size w' S EA eca EC ecc∧TbW W.heap.size w' T EB ecb ED ecd∧Below W.heap.size W w'):=fun W hW=>by
    obtain ⟨⟨P',h1,_⟩,_⟩:=hT.out
    have hw:=iY ((h1.below hW.below).nd a ha4)
    rw[hSe,hTe] at hw
    refine hw.mono ?_
    rintro e w' ⟨EA,eca,EC,ecc,EB,ecb,ED,ecd,rfl,f1,f2,f3⟩
    exact ⟨EA,eca,EC,ecc,EB,ecb,ED,ecd,rfl,fE f1.1 f1.2,fE f2.1 f2.2,f3⟩
   have hTk:Hid (∀W n EA eca EC ecc EB ecb ED ecd,Below wr.heap.size wr W→TbW n W S EA eca EC ecc→TbW n W T EB ecb ED ecd→Calls Z 54 #[Y (some ⟨B,b*38,none⟩),X (T2 S EA eca EC ecc T EB ecb ED ecd).toArray] W fun e w'=>e= H (O I 0)∧bk w B P w' (cS N (a,b)) Q):=fun W n EA eca EC ecc EB ecb ED ecd hW r1 r2=>by
    obtain ⟨_,h0,_⟩:=hIn.tell (a,b)
    obtain ⟨⟨P',h1,h2⟩,h3⟩:=hT.out
    have hn:=h1.below hW
    have l1:=(h1.nd a ha4).ts.len
    have l2:=(h1.nd a ha4).tt.len
    rw[hSe] at l1
    rw[hTe] at l2
    have ht:=rJ (hn.nd b hb4) S T EA EB EC ED eca ecb ecc ecd r1.row r1.cel r2.row r2.cel l1.1 l1.2 l2.1 l2.2 r1.nr r2.nr
    rw[←hSe,←hTe,show tkE (N.s b) (N.t b) (N.s a) (N.t a)=0 from h0,hSe,hTe] at ht
    refine ht.mono ?_
    rintro e w' ⟨rfl,f1,f2⟩
    have hc:=hn.call hb4 f1 f2 (by omega)
    rw[iX] at hc
    obtain ⟨⟨P2,k1,k2⟩,k3⟩:=hc
    rw[←hSe,←hTe] at k1
    exact ⟨rfl,⟨P2,k1,fun b hb=>(k2 b hb).elim (h2 b) fun h=>oR (nT h3.size (nT hW.size h))⟩,(h3.trans (Wr.of hW h1.lt)).trans k3⟩
   have hTH:Hid (bk w B P wr N Q):=hT.out
   clear hT hIn hN hSe hTe hS
   go_wp2
   go_region_with (first|(go_at_call 34;(with_reducible refine cM (hWh.out _ (gR wr).drew) ?_);rintro e w2 ⟨EA,eca,EC,ecc,EB,ecb,ED,ecd,rfl,f1,f2,f3⟩;have hF:Hid (TbW wr.drew.heap.size w2 S EA eca EC ecc∧TbW wr.drew.heap.size w2 T EB ecb ED ecd∧Below wr.heap.size wr w2):=⟨f1,f2,(gR wr).drew.below.trans f3⟩;clear f1 f2 f3)|(go_at_call 54;(with_reducible refine cM (hTk.out _ _ _ _ _ _ _ _ _ _ hF.out.2.2 hF.out.1 hF.out.2.1) ?_);rintro e w3 ⟨rfl,f1⟩;have hG:Hid (bk w B P w3 (cS N (a,b)) Q):=f1;clear f1))
   all_goals
    go_wp2
    go_roundw
    case rel=>exact ⟨b+1,by omega,by go_num,by show bk _ _ _ _ _ _;rw[hNx.out];exact hG.out⟩
    case measure=>simp[intOf];omega
theorem xq {w:World} {B:Nat} {P:Nat→Prop} {M:NetM} {Q:Nat→List (List Stp)} {c:Nat} (h:NetP w B P M Q) (hI:NInv c M) :
  Calls Z 18 #[Y (some ⟨B,0,none⟩)] w fun e w'=>e= H (O I 0)∧bk w B P w' (d8 M) Q:=by
 have hT1:Hid (Calls Z 39 #[Y (some ⟨B,0,none⟩)] w fun e w'=>e= H (O I 0)∧bk w B P w' (cQ.foldl cS M) Q):=lj h hI
 have hT2:Hid (∀W,bk w B P W (cQ.foldl cS M) Q→Calls Z 39 #[Y (some ⟨B,0,none⟩)] W fun e w'=>e= H (O I 0)∧bk w B P w' (d8 M) Q):=fun W hW=>by
  obtain ⟨⟨P',h1,h2⟩,h3⟩:=hW
  refine (lj h1 (NInv.tells cQ hI).1).mono ?_
  rintro e w' ⟨rfl,f1⟩
  refine ⟨rfl,?_⟩
  have he:d8 M=cQ.foldl cS (cQ.foldl cS M):=by unfold d8;rw[List.foldl_append]
  rw[he]
  obtain ⟨⟨P2,k1,k2⟩,k3⟩:=f1
  exact ⟨⟨P2,k1,fun b hb=>(k2 b hb).elim (h2 b) fun h=>oR (nT h3.size h)⟩,h3.trans k3⟩
 clear h hI
 go_enter Tryz.func18,Tryz.ntmps18
 go_wp2
 refine wp_loop_rounds 3 ?_
 rw[rounds_succ]
 go_wp2_with fail
 refine cM (show Calls _ _ _ _ _ from hT1.out) ?_
 rintro e w1 ⟨rfl,f1⟩
 have hF:Hid _:=f1
 clear f1 hT1
 go_wp2
 rw[rounds_succ]
 go_wp2_with fail
 refine cM (hT2.out w1 hF.out) ?_
 rintro e w2 ⟨rfl,f1⟩
 have hG:Hid _:=f1
 clear f1 hT2
 go_wp2
 rw[rounds_succ]
 go_wp2
 go_ret
 exact ⟨rfl,hG.out⟩

def aV (w wr:World) (B:Nat) (M:NetM) (Q:Nat→List (List Stp)):Prop:=(∃P,NetP wr B P M Q∧∀b,P b→w.heap.size≤b)∧Below w.heap.size w wr∧w.heap.size≤B
section
variable {w wr w':World} {B:Nat} {M M':NetM} {Q Q':Nat→List (List Stp)}
theorem aV.below (h:aV w wr B M Q) (k:Below wr.heap.size wr w'):aV w w' B M Q:=by
 obtain ⟨⟨P,h1,h2⟩,h3,h4⟩:=h
 exact ⟨⟨P,h1.below k,h2⟩,h3.trans (k.mono h3.size),h4⟩
theorem Wr.after {lo hi:Nat} (h:Below w.heap.size w wr) (k:Wr B lo hi wr w') (hB:w.heap.size≤B):Below w.heap.size w w':=⟨k.os.trans h.os,k.tape.trans h.tape,k.output.trans h.output,nT h.size k.size,fun g hg=>(k.oth g (nL hg h.size) (by omega)).trans (h.block g hg)⟩
theorem aV.step (h:aV w wr B M Q) (k:∀P,NetP wr B P M Q→bk wr B P w' M' Q'):aV w w' B M' Q'∧Wr B 0 153 wr w':=by
 obtain ⟨⟨P,h1,h2⟩,h3,h4⟩:=h
 obtain ⟨⟨P',k1,k2⟩,k3⟩:=k P h1
 exact ⟨⟨⟨P',k1,fun b hb=>(k2 b hb).elim (h2 b) fun h=>nT h3.size h⟩,Wr.after h3 k3 h4,h4⟩,k3⟩
theorem aV.new (h:Below w.heap.size w wr) (k:NetP w' wr.heap.size (fun _=>False) aG (fun _=>[])) (k2:Below wr.heap.size wr w'):aV w w' wr.heap.size aG (fun _=>[]):=⟨⟨_,k,fun _ h=>h.elim⟩,h.trans (k2.mono h.size),h.size⟩
end
def bH (y:Hap×List UInt8):List Value:=[O I y.1.k,O I y.1.a,O I y.1.b,O I y.1.n,O I y.1.e1,O I y.1.e2,O I y.1.e3,O I y.1.e4,O I y.1.e5,E ⟨y.2.toArray⟩]
theorem fR (y:Hap×List UInt8):(bH y).length=10:=rfl
theorem doL {w wr:World} {B:Nat} {M:NetM} {Q:Nat→List (List Stp)} (h:aV w wr B M Q) (hr:Reads w) (y:Hap×List UInt8) (hx:y.2.length≤maxLen) :
  Calls Z 11 #[Y (some ⟨B,0,none⟩),X #[O I y.1.k,O I y.1.a,O I y.1.b,O I y.1.n,O I y.1.e1,O I y.1.e2,O I y.1.e3,O I y.1.e4,O I y.1.e5,E ⟨y.2.toArray⟩]] wr fun e w'=>∃er Q',e= H (O I er)∧py y.2 M y.1 Q er Q'∧aV w w' B (aj M y.1) Q'∧Wr B 0 153 wr w':=by
 have hL:=h
 obtain ⟨⟨P,h1,h2⟩,h3,h4⟩:=h
 refine (pF h1 (hr.below h3) y.2 hx y.1).mono ?_
 rintro e w' ⟨er,Q',rfl,f1,f2⟩
 obtain ⟨⟨P',k1,k2⟩,k3⟩:=f2
 exact ⟨er,Q',rfl,f1,⟨⟨P',k1,fun b hb=>(k2 b hb).elim (h2 b) fun h=>nT h3.size h⟩,Wr.after h3 k3 h4,h4⟩,k3⟩
theorem tQ {w wr:World} {B:Nat} {M:NetM} {Q:Nat→List (List Stp)} {c:Nat} (h:aV w wr B M Q) (hI:NInv c M) :
  Calls Z 18 #[Y (some ⟨B,0,none⟩)] wr fun e w'=>e= H (O I 0)∧aV w w' B (d8 M) Q∧Wr B 0 153 wr w':=by
 obtain ⟨⟨P,h1,h2⟩,h3,h4⟩:=h
 refine (xq h1 hI).mono ?_
 rintro e w' ⟨rfl,f2⟩
 obtain ⟨⟨P',k1,k2⟩,k3⟩:=f2
 exact ⟨rfl,⟨⟨P',k1,fun b hb=>(k2 b hb).elim (h2 b) fun h=>nT h3.size h⟩,Wr.after h3 k3 h4,h4⟩,k3⟩

theorem gJ {w0:World} (w:World) (A:Option Addr) (cap:Nat) (l:List (Hap×List UInt8)) (hl:l.length≤maxLen) (row:au bH 10 w0 A l) (hx:∀p∈l,p.2.length≤maxLen) (hr:Reads w0) (hb:Below w0.heap.size w0 w) :
  Calls Z 17 #[J A l.length cap] w fun e w'=>∃B Q,e= H (Y (some ⟨B,0,none⟩))∧aV w w' B ((l.map (·.1)).foldl aj aG) Q:=by
 have hlm:l.length≤9223372036854775807:=by unfold maxLen at hl;exact hl
 have hN:Hid _:=eH w
 have hH:Hid (au bH 10 w0 A l∧(∀p∈l,p.2.length≤maxLen)∧Reads w0∧Below w0.heap.size w0 w):=⟨row,hx,hr,hb⟩
 clear row hx hr hb
 go_enter Tryz.func17,Tryz.ntmps17
 go_wp2_with fail
 refine cM (show Calls _ _ _ _ _ from hN.out) ?_
 rintro e w1 ⟨rfl,f1,f2⟩
 have hI1:Hid (aV w w1 w.heap.size aG (fun _=>[])):=aV.new (bR _ _) f1 f2
 clear f1 f2 hN
 go_wp2
 go_loopw [9] (fun v9 wr=>∃k:Nat,k≤l.length∧v9= O I k∧Hid (∃Q,aV w wr w.heap.size (((l.take k).map (·.1)).foldl aj aG) Q)) (fun v9 _=>l.length-(intOf v9).toNat)
 case atStart=>exact ⟨0,nZ _,rfl,_,hI1.out⟩
 case round =>
  obtain ⟨k,hk,rfl,hI⟩:=hrel
  by_cases hkl:k<l.length
  rotate_left
  ·have hz:¬(k:Int)<(l.length:Int):=by omega
   obtain rfl:k=l.length:=by omega
   go_wp2
   go_ret
   obtain ⟨Q,hQ⟩:=hI.out
   rw[List.take_length] at hQ
   exact ⟨w.heap.size,rfl,Q,hQ⟩
  have hkz:(k:Int)<(l.length:Int):=by omega
  obtain ⟨Q,hQ⟩:=hI.out
  obtain ⟨bb,off,hA,hbb,hcl⟩:=hH.out.1.at hkl
  subst hA
  have hbw:Below w0.heap.size w0 wr:=hH.out.2.2.2.trans (hQ.2.1.mono hH.out.2.2.2.size)
  obtain ⟨y,hy⟩:∃y,l[k]=y:=⟨_,rfl⟩
  have hcl:=hcl k hkl
  rw[hy] at hcl
  have c0:=(hbw.cell (p:=⟨bb,off+k*10+0,none⟩) hbb).trans (hcl 0 (by omega))
  have c1:=(hbw.cell (p:=⟨bb,off+k*10+1,none⟩) hbb).trans (hcl 1 (by omega))
  have c2:=(hbw.cell (p:=⟨bb,off+k*10+2,none⟩) hbb).trans (hcl 2 (by omega))
  have c3:=(hbw.cell (p:=⟨bb,off+k*10+3,none⟩) hbb).trans (hcl 3 (by omega))
  have c4:=(hbw.cell (p:=⟨bb,off+k*10+4,none⟩) hbb).trans (hcl 4 (by omega))
  have c5:=(hbw.cell (p:=⟨bb,off+k*10+5,none⟩) hbb).trans (hcl 5 (by omega))
  have c6:=(hbw.cell (p:=⟨bb,off+k*10+6,none⟩) hbb).trans (hcl 6 (by omega))
  have c7:=(hbw.cell (p:=⟨bb,off+k*10+7,none⟩) hbb).trans (hcl 7 (by omega))
  have c8:=(hbw.cell (p:=⟨bb,off+k*10+8,none⟩) hbb).trans (hcl 8 (by omega))
  have c9:=(hbw.cell (p:=⟨bb,off+k*10+9,none⟩) hbb).trans (hcl 9 (by omega))
  simp only[bH,z0',zS,Nat.add_zero] at c0 c1 c2 c3 c4 c5 c6 c7 c8 c9
  obtain ⟨w2,hw2⟩:∃W,wr.alloc (K #[O I y.1.k,O I y.1.a,O I y.1.b,O I y.1.n,O I y.1.e1,O I y.1.e2,O I y.1.e3,O I y.1.e4,O I y.1.e5,E ⟨y.2.toArray⟩] 30)=W:=⟨_,rfl⟩
  have hg2:Gr wr w2:=by rw[←hw2];exact (gR wr).alloc _
  have hBx:Cls w2 wr.heap.size [O I y.1.k,O I y.1.a,O I y.1.b,O I y.1.n,O I y.1.e1,O I y.1.e2,O I y.1.e3,O I y.1.e4,O I y.1.e5,E ⟨y.2.toArray⟩]:=by rw[←hw2];exact Cls.new wr _ _
  obtain ⟨b0,b1,b2,b3,b4,b5,b6,b7,b8,b9⟩:=fP hBx
  have hD:Hid _:=doL (hQ.below hg2.below) (hH.out.2.2.1.below hH.out.2.2.2) y (hH.out.2.1 y (by rw[←hy];exact gM _))
  have hnx:Hid (((l.take (k+1)).map (·.1)).foldl aj aG=aj (((l.take k).map (·.1)).foldl aj aG) y.1):=by
   show _=_
   rw[List.take_succ_eq_append_getElem hkl,List.map_append,List.foldl_append,hy]
   rfl
  clear hI hQ hcl hbb hbw hy hg2 hBx
  go_wp2_with fail
  try rw[hw2]
  clear hw2 c0 c1 c2 c3 c4 c5 c6 c7 c8 c9
  refine cM (show Calls _ _ _ _ _ from hD.out) ?_
  rintro e w3 ⟨er,Q',rfl,_,f2,_⟩
  have hF:Hid (∃Q,aV w w3 w.heap.size (((l.take (k+1)).map (·.1)).foldl aj aG) Q):=⟨Q',by rw[hnx.out];exact f2⟩
  clear f2 hD hnx b0 b1 b2 b3 b4 b5 b6 b7 b8 b9
  go_wp2
  go_roundw
  case rel=>exact ⟨k+1,by omega,by go_num,hF⟩
  case measure=>simp[intOf];omega

theorem Aj (a b c d e f g h i j k l:Value) (w:World):(Instr.build 48 #[(0,X #[a,b,c,d,e,f]),(1,X #[g,h,i,j,k,l])]).run Z w= .ok (X #[a,b,c,d,e,f,g,h,i,j,k,l]) w:=by kernel_rfl
theorem kQ {w:World} {B:Nat} {P:Nat→Prop} {M:NetM} {Q:Nat→List (List Stp)} (h:NetP w B P M Q) (i:Nat) (hi:i<4) :
  Calls Z 19 #[Y (some ⟨B,0,none⟩),O I i] w fun e w'=>∃v,e= H (R #[v,F true])∧PkW w.heap.size w' v (M.s i) (M.t i)∧Below w.heap.size w w':=by
 obtain ⟨w1,hw1⟩:∃W,w.alloc (K #[O I 0,O I 0,O I 0,O I 0,J none 0 0,J none 0 0,O I 0,O I 0,O I 0,O I 0,J none 0 0,J none 0 0] 48)=W:=⟨_,rfl⟩
 have hg1:Gr w w1:=by rw[←hw1];exact (gR w).alloc _
 have hC1:Hid (Cls w1 w.heap.size Z2∧Gr w w1):=⟨by rw[←hw1];exact Cls.new w _ _,hg1⟩
 have hH:Hid (NetP w1 B P M Q∧i<4):=⟨h.below hg1.below,hi⟩
 obtain ⟨S,hS⟩:∃S,M.s i=S:=⟨_,rfl⟩
 obtain ⟨T,hT⟩:∃T,M.t i=T:=⟨_,rfl⟩
 have t0:=lN (h.below hg1.below) i hi
 rw[hS] at t0
 have hT0:Hid _:=t0
 have hTT:Hid (M.t i=T):=hT
 rw[hS,hT]
 clear h hi hg1 hS hT t0
 go_enter Tryz.func19,Tryz.ntmps19
 go_wp2_with fail
 try rw[hw1]
 clear hw1
 refine cM (show Calls _ _ _ _ _ from hT0.out) ?_
 rintro e w2 ⟨v,rfl,⟨EA,eca,EC,ecc,rfl,f1⟩,f2⟩
 obtain ⟨w3,hw3⟩:∃W,w2.alloc (K #[O I S.c.c0,O I S.c.c1,O I S.c.c2,O I S.c.c3,J EA S.c.l.length eca,J EC S.e.length ecc] 41)=W:=⟨_,rfl⟩
 have hg3:Gr w2 w3:=by rw[←hw3];exact (gR w2).alloc _
 have hb3:Below w1.heap.size w1 w3:=f2.trans (hg3.below.mono f2.size)
 have hF:Hid (TbW w1.heap.size w3 S EA eca EC ecc∧Below w1.heap.size w1 w3∧Cls w3 w2.heap.size (T6 S EA eca EC ecc)∧w1.heap.size≤w2.heap.size):=⟨f1.below hg3.below,hb3,by rw[←hw3];exact Cls.new w2 _ _,f2.size⟩
 have t1:=ub (hH.out.1.below hb3) i hH.out.2
 rw[hTT.out] at t1
 have hT1:Hid _:=t1
 clear f1 f2 hg3 hb3 t1 hT0
 go_wp2_with fail
 try rw[hw3]
 clear hw3
 refine cM (show Calls _ _ _ _ _ from hT1.out) ?_
 rintro e w4 ⟨v,rfl,⟨EB,ecb,ED,ecd,rfl,f1⟩,f2⟩
 obtain ⟨w5,hw5⟩:∃W,w4.alloc (K #[O I T.c.c0,O I T.c.c1,O I T.c.c2,O I T.c.c3,J EB T.c.l.length ecb,J ED T.e.length ecd] 41)=W:=⟨_,rfl⟩
 have hg5:Gr w4 w5:=by rw[←hw5];exact (gR w4).alloc _
 have hb5:Below w3.heap.size w3 w5:=f2.trans (hg5.below.mono f2.size)
 have hG:Hid (TbW w1.heap.size w5 S EA eca EC ecc∧TbW w1.heap.size w5 T EB ecb ED ecd∧Below w1.heap.size w1 w5∧Cls w5 w2.heap.size (T6 S EA eca EC ecc)∧Cls w5 w4.heap.size (T6 T EB ecb ED ecd)∧Cls w5 w.heap.size Z2):=⟨hF.out.1.below hb5,(f1.below hg5.below).mono hF.out.2.1.size,hF.out.2.1.trans (hb5.mono hF.out.2.1.size),hF.out.2.2.1.below hb5,by rw[←hw5];exact Cls.new w4 _ _,(hC1.out.1.below hF.out.2.1).below hb5⟩
 clear f1 f2 hg5 hb5 hT1
 have hx:=Aj (O I S.c.c0) (O I S.c.c1) (O I S.c.c2) (O I S.c.c3) (J EA S.c.l.length eca) (J EC S.e.length ecc) (O I T.c.c0) (O I T.c.c1) (O I T.c.c2) (O I T.c.c3) (J EB T.c.l.length ecb) (J ED T.e.length ecd)
 obtain ⟨p0,p1,p2,p3,p4,p5,p6,p7,p8,p9,p10,p11⟩:=dR hG.out.2.2.2.2.2
 obtain ⟨z0,z1,z2,z3,z4,z5,z6,z7,z8,z9,z10,z11⟩:=ov hG.out.2.2.2.2.2
 have a0:=hG.out.2.2.2.1.cell (j:=0) rfl
 have b0:=hG.out.2.2.2.2.1.cell (j:=0) rfl
 have a1:=hG.out.2.2.2.1.cell (j:=1) rfl
 have b1:=hG.out.2.2.2.2.1.cell (j:=1) rfl
 have a2:=hG.out.2.2.2.1.cell (j:=2) rfl
 have b2:=hG.out.2.2.2.2.1.cell (j:=2) rfl
 have a3:=hG.out.2.2.2.1.cell (j:=3) rfl
 have b3:=hG.out.2.2.2.2.1.cell (j:=3) rfl
 have a4:=hG.out.2.2.2.1.cell (j:=4) rfl
 have b4:=hG.out.2.2.2.2.1.cell (j:=4) rfl
 have a5:=hG.out.2.2.2.1.cell (j:=5) rfl
 have b5:=hG.out.2.2.2.2.1.cell (j:=5) rfl
 go_upto_region 3 with fail
 try rw[hw5]
 clear hw5
 go_wp2
 have hlt:w.heap.size<w1.heap.size:=hC1.out.1.lt
 have hb:Below w.heap.size w w5:=hC1.out.2.below.trans (hG.out.2.2.1.mono hC1.out.2.size)
 have hAg:Agr (fun b=>w1.heap.size≤b) w5 ((((((((((((w5.setCell ⟨w.heap.size,0,none⟩ (O I S.c.c0)).setCell ⟨w.heap.size,1,none⟩ (O I S.c.c1)).setCell ⟨w.heap.size,2,none⟩ (O I S.c.c2)).setCell ⟨w.heap.size,3,none⟩ (O I S.c.c3)).setCell ⟨w.heap.size,4,none⟩ (J EA S.c.l.length eca)).setCell ⟨w.heap.size,5,none⟩ (J EC S.e.length ecc)).setCell ⟨w.heap.size,6,none⟩ (O I T.c.c0)).setCell ⟨w.heap.size,7,none⟩ (O I T.c.c1)).setCell ⟨w.heap.size,8,none⟩ (O I T.c.c2)).setCell ⟨w.heap.size,9,none⟩ (O I T.c.c3)).setCell ⟨w.heap.size,10,none⟩ (J EB T.c.l.length ecb)).setCell ⟨w.heap.size,11,none⟩ (J ED T.e.length ecd)):=((((((((((((aS _ fun h=>by omega).trans (aS _ fun h=>by omega)).trans (aS _ fun h=>by omega)).trans (aS _ fun h=>by omega)).trans (aS _ fun h=>by omega)).trans (aS _ fun h=>by omega)).trans (aS _ fun h=>by omega)).trans (aS _ fun h=>by omega)).trans (aS _ fun h=>by omega)).trans (aS _ fun h=>by omega)).trans (aS _ fun h=>by omega)).trans (aS _ fun h=>by omega))
 have hfin:Hid (TbW w.heap.size ((((((((((((w5.setCell ⟨w.heap.size,0,none⟩ (O I S.c.c0)).setCell ⟨w.heap.size,1,none⟩ (O I S.c.c1)).setCell ⟨w.heap.size,2,none⟩ (O I S.c.c2)).setCell ⟨w.heap.size,3,none⟩ (O I S.c.c3)).setCell ⟨w.heap.size,4,none⟩ (J EA S.c.l.length eca)).setCell ⟨w.heap.size,5,none⟩ (J EC S.e.length ecc)).setCell ⟨w.heap.size,6,none⟩ (O I T.c.c0)).setCell ⟨w.heap.size,7,none⟩ (O I T.c.c1)).setCell ⟨w.heap.size,8,none⟩ (O I T.c.c2)).setCell ⟨w.heap.size,9,none⟩ (O I T.c.c3)).setCell ⟨w.heap.size,10,none⟩ (J EB T.c.l.length ecb)).setCell ⟨w.heap.size,11,none⟩ (J ED T.e.length ecd)) S EA eca EC ecc∧TbW w.heap.size ((((((((((((w5.setCell ⟨w.heap.size,0,none⟩ (O I S.c.c0)).setCell ⟨w.heap.size,1,none⟩ (O I S.c.c1)).setCell ⟨w.heap.size,2,none⟩ (O I S.c.c2)).setCell ⟨w.heap.size,3,none⟩ (O I S.c.c3)).setCell ⟨w.heap.size,4,none⟩ (J EA S.c.l.length eca)).setCell ⟨w.heap.size,5,none⟩ (J EC S.e.length ecc)).setCell ⟨w.heap.size,6,none⟩ (O I T.c.c0)).setCell ⟨w.heap.size,7,none⟩ (O I T.c.c1)).setCell ⟨w.heap.size,8,none⟩ (O I T.c.c2)).setCell ⟨w.heap.size,9,none⟩ (O I T.c.c3)).setCell ⟨w.heap.size,10,none⟩ (J EB T.c.l.length ecb)).setCell ⟨w.heap.size,11,none⟩ (J ED T.e.length ecd)) T EB ecb ED ecd∧Below w.heap.size w ((((((((((((w5.setCell ⟨w.heap.size,0,none⟩ (O I S.c.c0)).setCell ⟨w.heap.size,1,none⟩ (O I S.c.c1)).setCell ⟨w.heap.size,2,none⟩ (O I S.c.c2)).setCell ⟨w.heap.size,3,none⟩ (O I S.c.c3)).setCell ⟨w.heap.size,4,none⟩ (J EA S.c.l.length eca)).setCell ⟨w.heap.size,5,none⟩ (J EC S.e.length ecc)).setCell ⟨w.heap.size,6,none⟩ (O I T.c.c0)).setCell ⟨w.heap.size,7,none⟩ (O I T.c.c1)).setCell ⟨w.heap.size,8,none⟩ (O I T.c.c2)).setCell ⟨w.heap.size,9,none⟩ (O I T.c.c3)).setCell ⟨w.heap.size,10,none⟩ (J EB T.c.l.length ecb)).setCell ⟨w.heap.size,11,none⟩ (J ED T.e.length ecd))):=⟨(hG.out.1.agr hAg).mono (by omega),(hG.out.2.1.agr hAg).mono (by omega),((((((((((((hb.setCell (nR _) _).setCell (nR _) _).setCell (nR _) _).setCell (nR _) _).setCell (nR _) _).setCell (nR _) _).setCell (nR _) _).setCell (nR _) _).setCell (nR _) _).setCell (nR _) _).setCell (nR _) _).setCell (nR _) _)⟩
 clear hlt hb hAg
 exact bodyPost_ret (v:= R #[X (T2 S EA eca EC ecc T EB ecb ED ecd).toArray,F true]) (by simp[results,Tryz.results19,go_sem,p0,p1,p2,p3,p4,p5,p6,p7,p8,p9,p10,p11]) rfl ⟨_,rfl,⟨EA,eca,EC,ecc,EB,ecb,ED,ecd,rfl,hfin.out.1,hfin.out.2.1⟩,hfin.out.2.2⟩
theorem mX {w:World} {n m:Nat} {v u:Value} {S T U V:Tab} (h:PkW n w v S T) (k:PkW m w u U V) (hS:am S=0) (hT:am T=0) (hU:am U=0) (hV:am V=0) :
  Calls Z 20 #[v,u] w fun e w'=>e= H (F (fj S U && fj T V))∧Gr w w':=by
 obtain ⟨EA,eca,EC,ecc,EB,ecb,ED,ecd,rfl,f1,f2⟩:=h
 obtain ⟨FA,fca,FC,fcc,FB,fcb,FD,fcd,rfl,g1,g2⟩:=k
 obtain ⟨w1,hw1⟩:∃W,(w.alloc (K #[O I S.c.c0,O I S.c.c1,O I S.c.c2,O I S.c.c3,J EA S.c.l.length eca,J EC S.e.length ecc,O I T.c.c0,O I T.c.c1,O I T.c.c2,O I T.c.c3,J EB T.c.l.length ecb,J ED T.e.length ecd] 48)).alloc (K #[O I U.c.c0,O I U.c.c1,O I U.c.c2,O I U.c.c3,J FA U.c.l.length fca,J FC U.e.length fcc,O I V.c.c0,O I V.c.c1,O I V.c.c2,O I V.c.c3,J FB V.c.l.length fcb,J FD V.e.length fcd] 48)=W:=⟨_,rfl⟩
 have hg1:Gr w w1:=by rw[←hw1];exact ((gR w).alloc _).alloc _
 have hC1:Cls w1 w.heap.size (T2 S EA eca EC ecc T EB ecb ED ecd):=by rw[←hw1];exact (Cls.new w _ _).gr ((gR _).alloc _)
 have hC2:Cls w1 (w.heap.size+1) (T2 U FA fca FC fcc V FB fcb FD fcd):=by
  have:=Cls.new (w.alloc (K #[O I S.c.c0,O I S.c.c1,O I S.c.c2,O I S.c.c3,J EA S.c.l.length eca,J EC S.e.length ecc,O I T.c.c0,O I T.c.c1,O I T.c.c2,O I T.c.c3,J EB T.c.l.length ecb,J ED T.e.length ecd] 48)) #[O I U.c.c0,O I U.c.c1,O I U.c.c2,O I U.c.c3,J FA U.c.l.length fca,J FC U.e.length fcc,O I V.c.c0,O I V.c.c1,O I V.c.c2,O I V.c.c3,J FB V.c.l.length fcb,J FD V.e.length fcd] 48
  rw[hw1,show (w.alloc (K #[O I S.c.c0,O I S.c.c1,O I S.c.c2,O I S.c.c3,J EA S.c.l.length eca,J EC S.e.length ecc,O I T.c.c0,O I T.c.c1,O I T.c.c2,O I T.c.c3,J EB T.c.l.length ecb,J ED T.e.length ecd] 48)).heap.size=w.heap.size+1 by simp] at this
  exact this
 have ln:∀ {t:Tab},am t=0→t.c.l.length≤maxLen∧t.e.length≤maxLen:=fun {t} ht=>by
  have h1:=(aY (ae ht).1).2.1
  have h2:=(ae ht).2.1
  unfold maxLen
  omega
 have hA:Hid (∀W,Gr w1 W→Calls Z 15 #[X (T6 S EA eca EC ecc).toArray,X (T6 U FA fca FC fcc).toArray] W fun e w'=>e= H (F (fj S U))∧Gr W w'):=fun W hW=>kK S U EA EC FA FC eca ecc fca fcc W (ln hS).1 (ln hU).1 (ln hS).2 (ln hU).2 (f1.row.gr (hg1.trans hW)) (g1.row.gr (hg1.trans hW)) (f1.cel.gr (hg1.trans hW)) (g1.cel.gr (hg1.trans hW))
 have hB:Hid (∀W,Gr w1 W→Calls Z 15 #[X (T6 T EB ecb ED ecd).toArray,X (T6 V FB fcb FD fcd).toArray] W fun e w'=>e= H (F (fj T V))∧Gr W w'):=fun W hW=>kK T V EB ED FB FD ecb ecd fcb fcd W (ln hT).1 (ln hV).1 (ln hT).2 (ln hV).2 (f2.row.gr (hg1.trans hW)) (g2.row.gr (hg1.trans hW)) (f2.cel.gr (hg1.trans hW)) (g2.cel.gr (hg1.trans hW))
 have hgH:Hid (Gr w w1∧Cls w1 w.heap.size (T2 S EA eca EC ecc T EB ecb ED ecd)∧Cls w1 (w.heap.size+1) (T2 U FA fca FC fcc V FB fcb FD fcd)):=⟨hg1,hC1,hC2⟩
 obtain ⟨x,hx⟩:∃x,fj S U=x:=⟨_,rfl⟩
 obtain ⟨y,hy⟩:∃y,fj T V=y:=⟨_,rfl⟩
 rw[hx] at hA
 rw[hy] at hB
 rw[hx,hy]
 clear f1 f2 g1 g2 hg1 ln hS hT hU hV hx hy
 have a0:=hC1.cell (j:=0) rfl
 have b0:=hC2.cell (j:=0) rfl
 have a1:=hC1.cell (j:=1) rfl
 have b1:=hC2.cell (j:=1) rfl
 have a2:=hC1.cell (j:=2) rfl
 have b2:=hC2.cell (j:=2) rfl
 have a3:=hC1.cell (j:=3) rfl
 have b3:=hC2.cell (j:=3) rfl
 have a4:=hC1.cell (j:=4) rfl
 have b4:=hC2.cell (j:=4) rfl
 have a5:=hC1.cell (j:=5) rfl
 have b5:=hC2.cell (j:=5) rfl
 go_enter Tryz.func20,Tryz.ntmps20
 go_wp2_with fail
 try rw[hw1]
 clear hw1 hC1 hC2 a0 b0 a1 b1 a2 b2 a3 b3 a4 b4 a5 b5
 refine cM (hA.out _ (gR _)) ?_
 rintro e w2 ⟨rfl,h2⟩
 have h2H:Hid (Gr w1 w2):=h2
 cases x with
 | false =>
  clear h2
  go_wp2
  go_ret
  exact ⟨rfl,hgH.out.1.trans h2H.out⟩
 | true =>
  have a6:=(hgH.out.2.1.gr h2).cell (j:=6) rfl
  have b6:=(hgH.out.2.2.gr h2).cell (j:=6) rfl
  have a7:=(hgH.out.2.1.gr h2).cell (j:=7) rfl
  have b7:=(hgH.out.2.2.gr h2).cell (j:=7) rfl
  have a8:=(hgH.out.2.1.gr h2).cell (j:=8) rfl
  have b8:=(hgH.out.2.2.gr h2).cell (j:=8) rfl
  have a9:=(hgH.out.2.1.gr h2).cell (j:=9) rfl
  have b9:=(hgH.out.2.2.gr h2).cell (j:=9) rfl
  have a10:=(hgH.out.2.1.gr h2).cell (j:=10) rfl
  have b10:=(hgH.out.2.2.gr h2).cell (j:=10) rfl
  have a11:=(hgH.out.2.1.gr h2).cell (j:=11) rfl
  have b11:=(hgH.out.2.2.gr h2).cell (j:=11) rfl
  clear h2
  go_wp2_with fail
  refine cM (hB.out _ h2H.out) ?_
  rintro e w3 ⟨rfl,h3⟩
  have h3H:Hid (Gr w w3):=(hgH.out.1.trans h2H.out).trans h3
  clear h3 a6 b6 a7 b7 a8 b8 a9 b9 a10 b10 a11 b11
  go_wp2
  go_ret
  exact ⟨rfl,h3H.out⟩
end Go.Proofs.YtkefkplnamkicaaGreatDoor
