/-
  (*Net).Table, (*Net).Packets.
  (*Net).tellAll, (*Net).Meet: each node tells each other one all that it has.
  viewtop.played, tables, same.
  What two readings of one text have in common; the queries of four nodes that were read out of one text.
  The queries that TopViews keeps of each node, in a map: where they lie, and what a call on the net leaves of them.
  (*Net).View: a view of a node.
-/
import Derived.Test.YtfedpiamlpflhaaGreatDoorM40
set_option maxRecDepth 100000
set_option maxHeartbeats 8000000
open Go.Ending renaming returned → J
open Go.IntKind renaming i64 → I
open Go.Proofs.Tryz renaming prog → O
open Go.Value renaming slice → V, pointer → Z, tuple → H, agg → Y
namespace Go.Proofs.YtfedpiamlpflhaaGreatDoor
open Go.RowKit Go.Sort

theorem yQ (a b c d e f g h i j k l:Value) (w:World):(Instr.field 103 (Y #[a,b,c,d,e,f,g,h,i,j,k,l]) 0).run O w= .ok (Y #[a,b,c,d,e,f,g,h,i,j,k,l]) w:=by kernel_rfl
def TbV (n:Nat) (w:World) (v:Value) (t:Tab):Prop:=∃(A:Option Addr) (ca:Nat) (C:Option Addr) (cc:Nat),v= Y (T6 t A ca C cc).toArray∧TbW n w t A ca C cc
theorem rQ {w:World} {B:Nat} {P:Nat→Prop} {M:NetM} {Q:Nat→List (List Stp)} (h:NetP w B P M Q) (i:Nat) (hi:i<4) :
  Calls O 17 #[Z (some ⟨B,0,none⟩),.int I i,.int I 0] w fun e w'=>∃v,e= J (H #[v,.int I 0])∧TbV w.heap.size w' v (M.s i)∧Below w.heap.size w w':=by
 obtain ⟨w1,hw1⟩:∃W,w.alloc (.cells #[.int I 0,.int I 0,.int I 0,.int I 0,V none 0 0,V none 0 0] 43)=W:=⟨_,rfl⟩
 have hg1:Gr w w1:=by rw[←hw1];exact (gR w).alloc _
 have hC1:Hid (Cls w1 w.heap.size Z6):=by show Cls _ _ _;rw[←hw1];exact Cls.new w _ _
 have hi4:(i:Int)<4:=by omega
 have hN:Hid (∀W,Calls O 31 #[.int I i] W fun e w'=>e= J (.bool true)∧w'=W):=cD i hi
 obtain ⟨S,hS⟩:∃S,M.s i=S:=⟨_,rfl⟩
 obtain ⟨T,hT⟩:∃T,M.t i=T:=⟨_,rfl⟩
 have hWh:Hid (Calls O 37 #[Z (some ⟨B,i*38,none⟩)] w1 fun e w'=>∃(EA:Option Addr) (eca:Nat) (EC:Option Addr) (ecc:Nat) (EB:Option Addr) (ecb:Nat) (ED:Option Addr) (ecd:Nat),e= J (Y (T2 S EA eca EC ecc T EB ecb ED ecd).toArray)∧TbW w1.heap.size w' S EA eca EC ecc∧TbW w1.heap.size w' T EB ecb ED ecd∧Below w1.heap.size w1 w'):=by
  have hw:=il ((h.below hg1.below).nd i hi)
  rw[hS,hT] at hw
  refine hw.mono ?_
  rintro e w' ⟨EA,eca,EC,ecc,EB,ecb,ED,ecd,rfl,f1,f2,f3⟩
  exact ⟨EA,eca,EC,ecc,EB,ecb,ED,ecd,rfl,fg f1.1 f1.2,fg f2.1 f2.2,f3⟩
 rw[hS]
 have hgH:Hid (Gr w w1):=hg1
 clear h hi hg1 hS hT
 go_enter Tryz.func17,Tryz.ntmps17
 go_wp2_with fail
 try rw[hw1]
 refine cM (hN.out _) ?_
 rintro e w0 ⟨rfl,h0⟩
 have h0:=h0.symm
 subst h0
 go_wp2_with fail
 try rw[hw1]
 clear hw1
 refine cM (show Calls _ _ _ _ _ from hWh.out) ?_
 rintro e w2 ⟨EA,eca,EC,ecc,EB,ecb,ED,ecd,rfl,f1,f2,f3⟩
 have hF:Hid (TbW w1.heap.size w2 S EA eca EC ecc∧TbW w1.heap.size w2 T EB ecb ED ecd∧Below w1.heap.size w1 w2∧Cls w2 w.heap.size Z6):=⟨f1,f2,f3,hC1.out.below f3⟩
 clear f1 f2 f3 hWh
 have hx:=oW (.int I S.c.c0) (.int I S.c.c1) (.int I S.c.c2) (.int I S.c.c3) (V EA S.c.l.length eca) (V EC S.e.length ecc) (.int I T.c.c0) (.int I T.c.c1) (.int I T.c.c2) (.int I T.c.c3) (V EB T.c.l.length ecb) (V ED T.e.length ecd)
 have hy:=yQ (.int I S.c.c0) (.int I S.c.c1) (.int I S.c.c2) (.int I S.c.c3) (V EA S.c.l.length eca) (V EC S.e.length ecc) (.int I T.c.c0) (.int I T.c.c1) (.int I T.c.c2) (.int I T.c.c3) (V EB T.c.l.length ecb) (V ED T.e.length ecd)
 obtain ⟨p0,p1,p2,p3,p4,p5⟩:=io hF.out.2.2.2
 obtain ⟨z0,z1,z2,z3,z4,z5⟩:=qk hF.out.2.2.2
 go_wp2
 have hlt:w.heap.size<w1.heap.size:=hC1.out.lt
 have hb:Below w.heap.size w w2:=hgH.out.below.trans (hF.out.2.2.1.mono hgH.out.size)
 have hAg:Agr (fun b=>w1.heap.size≤b) w2 ((((((w2.setCell ⟨w.heap.size,0,none⟩ (.int I S.c.c0)).setCell ⟨w.heap.size,1,none⟩ (.int I S.c.c1)).setCell ⟨w.heap.size,2,none⟩ (.int I S.c.c2)).setCell ⟨w.heap.size,3,none⟩ (.int I S.c.c3)).setCell ⟨w.heap.size,4,none⟩ (V EA S.c.l.length eca)).setCell ⟨w.heap.size,5,none⟩ (V EC S.e.length ecc)):=((((((aS _ fun h=>by omega).trans (aS _ fun h=>by omega)).trans (aS _ fun h=>by omega)).trans (aS _ fun h=>by omega)).trans (aS _ fun h=>by omega)).trans (aS _ fun h=>by omega))
 have hfin:Hid (TbW w.heap.size ((((((w2.setCell ⟨w.heap.size,0,none⟩ (.int I S.c.c0)).setCell ⟨w.heap.size,1,none⟩ (.int I S.c.c1)).setCell ⟨w.heap.size,2,none⟩ (.int I S.c.c2)).setCell ⟨w.heap.size,3,none⟩ (.int I S.c.c3)).setCell ⟨w.heap.size,4,none⟩ (V EA S.c.l.length eca)).setCell ⟨w.heap.size,5,none⟩ (V EC S.e.length ecc)) S EA eca EC ecc∧Below w.heap.size w ((((((w2.setCell ⟨w.heap.size,0,none⟩ (.int I S.c.c0)).setCell ⟨w.heap.size,1,none⟩ (.int I S.c.c1)).setCell ⟨w.heap.size,2,none⟩ (.int I S.c.c2)).setCell ⟨w.heap.size,3,none⟩ (.int I S.c.c3)).setCell ⟨w.heap.size,4,none⟩ (V EA S.c.l.length eca)).setCell ⟨w.heap.size,5,none⟩ (V EC S.e.length ecc))):=⟨(hF.out.1.agr hAg).mono (by omega),((((((hb.setCell (nR _) _).setCell (nR _) _).setCell (nR _) _).setCell (nR _) _).setCell (nR _) _).setCell (nR _) _)⟩
 clear hlt hb hAg
 exact bodyPost_ret (v:= H #[Y (T6 S EA eca EC ecc).toArray,.int I 0]) (by simp[results,Tryz.results17,go_sem,p0,p1,p2,p3,p4,p5]) rfl ⟨_,rfl,⟨EA,eca,EC,ecc,rfl,hfin.out.1⟩,hfin.out.2⟩
theorem xA {w:World} {B:Nat} {P:Nat→Prop} {M:NetM} {Q:Nat→List (List Stp)} (h:NetP w B P M Q) (i:Nat) (hi:i<4) :
  Calls O 17 #[Z (some ⟨B,0,none⟩),.int I i,.int I 1] w fun e w'=>∃v,e= J (H #[v,.int I 0])∧TbV w.heap.size w' v (M.t i)∧Below w.heap.size w w':=by
 obtain ⟨w1,hw1⟩:∃W,w.alloc (.cells #[.int I 0,.int I 0,.int I 0,.int I 0,V none 0 0,V none 0 0] 43)=W:=⟨_,rfl⟩
 have hg1:Gr w w1:=by rw[←hw1];exact (gR w).alloc _
 have hC1:Hid (Cls w1 w.heap.size Z6):=by show Cls _ _ _;rw[←hw1];exact Cls.new w _ _
 have hi4:(i:Int)<4:=by omega
 have hN:Hid (∀W,Calls O 31 #[.int I i] W fun e w'=>e= J (.bool true)∧w'=W):=cD i hi
 obtain ⟨S,hS⟩:∃S,M.s i=S:=⟨_,rfl⟩
 obtain ⟨T,hT⟩:∃T,M.t i=T:=⟨_,rfl⟩
 have hWh:Hid (Calls O 37 #[Z (some ⟨B,i*38,none⟩)] w1 fun e w'=>∃(EA:Option Addr) (eca:Nat) (EC:Option Addr) (ecc:Nat) (EB:Option Addr) (ecb:Nat) (ED:Option Addr) (ecd:Nat),e= J (Y (T2 S EA eca EC ecc T EB ecb ED ecd).toArray)∧TbW w1.heap.size w' S EA eca EC ecc∧TbW w1.heap.size w' T EB ecb ED ecd∧Below w1.heap.size w1 w'):=by
  have hw:=il ((h.below hg1.below).nd i hi)
  rw[hS,hT] at hw
  refine hw.mono ?_
  rintro e w' ⟨EA,eca,EC,ecc,EB,ecb,ED,ecd,rfl,f1,f2,f3⟩
  exact ⟨EA,eca,EC,ecc,EB,ecb,ED,ecd,rfl,fg f1.1 f1.2,fg f2.1 f2.2,f3⟩
 rw[hT]
 have hgH:Hid (Gr w w1):=hg1
 clear h hi hg1 hS hT
 go_enter Tryz.func17,Tryz.ntmps17
 go_wp2_with fail
 try rw[hw1]
 refine cM (hN.out _) ?_
 rintro e w0 ⟨rfl,h0⟩
 have h0:=h0.symm
 subst h0
 go_wp2_with fail
 try rw[hw1]
 clear hw1
 refine cM (show Calls _ _ _ _ _ from hWh.out) ?_
 rintro e w2 ⟨EA,eca,EC,ecc,EB,ecb,ED,ecd,rfl,f1,f2,f3⟩
 have hF:Hid (TbW w1.heap.size w2 S EA eca EC ecc∧TbW w1.heap.size w2 T EB ecb ED ecd∧Below w1.heap.size w1 w2∧Cls w2 w.heap.size Z6):=⟨f1,f2,f3,hC1.out.below f3⟩
 clear f1 f2 f3 hWh
 have hx:=oX (.int I S.c.c0) (.int I S.c.c1) (.int I S.c.c2) (.int I S.c.c3) (V EA S.c.l.length eca) (V EC S.e.length ecc) (.int I T.c.c0) (.int I T.c.c1) (.int I T.c.c2) (.int I T.c.c3) (V EB T.c.l.length ecb) (V ED T.e.length ecd)
 have hy:=yQ (.int I S.c.c0) (.int I S.c.c1) (.int I S.c.c2) (.int I S.c.c3) (V EA S.c.l.length eca) (V EC S.e.length ecc) (.int I T.c.c0) (.int I T.c.c1) (.int I T.c.c2) (.int I T.c.c3) (V EB T.c.l.length ecb) (V ED T.e.length ecd)
 obtain ⟨p0,p1,p2,p3,p4,p5⟩:=io hF.out.2.2.2
 obtain ⟨z0,z1,z2,z3,z4,z5⟩:=qk hF.out.2.2.2
 go_wp2
 have hlt:w.heap.size<w1.heap.size:=hC1.out.lt
 have hb:Below w.heap.size w w2:=hgH.out.below.trans (hF.out.2.2.1.mono hgH.out.size)
 have hAg:Agr (fun b=>w1.heap.size≤b) w2 ((((((w2.setCell ⟨w.heap.size,0,none⟩ (.int I T.c.c0)).setCell ⟨w.heap.size,1,none⟩ (.int I T.c.c1)).setCell ⟨w.heap.size,2,none⟩ (.int I T.c.c2)).setCell ⟨w.heap.size,3,none⟩ (.int I T.c.c3)).setCell ⟨w.heap.size,4,none⟩ (V EB T.c.l.length ecb)).setCell ⟨w.heap.size,5,none⟩ (V ED T.e.length ecd)):=((((((aS _ fun h=>by omega).trans (aS _ fun h=>by omega)).trans (aS _ fun h=>by omega)).trans (aS _ fun h=>by omega)).trans (aS _ fun h=>by omega)).trans (aS _ fun h=>by omega))
 have hfin:Hid (TbW w.heap.size ((((((w2.setCell ⟨w.heap.size,0,none⟩ (.int I T.c.c0)).setCell ⟨w.heap.size,1,none⟩ (.int I T.c.c1)).setCell ⟨w.heap.size,2,none⟩ (.int I T.c.c2)).setCell ⟨w.heap.size,3,none⟩ (.int I T.c.c3)).setCell ⟨w.heap.size,4,none⟩ (V EB T.c.l.length ecb)).setCell ⟨w.heap.size,5,none⟩ (V ED T.e.length ecd)) T EB ecb ED ecd∧Below w.heap.size w ((((((w2.setCell ⟨w.heap.size,0,none⟩ (.int I T.c.c0)).setCell ⟨w.heap.size,1,none⟩ (.int I T.c.c1)).setCell ⟨w.heap.size,2,none⟩ (.int I T.c.c2)).setCell ⟨w.heap.size,3,none⟩ (.int I T.c.c3)).setCell ⟨w.heap.size,4,none⟩ (V EB T.c.l.length ecb)).setCell ⟨w.heap.size,5,none⟩ (V ED T.e.length ecd))):=⟨(hF.out.2.1.agr hAg).mono (by omega),((((((hb.setCell (nR _) _).setCell (nR _) _).setCell (nR _) _).setCell (nR _) _).setCell (nR _) _).setCell (nR _) _)⟩
 clear hlt hb hAg
 exact bodyPost_ret (v:= H #[Y (T6 T EB ecb ED ecd).toArray,.int I 0]) (by simp[results,Tryz.results17,go_sem,p0,p1,p2,p3,p4,p5]) rfl ⟨_,rfl,⟨EB,ecb,ED,ecd,rfl,hfin.out.1⟩,hfin.out.2⟩

theorem TbN.len {w:World} {N o:Nat} {P:Nat→Prop} {t:Tab} (h:TbN w N o P t):t.c.l.length≤maxLen∧t.e.length≤maxLen:=by
 obtain ⟨A,ca,D,cd,_,h2⟩:=h
 exact h2.len
def mf (a b:Nat):List (Nat×Nat):=(List.range b).filterMap fun j=>if j=a then none else some (a,j)
def pS (a:Nat):List (Nat×Nat):=(List.range a).flatMap fun i=>mf i 4
theorem ng (a b:Nat):mf a (b+1)=if b=a then mf a b else mf a b++[(a,b)]:=by
 unfold mf
 rw[List.range_succ,List.filterMap_append]
 by_cases h:b=a
 ·simp[h]
 ·simp[h]
theorem rY (a:Nat):pS (a+1)=pS a++mf a 4:=by
 unfold pS
 rw[List.range_succ,List.flatMap_append]
 simp
theorem kh {w:World} {B:Nat} {P:Nat→Prop} {M:NetM} {Q:Nat→List (List Stp)} {c:Nat} (h:NetP w B P M Q) (hI:NInv c M) :
  Calls O 36 #[Z (some ⟨B,0,none⟩)] w fun e w'=>e= J (.int I 0)∧aX w B P w' (cG.foldl cI M) Q:=by
 have mixed:Tryz.prog.follows .mixedOrders=true:=by kernel_rfl
 have hH:Hid (aX w B P w M Q∧NInv c M):=⟨aX.same h (bR _ _),hI⟩
 clear h hI
 go_enter Tryz.func36,Tryz.ntmps36
 go_wp2
 go_loopw [6] (fun v6 wr=>∃a:Nat,a≤4∧v6= .int I a∧Hid (aX w B P wr ((pS a).foldl cI M) Q)) (fun v6 _=>4-(intOf v6).toNat)
 case atStart=>exact ⟨0,by omega,rfl,hH.out.1⟩
 case round =>
  obtain ⟨a,ha,rfl,hS⟩:=hrel
  by_cases ha4:a<4
  rotate_left
  ·have hz:¬(a:Int)<4:=by omega
   obtain rfl:a=4:=by omega
   go_wp2
   go_ret
   exact ⟨rfl,hS.out⟩
  have haz:(a:Int)<4:=by omega
  go_wp2
  go_loopw [9] (fun v9 wx=>∃b:Nat,b≤4∧v9= .int I b∧Hid (aX w B P wx ((pS a++mf a b).foldl cI M) Q)) (fun v9 _=>4-(intOf v9).toNat)
  case atStart=>exact ⟨0,by omega,rfl,by show aX _ _ _ _ _ _;rw[show mf a 0=[] from rfl,List.append_nil];exact hS.out⟩
  case round =>
   obtain ⟨b,hb,rfl,hT⟩:=hrel
   by_cases hb4:b<4
   rotate_left
   ·have hz:¬(b:Int)<4:=by omega
    obtain rfl:b=4:=by omega
    go_wp2
    go_roundw
    case rel=>exact ⟨a+1,by omega,by go_num,by show aX _ _ _ _ _ _;rw[rY];exact hT.out⟩
    case measure=>simp[intOf];omega
   have hbz:(b:Int)<4:=by omega
   by_cases hab:b=a
   ·subst hab
    have hab':((b:Int)==(b:Int))=true:=by simp
    go_wp2
    go_roundw
    case rel=>exact ⟨b+1,by omega,by go_num,by show aX _ _ _ _ _ _;rw[ng,if_pos rfl];exact hT.out⟩
    case measure=>simp[intOf];omega
   have hab':((a:Int)==(b:Int))=false:=by simp;omega
   obtain ⟨N,hN⟩:∃N,(pS a++mf a b).foldl cI M=N:=⟨_,rfl⟩
   rw[hN] at hT
   have hIn:NInv c N:=by rw[←hN];exact (NInv.tells _ hH.out.2).1
   have hNx:Hid ((pS a++mf a (b+1)).foldl cI M=cI N (a,b)):=by
    show _=_
    rw[ng,if_neg hab,←List.append_assoc,List.foldl_append,hN]
    rfl
   obtain ⟨S,hSe⟩:∃S,N.s a=S:=⟨_,rfl⟩
   obtain ⟨T,hTe⟩:∃T,N.t a=T:=⟨_,rfl⟩
   have hWh:Hid (∀W,Gr wr W→Calls O 37 #[Z (some ⟨B,a*38,none⟩)] W fun e w'=>∃(EA:Option Addr) (eca:Nat) (EC:Option Addr) (ecc:Nat) (EB:Option Addr) (ecb:Nat) (ED:Option Addr) (ecd:Nat),e= J (Y (T2 S EA eca EC ecc T EB ecb ED ecd).toArray)∧TbW W.heap.size w' S EA eca EC ecc∧TbW W.heap.size w' T EB ecb ED ecd∧Below W.heap.size W w'):=fun W hW=>by
    obtain ⟨⟨P',h1,_⟩,_⟩:=hT.out
    have hw:=il ((h1.below hW.below).nd a ha4)
    rw[hSe,hTe] at hw
    refine hw.mono ?_
    rintro e w' ⟨EA,eca,EC,ecc,EB,ecb,ED,ecd,rfl,f1,f2,f3⟩
    exact ⟨EA,eca,EC,ecc,EB,ecb,ED,ecd,rfl,fg f1.1 f1.2,fg f2.1 f2.2,f3⟩
   have hTk:Hid (∀W n EA eca EC ecc EB ecb ED ecd,Below wr.heap.size wr W→TbW n W S EA eca EC ecc→TbW n W T EB ecb ED ecd→Calls O 41 #[Z (some ⟨B,b*38,none⟩),Y (T2 S EA eca EC ecc T EB ecb ED ecd).toArray] W fun e w'=>e= J (.int I 0)∧aX w B P w' (cI N (a,b)) Q):=fun W n EA eca EC ecc EB ecb ED ecd hW r1 r2=>by
    obtain ⟨_,h0,_⟩:=hIn.tell (a,b)
    obtain ⟨⟨P',h1,h2⟩,h3⟩:=hT.out
    have hn:=h1.below hW
    have l1:=(h1.nd a ha4).ts.len
    have l2:=(h1.nd a ha4).tt.len
    rw[hSe] at l1
    rw[hTe] at l2
    have ht:=pK (hn.nd b hb4) S T EA EB EC ED eca ecb ecc ecd r1.row r1.cel r2.row r2.cel l1.1 l1.2 l2.1 l2.2 r1.nr r2.nr
    rw[←hSe,←hTe,show tkE (N.s b) (N.t b) (N.s a) (N.t a)=0 from h0,hSe,hTe] at ht
    refine ht.mono ?_
    rintro e w' ⟨rfl,f1,f2⟩
    have hc:=hn.call hb4 f1 f2 (by omega)
    rw[ij] at hc
    obtain ⟨⟨P2,k1,k2⟩,k3⟩:=hc
    rw[←hSe,←hTe] at k1
    exact ⟨rfl,⟨P2,k1,fun b hb=>(k2 b hb).elim (h2 b) fun h=>oR (nT h3.size (nT hW.size h))⟩,(h3.trans (Wr.of hW h1.lt)).trans k3⟩
   have hTH:Hid (aX w B P wr N Q):=hT.out
   clear hT hIn hN hSe hTe hS
   go_wp2
   go_region_with (first|(go_at_call 37;(with_reducible refine cM (hWh.out _ (gR wr).drew) ?_);rintro e w2 ⟨EA,eca,EC,ecc,EB,ecb,ED,ecd,rfl,f1,f2,f3⟩;have hF:Hid (TbW wr.drew.heap.size w2 S EA eca EC ecc∧TbW wr.drew.heap.size w2 T EB ecb ED ecd∧Below wr.heap.size wr w2):=⟨f1,f2,(gR wr).drew.below.trans f3⟩;clear f1 f2 f3)|(go_at_call 41;(with_reducible refine cM (hTk.out _ _ _ _ _ _ _ _ _ _ hF.out.2.2 hF.out.1 hF.out.2.1) ?_);rintro e w3 ⟨rfl,f1⟩;have hG:Hid (aX w B P w3 (cI N (a,b)) Q):=f1;clear f1))
   all_goals
    go_wp2
    go_roundw
    case rel=>exact ⟨b+1,by omega,by go_num,by show aX _ _ _ _ _ _;rw[hNx.out];exact hG.out⟩
    case measure=>simp[intOf];omega
theorem uM {w:World} {B:Nat} {P:Nat→Prop} {M:NetM} {Q:Nat→List (List Stp)} {c:Nat} (h:NetP w B P M Q) (hI:NInv c M) :
  Calls O 14 #[Z (some ⟨B,0,none⟩)] w fun e w'=>e= J (.int I 0)∧aX w B P w' (di M) Q:=by
 have hT1:Hid (Calls O 36 #[Z (some ⟨B,0,none⟩)] w fun e w'=>e= J (.int I 0)∧aX w B P w' (cG.foldl cI M) Q):=kh h hI
 have hT2:Hid (∀W,aX w B P W (cG.foldl cI M) Q→Calls O 36 #[Z (some ⟨B,0,none⟩)] W fun e w'=>e= J (.int I 0)∧aX w B P w' (di M) Q):=fun W hW=>by
  obtain ⟨⟨P',h1,h2⟩,h3⟩:=hW
  refine (kh h1 (NInv.tells cG hI).1).mono ?_
  rintro e w' ⟨rfl,f1⟩
  refine ⟨rfl,?_⟩
  have he:di M=cG.foldl cI (cG.foldl cI M):=by unfold di;rw[List.foldl_append]
  rw[he]
  obtain ⟨⟨P2,k1,k2⟩,k3⟩:=f1
  exact ⟨⟨P2,k1,fun b hb=>(k2 b hb).elim (h2 b) fun h=>oR (nT h3.size h)⟩,h3.trans k3⟩
 clear h hI
 go_enter Tryz.func14,Tryz.ntmps14
 go_wp2
 refine wp_loop_rounds 3 ?_
 rw[rounds_succ]
 go_wp2_with fail
 refine cM (show Calls _ _ _ _ _ from hT1.out) ?_
 rintro e w1 ⟨rfl,f1⟩
 have hF:Hid _:=f1
 clear f1 hT1
 go_wp2
 rw[rounds_succ]
 go_wp2_with fail
 refine cM (hT2.out w1 hF.out) ?_
 rintro e w2 ⟨rfl,f1⟩
 have hG:Hid _:=f1
 clear f1 hT2
 go_wp2
 rw[rounds_succ]
 go_wp2
 go_ret
 exact ⟨rfl,hG.out⟩

def dX (w wr:World) (B:Nat) (M:NetM) (Q:Nat→List (List Stp)):Prop:=(∃P,NetP wr B P M Q∧∀b,P b→w.heap.size≤b)∧Below w.heap.size w wr∧w.heap.size≤B
section
variable {w wr w':World} {B:Nat} {M M':NetM} {Q Q':Nat→List (List Stp)}
theorem dX.below (h:dX w wr B M Q) (k:Below wr.heap.size wr w'):dX w w' B M Q:=by
 obtain ⟨⟨P,h1,h2⟩,h3,h4⟩:=h
 exact ⟨⟨P,h1.below k,h2⟩,h3.trans (k.mono h3.size),h4⟩
theorem Wr.after {lo hi:Nat} (h:Below w.heap.size w wr) (k:Wr B lo hi wr w') (hB:w.heap.size≤B):Below w.heap.size w w':=⟨k.os.trans h.os,k.tape.trans h.tape,k.output.trans h.output,nT h.size k.size,fun g hg=>(k.oth g (nL hg h.size) (by omega)).trans (h.block g hg)⟩
theorem dX.step (h:dX w wr B M Q) (k:∀P,NetP wr B P M Q→aX wr B P w' M' Q'):dX w w' B M' Q'∧Wr B 0 153 wr w':=by
 obtain ⟨⟨P,h1,h2⟩,h3,h4⟩:=h
 obtain ⟨⟨P',k1,k2⟩,k3⟩:=k P h1
 exact ⟨⟨⟨P',k1,fun b hb=>(k2 b hb).elim (h2 b) fun h=>nT h3.size h⟩,Wr.after h3 k3 h4,h4⟩,k3⟩
theorem dX.new (h:Below w.heap.size w wr) (k:NetP w' wr.heap.size (fun _=>False) dn (fun _=>[])) (k2:Below wr.heap.size wr w'):dX w w' wr.heap.size dn (fun _=>[]):=⟨⟨_,k,fun _ h=>h.elim⟩,h.trans (k2.mono h.size),h.size⟩
end
def fu (y:Hap×List UInt8):List Value:=[.int I y.1.k,.int I y.1.a,.int I y.1.b,.int I y.1.n,.int I y.1.e1,.int I y.1.e2,.int I y.1.e3,.int I y.1.e4,.int I y.1.e5,.string ⟨y.2.toArray⟩]
theorem uh (y:Hap×List UInt8):(fu y).length=10:=rfl
theorem doL {w wr:World} {B:Nat} {M:NetM} {Q:Nat→List (List Stp)} (h:dX w wr B M Q) (hr:Reads w) (y:Hap×List UInt8) (hx:y.2.length≤maxLen) :
  Calls O 7 #[Z (some ⟨B,0,none⟩),Y #[.int I y.1.k,.int I y.1.a,.int I y.1.b,.int I y.1.n,.int I y.1.e1,.int I y.1.e2,.int I y.1.e3,.int I y.1.e4,.int I y.1.e5,.string ⟨y.2.toArray⟩]] wr fun e w'=>∃er Q',e= J (.int I er)∧pQ y.2 M y.1 Q er Q'∧dX w w' B (bE M y.1) Q'∧Wr B 0 153 wr w':=by
 have hL:=h
 obtain ⟨⟨P,h1,h2⟩,h3,h4⟩:=h
 refine (rp h1 (hr.below h3) y.2 hx y.1).mono ?_
 rintro e w' ⟨er,Q',rfl,f1,f2⟩
 obtain ⟨⟨P',k1,k2⟩,k3⟩:=f2
 exact ⟨er,Q',rfl,f1,⟨⟨P',k1,fun b hb=>(k2 b hb).elim (h2 b) fun h=>nT h3.size h⟩,Wr.after h3 k3 h4,h4⟩,k3⟩
theorem xE {w wr:World} {B:Nat} {M:NetM} {Q:Nat→List (List Stp)} {c:Nat} (h:dX w wr B M Q) (hI:NInv c M) :
  Calls O 14 #[Z (some ⟨B,0,none⟩)] wr fun e w'=>e= J (.int I 0)∧dX w w' B (di M) Q∧Wr B 0 153 wr w':=by
 obtain ⟨⟨P,h1,h2⟩,h3,h4⟩:=h
 refine (uM h1 hI).mono ?_
 rintro e w' ⟨rfl,f2⟩
 obtain ⟨⟨P',k1,k2⟩,k3⟩:=f2
 exact ⟨rfl,⟨⟨P',k1,fun b hb=>(k2 b hb).elim (h2 b) fun h=>nT h3.size h⟩,Wr.after h3 k3 h4,h4⟩,k3⟩

theorem qN {x:List UInt8} {q r:List Stp} {e f:Int} (h:fk x q e) (k:fk x r f) (e0:e=0):f=0∧q.map bare=r.map bare:=by
 rcases h with ⟨_,h1,⟨q0,h2,h3⟩,h4⟩|⟨h,_⟩
 ·rcases k with ⟨k0,_,⟨r0,k2,k3⟩,_⟩|⟨_,_,k1|k1|⟨r0,r1,k2,k3,k4⟩⟩
  ·rw[h2] at k2
   obtain rfl:=sI k2
   exact ⟨k0,h3.trans k3.symm⟩
  ·omega
  ·rw[h2] at k1;cases k1
  ·rw[h2] at k2
   obtain rfl:=sI k2
   have:bM r1=bM q:=by
    rw[←jD r1,←jD q]
    exact congrArg bM (k3.trans h3.symm)
   exact absurd (this.trans h4) k4
 ·exact absurd e0 h
section
open Go.Maps

structure Qm where
 q:List Stp
 A:Option Addr
 c:Nat
def gk (p:Qm):List Value:=[V p.A p.q.length p.c]
theorem fw (p:Qm):(gk p).length=1:=rfl
theorem so (p:Qm):∀u∈gk p,u.oneCell'=true:=by
 intro u hu
 rw[List.mem_singleton.1 hu]
 rfl
theorem yo:(Tryz.prog.info? 33).map (fun i=>(i.zero,i.size,i.bytes))=some (some (V none 0 0),1,24):=by kernel_rfl
def rk (v:Value):Option (DataW Value×List MemPlace):=some (.held v,[])
def MqK (G:Nat) (vs:Nat→Value) (b:Nat):Prop:=b=G∨∃i,i<4∧(vs i).ownBlock=some b
structure Mqs (w wr:World) (B G n:Nat) (M:NetM) (Q:Nat→List (List Stp)) (vs:Nat→Value) (ls:Nat→List Qm):Prop where
 net:∃P,NetP wr B P M Q∧∀b,P b→¬MqK G vs b
 map:∃D:DataW Value,wr.ownsMap O 3 rk G n D∧∀i:Nat,i<4→D.atKey (.int I i) (.held (V none 0 0))= .held (vs i)
 own:∀i,i<4→ag gk 1 33 wr w.heap.size (vs i) (ls i)
 apart:∀i j,i<4→j<4→i≠j→∀b,(vs i).ownBlock=some b→(vs j).ownBlock≠some b
 stp:∀i,i<4→∀p∈ls i,StP (fun b=>¬MqK G vs b∧b≠B) wr p.A p.q∧p.q.length≤1024
 out:¬MqK G vs B
 bel:Below w.heap.size w wr
 hB:w.heap.size≤B
 hG:w.heap.size≤G
section
variable {w wr w':World} {B G n:Nat} {M:NetM} {Q:Nat→List (List Stp)} {vs:Nat→Value} {ls:Nat→List Qm}
theorem MqK.lt (h:Mqs w wr B G n M Q vs ls) {b:Nat} (hb:MqK G vs b):b<wr.heap.size:=by
 rcases hb with rfl|⟨i,hi,hb⟩
 ·obtain ⟨D,h1,_⟩:=h.map
  exact h1.lt
 ·exact (World.ownsRow.lt (h.own i hi) b hb).2
theorem Mqs.ne (h:Mqs w wr B G n M Q vs ls) {i:Nat} (hi:i<4):some G≠(vs i).ownBlock:=by
 intro e
 obtain ⟨D,⟨es,clock,hb,_⟩,_⟩:=h.map
 rcases (h.own i hi).2 with ⟨hv,_⟩|⟨g,cap,cur,hv,_,hg,_⟩
 ·rw[hv] at e;cases e
 ·rw[hv] at e
  obtain rfl:G=g:=by simpa[Value.ownBlock] using e
  rw[hb] at hg
  cases hg
theorem Mqs.did (h:Mqs w wr B G n M Q vs ls) {P:Nat→Prop} (hk:∀b,P b→¬MqK G vs b) {M':NetM} {Q':Nat→List (List Stp)} (k:aX wr B P w' M' Q'):Mqs w w' B G n M' Q' vs ls:=by
 obtain ⟨⟨P',k1,k2⟩,k3⟩:=k
 obtain ⟨D,d1,d2⟩:=h.map
 have hlt:∀b,MqK G vs b→b<wr.heap.size:=fun b hb=>MqK.lt h hb
 have hg:=k3.grown
 refine ⟨⟨P',k1,fun b hb hm=> ?_⟩,⟨D,d1.kept hg fun e=>h.out (oL (sI e).symm),d2⟩,fun i hi=>(h.own i hi).keep hg ?_,h.apart,fun i hi p hp=>⟨(h.stp i hi p hp).1.agr (k3.agr fun k=>k.2 rfl),(h.stp i hi p hp).2⟩,h.out,Wr.after h.bel k3 h.hB,h.hB,h.hG⟩
 ·rcases k2 b hb with k|k
  ·exact hk b k hm
  ·exact absurd (hlt b hm) (by omega)
 ·exact oR fun e=>h.out (oR ⟨i,hi,e⟩)
theorem Mqs.below (h:Mqs w wr B G n M Q vs ls) (k:Below wr.heap.size wr w'):Mqs w w' B G n M Q vs ls:=by
 obtain ⟨P,h1,h2⟩:=h.net
 exact h.did h2 (aX.same h1 k)
theorem Mqs.start (hb:Below w.heap.size w wr) (hN:NetP wr B (fun _=>False) M Q) (hB:w.heap.size≤B):Mqs w (wr.alloc (.map #[] 0)) B wr.heap.size 0 M Q (fun _=> V none 0 0) (fun _=>[]):=by
 have hg:Gr wr (wr.alloc (.map #[] 0)):=(gR wr).alloc _
 refine ⟨⟨_,hN.below hg.below,fun _ h=>h.elim⟩,⟨.map [],World.ownsMap_made _ _ _ _,fun i _=>rfl⟩,fun _ _=>ag.nil _ _ _ _ _,fun i j _ _ _ b hb=>(by cases hb),fun i _ p hp=>(by cases hp),?_,hb.trans (hg.below.mono hb.size),hB,hb.size⟩
 rintro (e|⟨i,_,e⟩)
 ·have:=hN.lt;omega
 ·cases e
theorem StP.inh {P:Nat→Prop} {A:Option Addr} {q:List Stp} (h:StP P wr A q):StP (fun b=>P b∧b<wr.heap.size) wr A q :=
 ⟨h.st,fun a ha hl=>⟨h.arr a ha hl,h.st.row.lt a ha hl⟩,fun s hs a ha hl=>⟨h.rows s hs a ha hl,(h.st.each s hs).1.lt a ha hl⟩⟩
theorem Mqs.look (h:Mqs w wr B G n M Q vs ls) {i:Nat} (hi:i<4):(Instr.lookup 26 (.map (some G)) (.int I i) false).run O wr= .ok (vs i) wr:=by
 obtain ⟨D,d1,d2⟩:=h.map
 obtain ⟨v,ps,h1,h2⟩:=d1.lookup qy Tryz.underlying26 (z:= V none 0 0) (by kernel_rfl) (zd:= .held (V none 0 0)) (zp:=[]) rfl (key:= .int I i) (kl:= .int I i) (keyOf_int_mk Tryz.underlying3 (WalkArith.wf_i64 ⟨by omega,by omega⟩))
 rw[d2 i hi] at h2
 have:v=vs i:=by
  unfold rk at h2
  simp only[Option.some.injEq,Prod.mk.injEq,DataW.held.injEq] at h2
  exact h2.1
 rw[h1,this]
structure Mqh (w w0 wr:World) (B G n:Nat) (M:NetM) (Q:Nat→List (List Stp)) (vs:Nat→Value) (ls:Nat→List Qm) (i:Nat) (v:Value) (p:Qm):Prop where
 old:Mqs w w0 B G n M Q vs ls
 gr:w0.grownBy wr (vs i).ownBlock
 own:ag gk 1 33 wr w.heap.size v (ls i++[p])
 at':v.ownBlock=(vs i).ownBlock∨v.ownBlock=some w0.heap.size
 stp:StP (fun b=>¬MqK G vs b∧b≠B) w0 p.A p.q∧p.q.length≤1024
def tC (vs:Nat→Value) (i:Nat) (v:Value):Nat→Value:=fun j=>if j=i then v else vs j
def mn (ls:Nat→List Qm) (i:Nat) (l:List Qm):Nat→List Qm:=fun j=>if j=i then l else ls j
theorem Mqh.put {w0:World} {i:Nat} {v:Value} {p:Qm} (h:Mqh w w0 wr B G n M Q vs ls i v p) (hi:i<4) (hn:n<1000):∃w',(Instr.mapUpdate 26 (.map (some G)) (.int I i) v).run O wr= .ok () w'∧Mqs w w' B G (n+1) M Q (tC vs i v) (mn ls i (ls i++[p]))∧∀b,b<w0.heap.size→¬MqK G vs b→w'.heap[b]? = w0.heap[b]? := by
 obtain ⟨D,d1,d2⟩:=h.old.map
 have d1':=d1.kept h.gr (h.old.ne hi)
 obtain ⟨w',u1,u2,u3⟩:=d1'.update qy Tryz.underlying26 (by unfold maxLen;omega) (key:= .int I i) (val:=v) (kl:= .int I i) (d:= .held v) (ps:=[]) (keyOf_int_mk Tryz.underlying3 (WalkArith.wf_i64 ⟨by omega,by omega⟩)) rfl
 have hself:tC vs i v i=v:=if_pos rfl
 have hoth:∀j,j≠i→tC vs i v j=vs j:=fun j hj=>if_neg hj
 -- the blocks of the map behind it: those ahead of it, and perhaps a new one
 have hK:∀b,MqK G (tC vs i v) b→MqK G vs b∨b=w0.heap.size:=by
  rintro b (rfl|⟨j,hj,hb⟩)
  ·exact oL (oL rfl)
  ·by_cases e:j=i
   ·subst e
    rw[hself] at hb
    rcases h.at' with k|k
    ·exact oL (oR ⟨j,hj,by rw[←k];exact hb⟩)
    ·rw[k] at hb;exact oR (sI hb).symm
   ·rw[hoth j e] at hb
    exact oL (oR ⟨j,hj,hb⟩)
 obtain ⟨P,p1,p2⟩:=h.old.net
 -- blocks that aren't the map's are as they were
 have hb0:∀b,b<w0.heap.size→¬MqK G vs b→w'.heap[b]? = w0.heap[b]? := fun b hb hk=>by
  rw[u3.block b (Nat.lt_of_lt_of_le hb h.gr.size) fun e=>hk (Or.inl (Option.some.inj e)),h.gr.block b hb fun e=>hk (Or.inr ⟨i,hi,e.symm⟩)]
 have hsz:w0.heap.size≤w'.heap.size:=nT h.gr.size u3.size
 have hag:Agr (fun b=>¬MqK G vs b∧b≠B) w0 w':=⟨hsz,fun b hb hl=>hb0 b hl hb.1⟩
 have hst:∀ {A:Option Addr} {q:List Stp},StP (fun b=>¬MqK G vs b∧b≠B) w0 A q→StP (fun b=>¬MqK G (tC vs i v) b∧b≠B) w' A q:=fun {A q} hq=>by
  have h1:=hq.inh
  refine (h1.agr (hag.mono fun b k=>k.1)).mono fun b k=>⟨fun hk=> ?_,k.1.2⟩
  rcases hK b hk with hk|hk
  ·exact k.1.1 hk
  ·have:=k.2;omega
 have hGn:v.ownBlock≠some G:=by
  rcases h.at' with k|k
  ·rw[k];exact fun e=>h.old.ne hi e.symm
  ·rw[k];intro e;have:=d1.lt;injection e with e;omega
 have hbl:Below w.heap.size w w':=by
  have h1:=(h.old.bel).trans ((h.old.own i hi).grown_below h.gr h.old.bel.size)
  exact h1.grown u3 h1.size fun j ej=>by cases ej;exact h.old.hG
 refine ⟨w',u1,⟨⟨P,p1.keep (hb0 B p1.lt h.old.out) ⟨hsz,fun b hb hl=>hb0 b hl (p2 b hb)⟩,fun b hb hk=> ?_⟩,⟨_,u2,fun j hj=> ?_⟩,fun j hj=> ?_,fun j k hj hk hjk b hb=> ?_,fun j hj x hx=> ?_,fun hk=> ?_,hbl,h.old.hB,h.old.hG⟩,hb0⟩
 ·rcases hK b hk with hk|hk
  ·exact p2 b hb hk
  ·have:=p1.up b hb;omega
 ·by_cases e:j=i
  ·subst e
   rw[hself]
   exact atKey_put_same d1'.isMap (show WideAt.IsKeyLit (.int I (j:Int)) from trivial) _ _
  ·rw[hoth j e,atKey_put_other (fun k=>e (by injection k with _ k;omega)),d2 j hj]
 ·by_cases e:j=i
  ·subst e
   rw[hself,show mn ls j (ls j++[p]) j=ls j++[p] from if_pos rfl]
   exact h.own.keep u3 (oR hGn)
  ·rw[hoth j e,show mn ls i (ls i++[p]) j=ls j from if_neg e]
   refine ((h.old.own j hj).keep h.gr ?_).keep u3 (oR fun k=>h.old.ne hj k.symm)
   cases hv:(vs j).ownBlock with
   | none=>exact oL rfl
   | some x=>exact oR fun k=>h.old.apart j i hj hi e x hv k.symm
 ·have hnew:∀x y,x<4→x≠i→(vs x).ownBlock=some y→y<w0.heap.size:=fun x y hx _ hy=>(World.ownsRow.lt (h.old.own x hx) y hy).2
  by_cases e:j=i
  ·subst e
   rw[hself] at hb
   rw[hoth k fun e=>hjk e.symm]
   rcases h.at' with k1|k1
   ·rw[k1] at hb;exact h.old.apart j k hj hk hjk b hb
   ·rw[k1] at hb
    intro k2
    have:=hnew k b hk (fun e=>hjk e.symm) k2
    injection hb with hb
    omega
  ·rw[hoth j e] at hb
   by_cases e2:k=i
   ·subst e2
    rw[hself]
    rcases h.at' with k1|k1
    ·rw[k1];exact h.old.apart j k hj hk hjk b hb
    ·rw[k1]
     intro k2
     have:=hnew j b hj e hb
     injection k2 with k2
     omega
   ·rw[hoth k e2]
    exact h.old.apart j k hj hk hjk b hb
 ·by_cases e:j=i
  ·subst e
   rw[show mn ls j (ls j++[p]) j=ls j++[p] from if_pos rfl] at hx
   rcases List.mem_append.1 hx with hx|hx
   ·exact ⟨hst (h.old.stp j hj x hx).1,(h.old.stp j hj x hx).2⟩
   ·rw[List.mem_singleton.1 hx]
    exact ⟨hst h.stp.1,h.stp.2⟩
  ·rw[show mn ls i (ls i++[p]) j=ls j from if_neg e] at hx
   exact ⟨hst (h.old.stp j hj x hx).1,(h.old.stp j hj x hx).2⟩
 ·rcases hK B hk with hk|hk
  ·exact h.old.out hk
  ·have:=p1.lt;omega
end
theorem Mqs.read {w wr w':World} {B G n:Nat} {M:NetM} {Q:Nat→List (List Stp)} {vs:Nat→Value} {ls:Nat→List Qm} (h:Mqs w wr B G n M Q vs ls) {A:Option Addr} {q:List Stp} (hs:Stps w' A q) (hn:NwQ wr.heap.size A q):StP (fun b=>¬MqK G vs b∧b≠B) w' A q:=by
 obtain ⟨P,h1,_⟩:=h.net
 have hl:=h1.lt
 have hne:∀b,wr.heap.size≤b→¬MqK G vs b∧b≠B:=fun b hb=>⟨fun k=>by have:=MqK.lt h k;omega,by omega⟩
 exact ⟨hs,fun a ha _=>hne _ (hn.1 a ha),fun s hs a ha _=>hne _ (hn.2 s hs a ha)⟩
section
variable (w:World) {ops:Array Oper} {o:Oper} {a:Act} {K:Act→World→Prop} {Q:Exit→Act→World→Prop} {E:Prop} (hgd:o.guard=none)
include hgd
theorem mh (s z:Operand) (ho:o.op= .call { callee:= .builtin .append,args:= #[s,z],argTypes:= #[36,36] })
  (base:Nat) (v:Value) (l:List Qm) (x:Qm) (A:Addr) (cap:Nat) (hs:a.eval s=v) (hz:a.eval z= V (some A) 1 cap) (hown:ag gk 1 33 w base v l) (hr:ax gk 1 w (some A) [x]) (hml:l.length≤1000) (hbase:base≤w.heap.size)
  (h:∀v' w',ag gk 1 33 w' base v' (l++[x])→w.grownBy w' v.ownBlock→(v'.ownBlock=v.ownBlock∨v'.ownBlock=some w.heap.size)→K (a.put o.dst v') w') :
  if Region.wanted o (yielded ops a.tmps)=true then Oper.wp O o a w K Q else E:=by
 have hw:Region.wanted o (yielded ops a.tmps)=true:=by simp[Region.wanted,hgd]
 rw[if_pos hw]
 obtain ⟨i0,hi,hz0,hz1,hz2⟩:=info_parts yo
 obtain ⟨v',w',g1,g2,g3,_,g5⟩:=run_append_own_at (P:=O) w base 36 o.type 33 i0 (V none 0 0) 1 24 Tryz.underlying36 hi hz0 hz1 hz2 rfl (by omega) v l.length (aE gk l) hown A 1 cap (aE gk [x]) (aU fw [x]) (hr.cells fw (by omega)) (fun u hu=>de so u [x] hu) (by unfold maxLen;omega) (by omega) hbase
 have h2:ag gk 1 33 w' base v' (l++[x]):=by
  show w'.ownsRow base _ 1 v' (l++[x]).length (aE gk (l++[x]))
  rw[List.length_append,bQ]
  exact g2
 unfold Oper.wp execOp
 simp only[ho,resolve,invoke,builtin,Sem.run_bind,Sem.run_pure,Result.andThen_ok,List.map_toArray,List.map_cons,List.map_nil,hs,hz,g1]
 exact h v' w' h2 g3 g5
end
def QR (Q:Nat→List (List Stp)) (ls:Nat→List Qm):Prop:=∀i,i<4→(ls i).map (fun p=>p.q.map bare)=(Q i).map (·.map bare)
theorem wT {x:List UInt8} {N:NetM} {y:Hap} {Q Q':Nat→List (List Stp)} {er f:Int} {r:List Stp} (h:pQ x N y Q er Q') (k:fk x r f) :
  (y.k=5∧er=0∧f=0∧isN y.a∧∃q,q.map bare=r.map bare∧Q'=iu Q y.a.toNat (Q y.a.toNat++[q]))∨(¬(y.k=5∧er=0∧f=0)∧Q'=Q):=by
 rcases h with ⟨h,_,h2⟩|⟨h5,h⟩
 ·exact oR ⟨fun e=>h e.1,h2⟩
 rcases h with ⟨_,h1,h2⟩|⟨ha,q,ep,hp,⟨h1,h2,h3⟩|⟨h1,h2,h3⟩⟩
 ·exact oR ⟨fun e=>by omega,h2⟩
 ·exact oR ⟨fun e=>h1 (h2.symm.trans e.2.1),h3⟩
 ·by_cases he:er=0
  ·obtain ⟨f0,hb⟩:=qN hp k h1
   have hw:wtE q (Q y.a.toNat)=0:=h2.symm.trans he
   refine oL ⟨h5,he,f0,ha,q,hb,?_⟩
   rw[h3]
   congr 1
   unfold wtQ
   rw[if_pos hw]
  ·refine oR ⟨fun e=>he e.2.1,?_⟩
   have hw:¬wtE q (Q y.a.toNat)=0:=fun e=>he (h2.trans e)
   have hq:wtQ q (Q y.a.toNat)=Q y.a.toNat:=by unfold wtQ;rw[if_neg hw]
   rw[h3,hq,ij]
theorem QR.more {Q:Nat→List (List Stp)} {ls:Nat→List Qm} (h:QR Q ls) {i:Nat} {q:List Stp} {p:Qm} (hb:q.map bare=p.q.map bare):QR (iu Q i (Q i++[q])) (mn ls i (ls i++[p])):=fun j hj=>by
 by_cases e:j=i
 ·subst e
  rw[show mn ls j (ls j++[p]) j=ls j++[p] from if_pos rfl,show iu Q j (Q j++[q]) j=Q j++[q] from if_pos rfl,List.map_append,List.map_append,h j hj,List.map_singleton,List.map_singleton,hb]
 ·rw[show mn ls i (ls i++[p]) j=ls j from if_neg e,show iu Q i (Q i++[q]) j=Q j from if_neg e]
  exact h j hj
theorem QR.at {Q:Nat→List (List Stp)} {ls:Nat→List Qm} (h:QR Q ls) {i k:Nat} (hi:i<4) (hk:k<(ls i).length):∃hq:k<(Q i).length,(ls i)[k].q.map bare=(Q i)[k].map bare:=by
 have h1:=h i hi
 have hl:(ls i).length=(Q i).length:=by simpa using congrArg List.length h1
 refine ⟨by omega,?_⟩
 have:=congrArg (·[k]?) h1
 simpa[List.getElem?_eq_getElem hk,List.getElem?_eq_getElem (show k<(Q i).length by omega)] using this
end

theorem vU {w:World} {B:Nat} (i:Nat) (hi:i<4) (j:Int) {E:Int} {F:List Zit}
  (hV0:Calls O 32 #[Z (some ⟨B,i*38,none⟩),.int I j] w fun e w'=>∃(L:List Itm) (C:Option Addr) (k:Nat),e= J (H #[V C L.length k,.int I E])∧L.map Itm.z=F∧Lv w' C k L∧Below w.heap.size w w') :
  Calls O 12 #[Z (some ⟨B,0,none⟩),.int I i,.int I j] w fun e w'=>∃(L:List Itm) (C:Option Addr) (k:Nat),e= J (H #[V C L.length k,.int I E])∧L.map Itm.z=F∧Lv w' C k L∧Below w.heap.size w w':=by
 have hN:Hid (∀W,Calls O 31 #[.int I i] W fun e w'=>e= J (.bool true)∧w'=W):=cD i hi
 have hV:Hid _:=hV0
 have hi4:(i:Int)<4:=by omega
 clear hV0
 go_enter Tryz.func12,Tryz.ntmps12
 go_wp2_with fail
 refine cM (hN.out _) ?_
 rintro e w1 ⟨rfl,h0⟩
 have h0:=h0.symm
 subst h0
 go_wp2_with fail
 refine cM (show Calls _ _ _ _ _ from hV.out) ?_
 rintro e w2 ⟨L,C,k,rfl,f1,f2,f3⟩
 have hfin:Hid (L.map Itm.z=F∧Lv w2 C k L∧Below w.heap.size w w2):=⟨f1,f2,f3⟩
 clear f1 f2 f3 hV
 go_wp2
 go_ret2
 exact ⟨L,C,k,rfl,hfin.out⟩
theorem vT {w:World} {B:Nat} {P:Nat→Prop} {M:NetM} {Q:Nat→List (List Stp)} (h:NetP w B P M Q) (i:Nat) (hi:i<4) {j:Nat} (hj:j<(Q i).length) :
  Calls O 12 #[Z (some ⟨B,0,none⟩),.int I i,.int I j] w fun e w'=>∃(L:List Itm) (C:Option Addr) (k:Nat),e= J (H #[V C L.length k,.int I (bT (Q i)[j] (ofR (M.s i)) (ofR (M.t i)))])∧L.map Itm.z=e9 (Q i)[j] (ofR (M.s i)) (ofR (M.t i))∧Lv w' C k L∧Below w.heap.size w w' :=
 vU i hi j ((vV (h.nd i hi) hj).mono fun _ _ ⟨L,C,k,h1,f1,f2,f3,_⟩=>⟨L,C,k,h1,f1,f2,f3⟩)
end Go.Proofs.YtfedpiamlpflhaaGreatDoor
