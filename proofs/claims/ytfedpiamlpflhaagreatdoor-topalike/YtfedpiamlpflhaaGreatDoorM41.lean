/-
  (*Net).Table, (*Net).Packets.
  (*Net).tellAll, (*Net).Meet: each node tells each other one all that it has.
  viewtop.played, tables, same.
  viewtop.tables, same.
-/
import Derived.Test.YtfedpiamlpflhaaGreatDoorM40
set_option maxRecDepth 100000
set_option maxHeartbeats 8000000
open Go.Ending renaming returned → J
open Go.IntKind renaming i64 → I
open Go.Proofs.Tryz renaming prog → O
open Go.Value renaming int → V, slice → Z, pointer → H, agg → Y
namespace Go.Proofs.YtfedpiamlpflhaaGreatDoor
open Go.RowKit Go.Sort

theorem zK (a b c d e f g h i j k l:Value) (w:World):(Instr.field 103 (Y #[a,b,c,d,e,f,g,h,i,j,k,l]) 0).run O w= .ok (Y #[a,b,c,d,e,f,g,h,i,j,k,l]) w:=by kernel_rfl
def TbV (n:Nat) (w:World) (v:Value) (t:Tab):Prop:=∃(A:Option Addr) (ca:Nat) (C:Option Addr) (cc:Nat),v= Y (T6 t A ca C cc).toArray∧TbW n w t A ca C cc
theorem xr {w:World} {B:Nat} {P:Nat→Prop} {M:NetM} {Q:Nat→List (List Stp)} (h:NetP w B P M Q) (i:Nat) (hi:i<4) :
  Calls O 17 #[H (some ⟨B,0,none⟩),V I i,V I 0] w fun e w'=>∃v,e= J (.tuple #[v,V I 0])∧TbV w.heap.size w' v (M.s i)∧Below w.heap.size w w':=by
 obtain ⟨w1,hw1⟩:∃W,w.alloc (.cells #[V I 0,V I 0,V I 0,V I 0,Z none 0 0,Z none 0 0] 43)=W:=⟨_,rfl⟩
 have hg1:Gr w w1:=by rw[←hw1];exact (gR w).alloc _
 have hC1:Hid (Cls w1 w.heap.size Z6):=by show Cls _ _ _;rw[←hw1];exact Cls.new w _ _
 have hi4:(i:Int)<4:=by omega
 have hN:Hid (∀W,Calls O 31 #[V I i] W fun e w'=>e= J (.bool true)∧w'=W):=cL i hi
 obtain ⟨S,hS⟩:∃S,M.s i=S:=⟨_,rfl⟩
 obtain ⟨T,hT⟩:∃T,M.t i=T:=⟨_,rfl⟩
 have hWh:Hid (Calls O 37 #[H (some ⟨B,i*38,none⟩)] w1 fun e w'=>∃(EA:Option Addr) (eca:Nat) (EC:Option Addr) (ecc:Nat) (EB:Option Addr) (ecb:Nat) (ED:Option Addr) (ecd:Nat),e= J (Y (T2 S EA eca EC ecc T EB ecb ED ecd).toArray)∧TbW w1.heap.size w' S EA eca EC ecc∧TbW w1.heap.size w' T EB ecb ED ecd∧Below w1.heap.size w1 w'):=by
  have hw:=jQ ((h.below hg1.below).nd i hi)
  rw[hS,hT] at hw
  refine hw.mono ?_
  rintro e w' ⟨EA,eca,EC,ecc,EB,ecb,ED,ecd,rfl,f1,f2,f3⟩
  exact ⟨EA,eca,EC,ecc,EB,ecb,ED,ecd,rfl,gZ f1.1 f1.2,gZ f2.1 f2.2,f3⟩
 rw[hS]
 have hgH:Hid (Gr w w1):=hg1
 clear h hi hg1 hS hT
 go_enter Tryz.func17,Tryz.ntmps17
 go_wp2_with fail
 try rw[hw1]
 refine cM (hN.out _) ?_
 rintro e w0 ⟨rfl,h0⟩
 have h0:=h0.symm
 subst h0
 go_wp2_with fail
 try rw[hw1]
 clear hw1
 refine cM (show Calls _ _ _ _ _ from hWh.out) ?_
 rintro e w2 ⟨EA,eca,EC,ecc,EB,ecb,ED,ecd,rfl,f1,f2,f3⟩
 have hF:Hid (TbW w1.heap.size w2 S EA eca EC ecc∧TbW w1.heap.size w2 T EB ecb ED ecd∧Below w1.heap.size w1 w2∧Cls w2 w.heap.size Z6):=⟨f1,f2,f3,hC1.out.below f3⟩
 clear f1 f2 f3 hWh
 have hx:=oT (V I S.c.c0) (V I S.c.c1) (V I S.c.c2) (V I S.c.c3) (Z EA S.c.l.length eca) (Z EC S.e.length ecc) (V I T.c.c0) (V I T.c.c1) (V I T.c.c2) (V I T.c.c3) (Z EB T.c.l.length ecb) (Z ED T.e.length ecd)
 have hy:=zK (V I S.c.c0) (V I S.c.c1) (V I S.c.c2) (V I S.c.c3) (Z EA S.c.l.length eca) (Z EC S.e.length ecc) (V I T.c.c0) (V I T.c.c1) (V I T.c.c2) (V I T.c.c3) (Z EB T.c.l.length ecb) (Z ED T.e.length ecd)
 obtain ⟨p0,p1,p2,p3,p4,p5⟩:=iB hF.out.2.2.2
 obtain ⟨z0,z1,z2,z3,z4,z5⟩:=sg hF.out.2.2.2
 go_wp2
 have hlt:w.heap.size<w1.heap.size:=hC1.out.lt
 have hb:Below w.heap.size w w2:=hgH.out.below.trans (hF.out.2.2.1.mono hgH.out.size)
 have hAg:Agr (fun b=>w1.heap.size≤b) w2 ((((((w2.setCell ⟨w.heap.size,0,none⟩ (V I S.c.c0)).setCell ⟨w.heap.size,1,none⟩ (V I S.c.c1)).setCell ⟨w.heap.size,2,none⟩ (V I S.c.c2)).setCell ⟨w.heap.size,3,none⟩ (V I S.c.c3)).setCell ⟨w.heap.size,4,none⟩ (Z EA S.c.l.length eca)).setCell ⟨w.heap.size,5,none⟩ (Z EC S.e.length ecc)):=((((((aS _ fun h=>by omega).trans (aS _ fun h=>by omega)).trans (aS _ fun h=>by omega)).trans (aS _ fun h=>by omega)).trans (aS _ fun h=>by omega)).trans (aS _ fun h=>by omega))
 have hfin:Hid (TbW w.heap.size ((((((w2.setCell ⟨w.heap.size,0,none⟩ (V I S.c.c0)).setCell ⟨w.heap.size,1,none⟩ (V I S.c.c1)).setCell ⟨w.heap.size,2,none⟩ (V I S.c.c2)).setCell ⟨w.heap.size,3,none⟩ (V I S.c.c3)).setCell ⟨w.heap.size,4,none⟩ (Z EA S.c.l.length eca)).setCell ⟨w.heap.size,5,none⟩ (Z EC S.e.length ecc)) S EA eca EC ecc∧Below w.heap.size w ((((((w2.setCell ⟨w.heap.size,0,none⟩ (V I S.c.c0)).setCell ⟨w.heap.size,1,none⟩ (V I S.c.c1)).setCell ⟨w.heap.size,2,none⟩ (V I S.c.c2)).setCell ⟨w.heap.size,3,none⟩ (V I S.c.c3)).setCell ⟨w.heap.size,4,none⟩ (Z EA S.c.l.length eca)).setCell ⟨w.heap.size,5,none⟩ (Z EC S.e.length ecc))):=⟨(hF.out.1.agr hAg).mono (by omega),((((((hb.setCell (nR _) _).setCell (nR _) _).setCell (nR _) _).setCell (nR _) _).setCell (nR _) _).setCell (nR _) _)⟩
 clear hlt hb hAg
 exact bodyPost_ret (v:= .tuple #[Y (T6 S EA eca EC ecc).toArray,V I 0]) (by simp[results,Tryz.results17,go_sem,p0,p1,p2,p3,p4,p5]) rfl ⟨_,rfl,⟨EA,eca,EC,ecc,rfl,hfin.out.1⟩,hfin.out.2⟩

theorem TbN.len {w:World} {N o:Nat} {P:Nat→Prop} {t:Tab} (h:TbN w N o P t):t.c.l.length≤maxLen∧t.e.length≤maxLen:=by
 obtain ⟨A,ca,D,cd,_,h2⟩:=h
 exact h2.len
def mf (a b:Nat):List (Nat×Nat):=(List.range b).filterMap fun j=>if j=a then none else some (a,j)
def pO (a:Nat):List (Nat×Nat):=(List.range a).flatMap fun i=>mf i 4
theorem ng (a b:Nat):mf a (b+1)=if b=a then mf a b else mf a b++[(a,b)]:=by
 unfold mf
 rw[List.range_succ,List.filterMap_append]
 by_cases h:b=a
 ·simp[h]
 ·simp[h]
theorem rP (a:Nat):pO (a+1)=pO a++mf a 4:=by
 unfold pO
 rw[List.range_succ,List.flatMap_append]
 simp
theorem kh {w:World} {B:Nat} {P:Nat→Prop} {M:NetM} {Q:Nat→List (List Stp)} {c:Nat} (h:NetP w B P M Q) (hI:NInv c M) :
  Calls O 36 #[H (some ⟨B,0,none⟩)] w fun e w'=>e= J (V I 0)∧bi w B P w' (cG.foldl cI M) Q:=by
 have mixed:Tryz.prog.follows .mixedOrders=true:=by kernel_rfl
 have hH:Hid (bi w B P w M Q∧NInv c M):=⟨bi.same h (bR _ _),hI⟩
 clear h hI
 go_enter Tryz.func36,Tryz.ntmps36
 go_wp2
 go_loopw [6] (fun v6 wr=>∃a:Nat,a≤4∧v6= V I a∧Hid (bi w B P wr ((pO a).foldl cI M) Q)) (fun v6 _=>4-(intOf v6).toNat)
 case atStart=>exact ⟨0,by omega,rfl,hH.out.1⟩
 case round =>
  obtain ⟨a,ha,rfl,hS⟩:=hrel
  by_cases ha4:a<4
  rotate_left
  ·have hz:¬(a:Int)<4:=by omega
   obtain rfl:a=4:=by omega
   go_wp2
   go_ret
   exact ⟨rfl,hS.out⟩
  have haz:(a:Int)<4:=by omega
  go_wp2
  go_loopw [9] (fun v9 wx=>∃b:Nat,b≤4∧v9= V I b∧Hid (bi w B P wx ((pO a++mf a b).foldl cI M) Q)) (fun v9 _=>4-(intOf v9).toNat)
  case atStart=>exact ⟨0,by omega,rfl,by show bi _ _ _ _ _ _;rw[show mf a 0=[] from rfl,List.append_nil];exact hS.out⟩
  case round =>
   obtain ⟨b,hb,rfl,hT⟩:=hrel
   by_cases hb4:b<4
   rotate_left
   ·have hz:¬(b:Int)<4:=by omega
    obtain rfl:b=4:=by omega
    go_wp2
    go_roundw
    case rel=>exact ⟨a+1,by omega,by go_num,by show bi _ _ _ _ _ _;rw[rP];exact hT.out⟩
    case measure=>simp[intOf];omega
   have hbz:(b:Int)<4:=by omega
   by_cases hab:b=a
   ·subst hab
    have hab':((b:Int)==(b:Int))=true:=by simp
    go_wp2
    go_roundw
    case rel=>exact ⟨b+1,by omega,by go_num,by show bi _ _ _ _ _ _;rw[ng,if_pos rfl];exact hT.out⟩
    case measure=>simp[intOf];omega
   have hab':((a:Int)==(b:Int))=false:=by simp;omega
   obtain ⟨N,hN⟩:∃N,(pO a++mf a b).foldl cI M=N:=⟨_,rfl⟩
   rw[hN] at hT
   have hIn:NInv c N:=by rw[←hN];exact (NInv.tells _ hH.out.2).1
   have hNx:Hid ((pO a++mf a (b+1)).foldl cI M=cI N (a,b)):=by
    show _=_
    rw[ng,if_neg hab,←List.append_assoc,List.foldl_append,hN]
    rfl
   obtain ⟨S,hSe⟩:∃S,N.s a=S:=⟨_,rfl⟩
   obtain ⟨T,hTe⟩:∃T,N.t a=T:=⟨_,rfl⟩
   have hWh:Hid (∀W,Gr wr W→Calls O 37 #[H (some ⟨B,a*38,none⟩)] W fun e w'=>∃(EA:Option Addr) (eca:Nat) (EC:Option Addr) (ecc:Nat) (EB:Option Addr) (ecb:Nat) (ED:Option Addr) (ecd:Nat),e= J (Y (T2 S EA eca EC ecc T EB ecb ED ecd).toArray)∧TbW W.heap.size w' S EA eca EC ecc∧TbW W.heap.size w' T EB ecb ED ecd∧Below W.heap.size W w'):=fun W hW=>by
    obtain ⟨⟨P',h1,_⟩,_⟩:=hT.out
    have hw:=jQ ((h1.below hW.below).nd a ha4)
    rw[hSe,hTe] at hw
    refine hw.mono ?_
    rintro e w' ⟨EA,eca,EC,ecc,EB,ecb,ED,ecd,rfl,f1,f2,f3⟩
    exact ⟨EA,eca,EC,ecc,EB,ecb,ED,ecd,rfl,gZ f1.1 f1.2,gZ f2.1 f2.2,f3⟩
   have hTk:Hid (∀W n EA eca EC ecc EB ecb ED ecd,Below wr.heap.size wr W→TbW n W S EA eca EC ecc→TbW n W T EB ecb ED ecd→Calls O 41 #[H (some ⟨B,b*38,none⟩),Y (T2 S EA eca EC ecc T EB ecb ED ecd).toArray] W fun e w'=>e= J (V I 0)∧bi w B P w' (cI N (a,b)) Q):=fun W n EA eca EC ecc EB ecb ED ecd hW r1 r2=>by
    obtain ⟨_,h0,_⟩:=hIn.tell (a,b)
    obtain ⟨⟨P',h1,h2⟩,h3⟩:=hT.out
    have hn:=h1.below hW
    have l1:=(h1.nd a ha4).ts.len
    have l2:=(h1.nd a ha4).tt.len
    rw[hSe] at l1
    rw[hTe] at l2
    have ht:=pG (hn.nd b hb4) S T EA EB EC ED eca ecb ecc ecd r1.row r1.cel r2.row r2.cel l1.1 l1.2 l2.1 l2.2 r1.nr r2.nr
    rw[←hSe,←hTe,show tkE (N.s b) (N.t b) (N.s a) (N.t a)=0 from h0,hSe,hTe] at ht
    refine ht.mono ?_
    rintro e w' ⟨rfl,f1,f2⟩
    have hc:=hn.call hb4 f1 f2 (by omega)
    rw[jP] at hc
    obtain ⟨⟨P2,k1,k2⟩,k3⟩:=hc
    rw[←hSe,←hTe] at k1
    exact ⟨rfl,⟨P2,k1,fun b hb=>(k2 b hb).elim (h2 b) fun h=>oR (nT h3.size (nT hW.size h))⟩,(h3.trans (Wr.of hW h1.lt)).trans k3⟩
   have hTH:Hid (bi w B P wr N Q):=hT.out
   clear hT hIn hN hSe hTe hS
   go_wp2
   go_region_with (first|(go_at_call 37;(with_reducible refine cM (hWh.out _ (gR wr).drew) ?_);rintro e w2 ⟨EA,eca,EC,ecc,EB,ecb,ED,ecd,rfl,f1,f2,f3⟩;have hF:Hid (TbW wr.drew.heap.size w2 S EA eca EC ecc∧TbW wr.drew.heap.size w2 T EB ecb ED ecd∧Below wr.heap.size wr w2):=⟨f1,f2,(gR wr).drew.below.trans f3⟩;clear f1 f2 f3)|(go_at_call 41;(with_reducible refine cM (hTk.out _ _ _ _ _ _ _ _ _ _ hF.out.2.2 hF.out.1 hF.out.2.1) ?_);rintro e w3 ⟨rfl,f1⟩;have hG:Hid (bi w B P w3 (cI N (a,b)) Q):=f1;clear f1))
   all_goals
    go_wp2
    go_roundw
    case rel=>exact ⟨b+1,by omega,by go_num,by show bi _ _ _ _ _ _;rw[hNx.out];exact hG.out⟩
    case measure=>simp[intOf];omega
theorem uJ {w:World} {B:Nat} {P:Nat→Prop} {M:NetM} {Q:Nat→List (List Stp)} {c:Nat} (h:NetP w B P M Q) (hI:NInv c M) :
  Calls O 14 #[H (some ⟨B,0,none⟩)] w fun e w'=>e= J (V I 0)∧bi w B P w' (dd M) Q:=by
 have hT1:Hid (Calls O 36 #[H (some ⟨B,0,none⟩)] w fun e w'=>e= J (V I 0)∧bi w B P w' (cG.foldl cI M) Q):=kh h hI
 have hT2:Hid (∀W,bi w B P W (cG.foldl cI M) Q→Calls O 36 #[H (some ⟨B,0,none⟩)] W fun e w'=>e= J (V I 0)∧bi w B P w' (dd M) Q):=fun W hW=>by
  obtain ⟨⟨P',h1,h2⟩,h3⟩:=hW
  refine (kh h1 (NInv.tells cG hI).1).mono ?_
  rintro e w' ⟨rfl,f1⟩
  refine ⟨rfl,?_⟩
  have he:dd M=cG.foldl cI (cG.foldl cI M):=by unfold dd;rw[List.foldl_append]
  rw[he]
  obtain ⟨⟨P2,k1,k2⟩,k3⟩:=f1
  exact ⟨⟨P2,k1,fun b hb=>(k2 b hb).elim (h2 b) fun h=>oR (nT h3.size h)⟩,h3.trans k3⟩
 clear h hI
 go_enter Tryz.func14,Tryz.ntmps14
 go_wp2
 refine wp_loop_rounds 3 ?_
 rw[rounds_succ]
 go_wp2_with fail
 refine cM (show Calls _ _ _ _ _ from hT1.out) ?_
 rintro e w1 ⟨rfl,f1⟩
 have hF:Hid _:=f1
 clear f1 hT1
 go_wp2
 rw[rounds_succ]
 go_wp2_with fail
 refine cM (hT2.out w1 hF.out) ?_
 rintro e w2 ⟨rfl,f1⟩
 have hG:Hid _:=f1
 clear f1 hT2
 go_wp2
 rw[rounds_succ]
 go_wp2
 go_ret
 exact ⟨rfl,hG.out⟩

def ct (w wr:World) (B:Nat) (M:NetM) (Q:Nat→List (List Stp)):Prop:=(∃P,NetP wr B P M Q∧∀b,P b→w.heap.size≤b)∧Below w.heap.size w wr∧w.heap.size≤B
section
variable {w wr w':World} {B:Nat} {M M':NetM} {Q Q':Nat→List (List Stp)}
theorem ct.below (h:ct w wr B M Q) (k:Below wr.heap.size wr w'):ct w w' B M Q:=by
 obtain ⟨⟨P,h1,h2⟩,h3,h4⟩:=h
 exact ⟨⟨P,h1.below k,h2⟩,h3.trans (k.mono h3.size),h4⟩
theorem Wr.after {lo hi:Nat} (h:Below w.heap.size w wr) (k:Wr B lo hi wr w') (hB:w.heap.size≤B):Below w.heap.size w w':=⟨k.os.trans h.os,k.tape.trans h.tape,k.output.trans h.output,nT h.size k.size,fun g hg=>(k.oth g (nL hg h.size) (by omega)).trans (h.block g hg)⟩
theorem ct.step (h:ct w wr B M Q) (k:∀P,NetP wr B P M Q→bi wr B P w' M' Q'):ct w w' B M' Q'∧Wr B 0 153 wr w':=by
 obtain ⟨⟨P,h1,h2⟩,h3,h4⟩:=h
 obtain ⟨⟨P',k1,k2⟩,k3⟩:=k P h1
 exact ⟨⟨⟨P',k1,fun b hb=>(k2 b hb).elim (h2 b) fun h=>nT h3.size h⟩,Wr.after h3 k3 h4,h4⟩,k3⟩
theorem ct.new (h:Below w.heap.size w wr) (k:NetP w' wr.heap.size (fun _=>False) cZ (fun _=>[])) (k2:Below wr.heap.size wr w'):ct w w' wr.heap.size cZ (fun _=>[]):=⟨⟨_,k,fun _ h=>h.elim⟩,h.trans (k2.mono h.size),h.size⟩
end
def dr (y:Hap×List UInt8):List Value:=[V I y.1.k,V I y.1.a,V I y.1.b,V I y.1.n,V I y.1.e1,V I y.1.e2,V I y.1.e3,V I y.1.e4,V I y.1.e5,.string ⟨y.2.toArray⟩]
theorem j8 (y:Hap×List UInt8):(dr y).length=10:=rfl
theorem doL {w wr:World} {B:Nat} {M:NetM} {Q:Nat→List (List Stp)} (h:ct w wr B M Q) (hr:Reads w) (y:Hap×List UInt8) (hx:y.2.length≤maxLen) :
  Calls O 7 #[H (some ⟨B,0,none⟩),Y #[V I y.1.k,V I y.1.a,V I y.1.b,V I y.1.n,V I y.1.e1,V I y.1.e2,V I y.1.e3,V I y.1.e4,V I y.1.e5,.string ⟨y.2.toArray⟩]] wr fun e w'=>∃er Q',e= J (V I er)∧tC y.2 M y.1 Q er Q'∧ct w w' B (bH M y.1) Q'∧Wr B 0 153 wr w':=by
 have hL:=h
 obtain ⟨⟨P,h1,h2⟩,h3,h4⟩:=h
 refine (wA h1 (hr.below h3) y.2 hx y.1).mono ?_
 rintro e w' ⟨er,Q',rfl,f1,f2⟩
 obtain ⟨⟨P',k1,k2⟩,k3⟩:=f2
 exact ⟨er,Q',rfl,f1,⟨⟨P',k1,fun b hb=>(k2 b hb).elim (h2 b) fun h=>nT h3.size h⟩,Wr.after h3 k3 h4,h4⟩,k3⟩
theorem uI {w wr:World} {B:Nat} {M:NetM} {Q:Nat→List (List Stp)} {c:Nat} (h:ct w wr B M Q) (hI:NInv c M) :
  Calls O 14 #[H (some ⟨B,0,none⟩)] wr fun e w'=>e= J (V I 0)∧ct w w' B (dd M) Q∧Wr B 0 153 wr w':=by
 obtain ⟨⟨P,h1,h2⟩,h3,h4⟩:=h
 refine (uJ h1 hI).mono ?_
 rintro e w' ⟨rfl,f2⟩
 obtain ⟨⟨P',k1,k2⟩,k3⟩:=f2
 exact ⟨rfl,⟨⟨P',k1,fun b hb=>(k2 b hb).elim (h2 b) fun h=>nT h3.size h⟩,Wr.after h3 k3 h4,h4⟩,k3⟩

end Go.Proofs.YtfedpiamlpflhaaGreatDoor
