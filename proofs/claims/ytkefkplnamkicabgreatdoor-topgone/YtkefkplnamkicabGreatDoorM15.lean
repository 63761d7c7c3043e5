import Derived.Test.YtkefkplnamkicabGreatDoorM14
set_option maxRecDepth 100000
set_option maxHeartbeats 8000000
open Go.Value renaming slice → I, pointer → S, tuple → O, int → J
namespace Go.Proofs.YtkefkplnamkicabGreatDoor
open Go.RowKit Go.Sort

theorem wh {w w5 w6:World} {V o:Nat} {P:Nat→Prop} {q:List Stp} {QA:Option Addr} {cq:Nat} {a a':List Itm} {A A':Option Addr} {ca ca':Nat} {b b':List Itm} {B B':Option Addr} {cb cb':Nat} {x:List Itm} {X:Option Addr} {cx:Nat} {y:List Itm} {Y:Option Addr} {cy:Nat} {e:Int} {k l:List Zit} {T:TypeId} {n:Nat} (hB:Blk w V T n) (h:Vm w5 V o (ag P w.heap.size w5.heap.size) q QA cq a A ca b B cb x X cx y Y cy e) (hw:Wr V o (o+6) w w5) (hlt:V<w.heap.size) (hV:¬P V) (f1:a'.map Itm.z=k) (f2:b'.map Itm.z=l) (f3:Vo w6 V o (ag (ag P w.heap.size w5.heap.size) w5.drew.heap.size w6.heap.size) q QA cq a' A' ca' b' B' cb') (f4:Wr V (o+1) (o+3) w5.drew w6) :
  a'.map Itm.z=k∧b'.map Itm.z=l∧Vm w6 V o (ag P w.heap.size w6.heap.size) q QA cq a' A' ca' b' B' cb' x X cx y Y cy e∧Wr V o (o+6) w w6:=by
 have hs:w5.heap.size≤w6.heap.size:=f4.size
 have hPV:¬ag P w.heap.size w5.heap.size V:=fun k=>k.elim hV fun k=>by omega
 have hA:Agr (ag P w.heap.size w5.heap.size) w5 w6:=(Agr.of (gR w5).drew.below).trans (f4.agr hPV)
 have hm:=ag.more (P:=P) (m:=w.heap.size) (n:=w5.heap.size) (nR w.heap.size) hs
 have hc:∀j,o+3≤j→w6.cell? ⟨V,j,none⟩=w5.cell? ⟨V,j,none⟩:=fun j hj=>by
  have hb5:Blk w5.drew V T n:=hw.block hB
  exact f4.cell hb5 (oR hj)
 exact ⟨f1,f2,⟨f3.mono (fun b hb=>ag.two hw.size hs b hb),(hc _ (by omega)).trans h.c3,(hc _ (by omega)).trans h.c4,(hc _ (by omega)).trans h.c5,(h.lx.agr hA).mono hm,(h.ly.agr hA).mono hm⟩,hw.trans ((Wr.of (gR w5).drew.below h.vo.lt).trans (f4.mono (by omega) (by omega)))⟩
theorem pR {w:World} {V o:Nat} {P Q:Nat→Prop} {q:List Stp} {k l z y z' y':List Zit} {e0:Int} {T:TypeId} {nB:Nat} (hBk:Blk w V T nB) (hV:¬P V) (hQ:¬Q V) (h:VwM w V o P q k l (bf z k) (bf y l) e0) (hk:TS k) (hl:TS l) (hz:TS z) (hy:TS y) (hz':TS z') (hy':TS y') {m n:List Itm} {M N:Option Addr} {cm cn:Nat} (hm:LvP Q w M cm m) (hn:LvP Q w N cn n) (em:m.map Itm.z=bf z' z) (en:n.map Itm.z=bf y' y) :
  Calls Tryz.prog 57 #[S (some ⟨V,o,none⟩),.agg #[I M m.length cm,I N n.length cn]] w fun e w'=>e= .returned (O #[])∧VwN w' V o (ag P w.heap.size w'.heap.size) q z' y'∧Wr V o (o+6) w w':=by
 obtain ⟨q',QA,cq,a,A,ca,b,B,cb,x,X,cx,u,U,cu,h1,hq,ha,hb,hx,hu⟩:=h
 have hi0:=zd (I M m.length cm) (I N n.length cn)
 have hi1:=ze (I M m.length cm) (I N n.length cn)
 have mixed:Tryz.prog.follows .mixedOrders=true:=by kernel_rfl
 have hT:Hid (TS k∧TS l∧TS z∧TS y∧TS z'∧TS y'):=⟨hk,hl,hz,hy,hz',hy'⟩
 have hE:Hid (q'.map bare=q.map bare∧a.map Itm.z=k∧b.map Itm.z=l∧m.map Itm.z=bf z' z∧n.map Itm.z=bf y' y∧x.map Itm.z=bf z k∧u.map Itm.z=bf y l):=⟨hq,ha,hb,em,en,hx,hu⟩
 have hP:Hid (¬P V∧¬Q V):=⟨hV,hQ⟩
 have hBH:Hid (Blk w V T nB):=hBk
 clear hBk
 obtain ⟨w1,hw1⟩:∃W,(w.alloc (.cells #[I M m.length cm,I N n.length cn] 71))=W:=⟨_,rfl⟩
 have s0:w1.cell? ⟨w.heap.size,0,none⟩=some (I M m.length cm):=by rw[←hw1];exact ab (w:=w) (gR _) rfl
 have s1:w1.cell? ⟨w.heap.size,1,none⟩=some (I N n.length cn):=by rw[←hw1];exact ab (w:=w) (gR _) rfl
 have hb1:Below w.heap.size w w1:=by rw[←hw1];exact ((gR w).alloc _).below
 have hH:Hid (Vm w1 V o P q' QA cq a A ca b B cb x X cx u U cu e0∧LvP Q w1 M cm m∧LvP Q w1 N cn n∧Below w.heap.size w w1∧V<w.heap.size):=⟨h1.below hb1,hm.below hb1,hn.below hb1,hb1,h1.vo.lt⟩
 have c3:=hH.out.1.c3
 have hS0:Hid (∀W,Gr w1 W→Calls Tryz.prog 81 #[I X x.length cx,I M m.length cm] W fun e w'=>∃(L:List Itm) (C:Option Addr) (k':Nat),e= .returned (I C L.length k')∧L.map Itm.z=bf z' k∧LvP (fun b=>W.heap.size≤b∧b<w'.heap.size) w' C k' L∧Below W.heap.size W w'):=fun W hg=>jq (hH.out.1.lx.lv.gr hg) (hH.out.2.1.lv.gr hg) (by rw[hx,em];exact (kJ hk hz hz').2)
 clear h1 hm hn hb1 hk hl hz hy hz' hy' hq ha hb em en hx hu hV hQ
 go_enter Tryz.func57,Tryz.ntmps57
 go_wp2
 clear hw1 s0 s1
 refine wp_loop_rounds 3 ?_
 rw[rounds_succ]
 go_wp2
 go_region_with (go_at_call 81;refine cM (hS0.out _ (gR w1).drew) ?_;rintro e w2 ⟨L,C,k',rfl,h1,h2,h3⟩;have hb2:Below w1.heap.size w1 w2:=(gR w1).drew.below.trans h3;have hHH:Hid (Below w1.heap.size w1 w2∧LvP (fun b=>w1.heap.size≤b∧b<w2.heap.size) w2 C k' L∧L.map Itm.z=bf z' k):=⟨hb2,h2,h1⟩;clear h1 h2 h3;have p0:=(hH.out.1.below hb2).c3;have z0:=(hH.out.1.below hb2).vo.fz (o+3);clear hb2)
 clear p0 z0 c3 hS0 hi0
 obtain ⟨w3,hw3⟩:∃W,w2.setCell ⟨V,o+3,none⟩ (I C L.length k')=W:=⟨_,rfl⟩
 rw[hw3]
 have h3:Hid (Vm w3 V o (ag P w.heap.size w3.heap.size) q' QA cq a A ca b B cb L C k' u U cu e0∧L.map Itm.z=bf z' k∧Wr V o (o+6) w w3∧LvP Q w3 N cn n):=by
  have hb2:=hHH.out.1
  have hs3:w3.heap.size=w2.heap.size:=by rw[←hw3];simp
  have hlt:=hH.out.2.2.2.2
  have hsz:=hH.out.2.2.2.1.size
  have hPV:¬ag P w.heap.size w2.heap.size V:=fun k=>k.elim hP.out.1 fun k=>by omega
  refine ⟨?_,hHH.out.2.2,?_,?_⟩
  ·rw[hs3,←hw3]
   exact ((hH.out.1.below hb2).mono fun b hb=>ag.old b hb).set3 hPV (hHH.out.2.1.mono fun b hb=>ag.new (m:=w.heap.size) (n:=w2.heap.size) hsz (nR _) b hb)
  ·rw[←hw3]
   exact ((Wr.of (hH.out.2.2.2.1.trans (hb2.mono hsz)) hlt).trans (Wr.set _ _ (by omega) (by omega)))
  ·rw[←hw3]
   exact (hH.out.2.2.1.below hb2).agr (aS _ hP.out.2)
 have hlt0:Hid (V<w.heap.size):=hH.out.2.2.2.2
 clear hw3 hHH hH
 go_wp2
 rw[rounds_succ]
 have c4:=h3.out.1.c4
 have hS0:Hid (∀W,Gr w3 W→Calls Tryz.prog 81 #[I U u.length cu,I N n.length cn] W fun e w'=>∃(L:List Itm) (C:Option Addr) (k':Nat),e= .returned (I C L.length k')∧L.map Itm.z=bf y' l∧LvP (fun b=>W.heap.size≤b∧b<w'.heap.size) w' C k' L∧Below W.heap.size W w'):=fun W hg=>jq (h3.out.1.ly.lv.gr hg) (h3.out.2.2.2.lv.gr hg) (by rw[hE.out.2.2.2.2.2.2,hE.out.2.2.2.2.1];exact (kJ hT.out.2.1 hT.out.2.2.2.1 hT.out.2.2.2.2.2).2)
 go_wp2
 go_region_with (go_at_call 81;refine cM (hS0.out _ (gR w3).drew) ?_;rintro e w4 ⟨L2,C2,k2,rfl,h1,h2,h4⟩;have hb4:Below w3.heap.size w3 w4:=(gR w3).drew.below.trans h4;have hHH:Hid (Below w3.heap.size w3 w4∧LvP (fun b=>w3.heap.size≤b∧b<w4.heap.size) w4 C2 k2 L2∧L2.map Itm.z=bf y' l):=⟨hb4,h2,h1⟩;clear h1 h2 h4;have p0:=(h3.out.1.below hb4).c4;have z0:=(h3.out.1.below hb4).vo.fz (o+4);clear hb4)
 clear p0 z0 c4 hS0 hi1
 obtain ⟨w5,hw5⟩:∃W,w4.setCell ⟨V,o+3+1,none⟩ (I C2 L2.length k2)=W:=⟨_,rfl⟩
 rw[hw5]
 have h5:Hid (Vm w5 V o (ag P w.heap.size w5.heap.size) q' QA cq a A ca b B cb L C k' L2 C2 k2 e0∧L2.map Itm.z=bf y' l∧Wr V o (o+6) w w5∧V<w.heap.size):=by
  have hb4:=hHH.out.1
  have hs5:w5.heap.size=w4.heap.size:=by rw[←hw5];simp
  have hsz:=h3.out.2.2.1.size
  have hlt:=hlt0.out
  have hPV:¬ag P w.heap.size w4.heap.size V:=fun k=>k.elim hP.out.1 fun k=>by omega
  refine ⟨?_,hHH.out.2.2,?_,hlt⟩
  ·rw[hs5,←hw5]
   exact ((h3.out.1.below hb4).mono (ag.more (nR _) hb4.size)).set4 hPV (hHH.out.2.1.mono fun b hb=>ag.new (m:=w.heap.size) (n:=w4.heap.size) hsz (nR _) b hb)
  ·rw[←hw5]
   exact h3.out.2.2.1.trans ((Wr.of hb4 (by omega)).trans (Wr.set _ _ (by omega) (by omega)))
 have h3z:Hid (L.map Itm.z=bf z' k):=h3.out.2.1
 clear hw5 hHH h3
 go_wp2
 rw[rounds_succ]
 have c3:=h5.out.1.c3
 have c4:=h5.out.1.c4
 have hF:Hid (ir q' (a.map Itm.z) (b.map Itm.z) (L.map Itm.z) (L2.map Itm.z)=cL q z' y'):=by
  show _=_
  rw[h3z.out,h5.out.2.1,hE.out.2.1,hE.out.2.2.1,qo hT.out.1 hT.out.2.1 hT.out.2.2.2.2.1 hT.out.2.2.2.2.2]
  exact tz hE.out.1 _ _
 by_cases h0:cL q z' y'=0
 ·have hFd:Hid (∀W,Gr w5 W→Calls Tryz.prog 82 #[S (some ⟨V,o,none⟩),I C L.length k',I C2 L2.length k2] W fun e w'=>∃(n:Nat) (C:Option Addr) (k:Nat) (a':List Itm) (A':Option Addr) (ca':Nat) (b':List Itm) (B':Option Addr) (cb':Nat),e= .returned (O #[I C n k,J .i64 0])∧a'.map Itm.z=aP (a.map Itm.z) (L.map Itm.z)∧b'.map Itm.z=aP (b.map Itm.z) (L2.map Itm.z)∧Vo w' V o (ag (ag P w.heap.size w5.heap.size) W.heap.size w'.heap.size) q' QA cq a' A' ca' b' B' cb'∧Wr V (o+1) (o+3) W w'):=fun W hg=>xc W V o (ag P w.heap.size w5.heap.size) q' QA cq a A ca b B cb (h5.out.1.vo.gr hg) (fun k=>k.elim hP.out.1 fun k=>by have:=h5.out.2.2.2;omega) L L2 C C2 k' k2 (h5.out.1.lx.lv.gr hg) (h5.out.1.ly.lv.gr hg) (by rw[hF.out];exact h0)
  have h0H:Hid (cL q z' y'=0):=h0
  clear h0
  go_wp2
  go_region_with (go_at_call 82;refine cM (hFd.out _ (gR w5).drew) ?_;rintro e w6 ⟨r1,r2,r3,a',A',ca',b',B',cb',rfl,f1,f2,f3,f4⟩;have hHH:Hid (a'.map Itm.z=aP (a.map Itm.z) (L.map Itm.z)∧b'.map Itm.z=aP (b.map Itm.z) (L2.map Itm.z)∧Vm w6 V o (ag P w.heap.size w6.heap.size) q' QA cq a' A' ca' b' B' cb' L C k' L2 C2 k2 e0∧Wr V o (o+6) w w6):=wh hBH.out h5.out.1 h5.out.2.2.1 h5.out.2.2.2 hP.out.1 f1 f2 f3 f4;clear f1 f2 f3 f4;have p0:=hHH.out.2.2.1.c5;have z0:=hHH.out.2.2.1.vo.fz (o+5))
  all_goals
   clear p0 z0 hFd c3 c4
   obtain ⟨w7,hw7⟩:∃W,w6.setCell ⟨V,o+5,none⟩ (J .i64 0)=W:=⟨_,rfl⟩
   rw[hw7]
   have h7:Hid (Vm w7 V o (ag P w.heap.size w7.heap.size) q' QA cq a' A' ca' b' B' cb' L C k' L2 C2 k2 0∧Wr V o (o+6) w w7):=by
    have hs7:w7.heap.size=w6.heap.size:=by rw[←hw7];simp
    have hlt:=h5.out.2.2.2
    refine ⟨?_,?_⟩
    ·rw[hs7,←hw7]
     exact hHH.out.2.2.1.set5 (fun k=>k.elim hP.out.1 fun k=>by omega) 0
    ·rw[←hw7]
     exact hHH.out.2.2.2.trans (Wr.set _ _ (by omega) (by omega))
   clear hw7
   have c5:=h7.out.1.c5
   have c3:=h7.out.1.c3
   have c4:=h7.out.1.c4
   have z3:=h7.out.1.vo.fz (o+3)
   have z4:=h7.out.1.vo.fz (o+4)
   go_wp2
   clear c5 c3 c4 z3 z4
   go_end0
   have hlt:=h5.out.2.2.2
   have hPV:¬ag P w.heap.size w7.heap.size V:=fun k=>k.elim hP.out.1 fun k=>by omega
   have h8:=(h7.out.1.set3 hPV (LvP.none _ _)).set4 hPV (LvP.none _ _)
   have ez:a'.map Itm.z=z':=by rw[hHH.out.1,hE.out.2.1,h3z.out];exact (ft hT.out.1 hT.out.2.2.2.2.1).2
   have ey:b'.map Itm.z=y':=by rw[hHH.out.2.1,hE.out.2.2.1,h5.out.2.1];exact (ft hT.out.2.1 hT.out.2.2.2.2.2).2
   refine ⟨rfl,⟨z',y',⟨q',QA,cq,a',A',ca',b',B',cb',[],none,0,[],none,0,?_,hE.out.1,ez,ey,by rw[oE];rfl,by rw[oE];rfl⟩,hT.out.2.2.2.2.1,hT.out.2.2.2.2.2,fun _=>⟨rfl,rfl⟩⟩,h7.out.2.trans ((Wr.set _ _ (by omega) (by omega)).trans (Wr.set _ _ (by omega) (by omega)))⟩
   rw[h0H.out]
   simpa using h8
 ·have hFd:Hid (∀W,Gr w5 W→Calls Tryz.prog 82 #[S (some ⟨V,o,none⟩),I C L.length k',I C2 L2.length k2] W fun e w'=>∃E,e= .returned (O #[I none 0 0,J .i64 E])∧E=cL q z' y'∧Below W.heap.size W w'):=fun W hg=>by
   have:=uF W V o (ag P w.heap.size w5.heap.size) q' QA cq a A ca b B cb (h5.out.1.vo.gr hg) L L2 C C2 k' k2 (h5.out.1.lx.lv.gr hg) (h5.out.1.ly.lv.gr hg) (by rw[hF.out];exact h0)
   rwa [hF.out] at this
  have h0H:Hid (¬cL q z' y'=0):=h0
  clear h0
  go_wp2
  go_region_with (go_at_call 82;refine cM (hFd.out _ (gR w5).drew) ?_;rintro e w6 ⟨E,rfl,hEE,f3⟩;have hHH:Hid (E=cL q z' y'∧Below w5.heap.size w5 w6):=⟨hEE,(gR w5).drew.below.trans f3⟩;clear hEE f3;have p0:=(h5.out.1.below hHH.out.2).c5;have z0:=(h5.out.1.below hHH.out.2).vo.fz (o+5))
  all_goals
   clear p0 z0 hFd c3 c4
   have hEn:(E==0)=false:=by
    have:=h0H.out
    rw[←hHH.out.1] at this
    simpa using this
   obtain ⟨w7,hw7⟩:∃W,w6.setCell ⟨V,o+5,none⟩ (J .i64 E)=W:=⟨_,rfl⟩
   rw[hw7]
   have h7:Hid (Vm w7 V o (ag P w.heap.size w7.heap.size) q' QA cq a A ca b B cb L C k' L2 C2 k2 E∧Wr V o (o+6) w w7):=by
    have hs7:w7.heap.size=w6.heap.size:=by rw[←hw7];simp
    have hlt:=h5.out.2.2.2
    have hsz:=h5.out.2.2.1.size
    refine ⟨?_,?_⟩
    ·rw[hs7,←hw7]
     exact ((h5.out.1.below hHH.out.2).mono (ag.more (nR _) hHH.out.2.size)).set5 (fun k=>k.elim hP.out.1 fun k=>by omega) E
    ·rw[←hw7]
     exact h5.out.2.2.1.trans ((Wr.of hHH.out.2 (by omega)).trans (Wr.set _ _ (by omega) (by omega)))
   clear hw7
   have c5:=h7.out.1.c5
   go_wp2
   clear c5
   go_end0
   refine ⟨rfl,⟨k,l,⟨q',QA,cq,a,A,ca,b,B,cb,L,C,k',L2,C2,k2,?_,hE.out.1,hE.out.2.1,hE.out.2.2.1,h3z.out,h5.out.2.1⟩,hT.out.1,hT.out.2.1,fun h=>absurd h h0H.out⟩,h7.out.2⟩
   rw[←hHH.out.1]
   exact h7.out.1
end Go.Proofs.YtkefkplnamkicabGreatDoor
