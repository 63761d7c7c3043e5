/-
  (*Node).Take: a packet comes to a node.
-/
import Derived.Test.YtkefkplnamkicaaGreatDoorM31
import Derived.Deep.CutRange
set_option maxRecDepth 100000
set_option maxHeartbeats 8000000
open Go.IntKind renaming i64 → I
open Go.Obj renaming cells → Z
open Go.Value renaming int → V, slice → J, pointer → H, agg → Y, tuple → X
namespace Go.Proofs.YtkefkplnamkicaaGreatDoor
open Go.RowKit Go.Sort
set_option linter.unusedSimpArgs false

def tkE (s t a b:Tab):Int:=if al s a=0 then al t b else al s a
def tkS (s t a b:Tab):Tab:=if tkE s t a b=0 then ac s a else s
def tkT (s t a b:Tab):Tab:=if tkE s t a b=0 then ac t b else t
def TbR (w1 wx:World) (Bm:Nat) (u:Tab):Prop:=∃(E:Option Addr) (ce:Nat) (F:Option Addr) (cf:Nat),Cls wx Bm (T6 u E ce F cf)∧TbW w1.heap.size wx u E ce F cf∧Below w1.heap.size w1 wx∧w1.heap.size≤Bm
theorem kd {w1 w2:World} {u:Tab} {E:Option Addr} {ce:Nat} {F:Option Addr} {cf:Nat} (hB:Cls w2 w1.heap.size Z6) (hT:TbW (w1.heap.size+1) w2 u E ce F cf) (hb:Below w1.heap.size w1 w2) :
  TbR w1 ((((((w2.setCell ⟨w1.heap.size,0,none⟩ (V I u.c.c0)).setCell ⟨w1.heap.size,1,none⟩ (V I u.c.c1)).setCell ⟨w1.heap.size,2,none⟩ (V I u.c.c2)).setCell ⟨w1.heap.size,3,none⟩ (V I u.c.c3)).setCell ⟨w1.heap.size,4,none⟩ (J E u.c.l.length ce)).setCell ⟨w1.heap.size,5,none⟩ (J F u.e.length cf)) w1.heap.size u :=
 ⟨E,ce,F,cf,(((((hB.put 0 _).put 1 _).put 2 _).put 3 _).put 4 _).put 5 _,(hT.agr (jX (fun h=>by omega) _ _ _ _ _ _)).mono (by omega),aq hb (nR _) _ _ _ _ _ _,nR _⟩
theorem lO {w1 w2:World} {u:Tab} {E:Option Addr} {ce:Nat} {F:Option Addr} {cf:Nat} {T:TypeId} (hT:TbW w1.heap.size w2 u E ce F cf) (hb:Below w1.heap.size w1 w2) :
  TbR w1 (w2.alloc (Z #[V I u.c.c0,V I u.c.c1,V I u.c.c2,V I u.c.c3,J E u.c.l.length ce,J F u.e.length cf] T)) w2.heap.size u :=
 ⟨E,ce,F,cf,Cls.new w2 _ T,hT.below ((gR w2).alloc _).below,hb.alloc hb.size _,hb.size⟩

theorem rJ {w:World} {N O:Nat} {P:Nat→Prop} {id:Int} {s t:Tab} {qs:List (List Stp)} (h:Nd w N O P id s t qs) (a b:Tab) (PA PB PC PD:Option Addr) (pca pcb pcc pcd:Nat) (ra:Row w PA a.c.l) (rc:bw w PC a.e) (rb:Row w PB b.c.l) (rd:bw w PD b.e) (la:a.c.l.length≤maxLen) (lc:a.e.length≤maxLen) (lb:b.c.l.length≤maxLen) (ld:b.e.length≤maxLen) (na:PA=none→pca=0) (nb:PB=none→pcb=0) :
  Calls Tryz.prog 54 #[H (some ⟨N,O,none⟩),Y (T2 a PA pca PC pcc b PB pcb PD pcd).toArray] w fun e w'=>e= .returned (V I (tkE s t a b))∧Nd w' N O (ag P w.heap.size w'.heap.size) id (tkS s t a b) (tkT s t a b) qs∧Wr N (O+1) (O+37) w w':=by
 have mixed:Tryz.prog.follows .mixedOrders=true:=by kernel_rfl
 have hx0:=qR (V I a.c.c0) (V I a.c.c1) (V I a.c.c2) (V I a.c.c3) (J PA a.c.l.length pca) (J PC a.e.length pcc) (V I b.c.c0) (V I b.c.c1) (V I b.c.c2) (V I b.c.c3) (J PB b.c.l.length pcb) (J PD b.e.length pcd)
 have hx1:=qS (V I a.c.c0) (V I a.c.c1) (V I a.c.c2) (V I a.c.c3) (J PA a.c.l.length pca) (J PC a.e.length pcc) (V I b.c.c0) (V I b.c.c1) (V I b.c.c2) (V I b.c.c3) (J PB b.c.l.length pcb) (J PD b.e.length pcd)
 obtain ⟨A,ca,C,cc,hcs,hts⟩:=h.ts
 obtain ⟨B,cb,D,cd,hct,htt⟩:=h.tt
 have hPk:Hid (Row w PA a.c.l∧bw w PC a.e∧Row w PB b.c.l∧bw w PD b.e∧a.c.l.length≤maxLen∧a.e.length≤maxLen∧b.c.l.length≤maxLen∧b.e.length≤maxLen∧(PA=none→pca=0)∧(PB=none→pcb=0)):=⟨ra,rc,rb,rd,la,lc,lb,ld,na,nb⟩
 have hH:Hid (Nd w N O P id s t qs∧TbP P w s A ca C cc∧TbP P w t B cb D cd∧TbC w N (O+1) s A ca C cc∧TbC w N (O+7) t B cb D cd):=⟨h,hts,htt,hcs,hct⟩
 clear h hts htt hcs hct ra rc rb rd la lc lb ld na nb
 go_enter Tryz.func54,Tryz.ntmps54
 go_wp2
 obtain ⟨w1,hw1⟩:∃W,(w.alloc (Z #[V I a.c.c0,V I a.c.c1,V I a.c.c2,V I a.c.c3,J PA a.c.l.length pca,J PC a.e.length pcc,V I b.c.c0,V I b.c.c1,V I b.c.c2,V I b.c.c3,J PB b.c.l.length pcb,J PD b.e.length pcd] 90)).alloc (Z #[V I 0,V I 0,V I 0,V I 0,J none 0 0,J none 0 0,V I 0,V I 0,V I 0,V I 0,J none 0 0,J none 0 0] 48)=W:=⟨_,rfl⟩
 rw[hw1]
 have hI:Hid (Below w.heap.size w w1∧Cls w1 (w.heap.size+1) Z2):=by
  refine ⟨by rw[←hw1];exact (((gR w).alloc _).alloc _).below,?_⟩
  have:=Cls.new (w.alloc (Z #[V I a.c.c0,V I a.c.c1,V I a.c.c2,V I a.c.c3,J PA a.c.l.length pca,J PC a.e.length pcc,V I b.c.c0,V I b.c.c1,V I b.c.c2,V I b.c.c3,J PB b.c.l.length pcb,J PD b.e.length pcd] 90)) #[V I 0,V I 0,V I 0,V I 0,J none 0 0,J none 0 0,V I 0,V I 0,V I 0,V I 0,J none 0 0,J none 0 0] 48
  rw[hw1,show (w.alloc (Z #[V I a.c.c0,V I a.c.c1,V I a.c.c2,V I a.c.c3,J PA a.c.l.length pca,J PC a.e.length pcc,V I b.c.c0,V I b.c.c1,V I b.c.c2,V I b.c.c3,J PB b.c.l.length pcb,J PD b.e.length pcd] 90)).heap.size=w.heap.size+1 by simp] at this
  exact this
 clear hw1
 have hw1l:Hid (w.heap.size+1<w1.heap.size):=hI.out.2.lt
 refine wp_loop_rounds 3 ?_
 rw[rounds_succ]
 go_upto_region 5 with fail
 obtain ⟨wb0,hwb⟩:∃W,w1.alloc (Z #[V I a.c.c0,V I a.c.c1,V I a.c.c2,V I a.c.c3,J PA a.c.l.length pca,J PC a.e.length pcc] 41)=W:=⟨_,rfl⟩
 rw[hwb]
 have hA:Hid (Gr w1 wb0∧Below w.heap.size w wb0∧Cls wb0 w1.heap.size (T6 a PA pca PC pcc)∧Cls wb0 (w.heap.size+1) Z2∧N<wb0.heap.size∧TbC wb0 N (O+1) s A ca C cc∧TbC wb0 N (O+7) t B cb D cd):=by
  have hg:Gr w1 wb0:=by rw[←hwb];exact (gR _).alloc _
  have hb:=hI.out.1.trans (hg.below.mono hI.out.1.size)
  have hlt:=hH.out.1.blk.lt
  exact ⟨hg,hb,by rw[←hwb];exact Cls.new w1 _ _,hI.out.2.gr hg,nL hlt hb.size,hH.out.2.2.2.1.keep fun j _ _=>hb.cell (p:=⟨N,j,none⟩) hlt,hH.out.2.2.2.2.keep fun j _ _=>hb.cell (p:=⟨N,j,none⟩) hlt⟩
 clear hwb
 obtain ⟨ME0,hME⟩:∃E,al s a=E:=⟨_,rfl⟩
 obtain ⟨MT0,hMT⟩:∃E,ac s a=E:=⟨_,rfl⟩
 have hME0:Hid (al s a=ME0∧ac s a=MT0):=⟨hME,hMT⟩
 have hM:Hid (∀W,Below wb0.heap.size wb0 W→Calls Tryz.prog 75 #[Y (T6 s A ca C cc).toArray,Y (T6 a PA pca PC pcc).toArray] W fun e w'=>∃E ce F cf,e= .returned (X #[Y (T6 MT0 E ce F cf).toArray,V I ME0])∧TbW W.heap.size w' MT0 E ce F cf∧Below W.heap.size W w'):=fun W hW=>by
  have hb:=hA.out.2.1.trans (hW.mono hA.out.2.1.size)
  have hr5:=hH.out.2.1.below hb
  have hm:=iR s a A PA C PC ca pca cc pcc W hr5.len.1 hPk.out.2.2.2.2.1 hr5.len.2 hPk.out.2.2.2.2.2.1 hr5.nr hPk.out.2.2.2.2.2.2.2.2.1 (hr5.row) (hPk.out.1.below hb) (hr5.cel) (hPk.out.2.1.below hb)
  rw[hME,hMT] at hm
  refine hm.mono ?_
  rintro e w' ⟨E,ce,F,cf,rfl,f1,f2,f3,f4,f5,f6,f7⟩
  exact ⟨E,ce,F,cf,rfl,⟨f1,f2,f3,f4,f5,f6⟩,f7⟩
 clear hME hMT
 go_cut [8,9,12] from 12 to 33 (fun v8 v9 v12 wx=>v9= V I ME0∧v12= V I 0∧∃Bm:Nat,v8= H (some ⟨Bm,0,none⟩)∧TbR wb0 wx Bm MT0)
 case first =>
  have hD0:Hid (Below wb0.heap.size wb0 wb0.drew):=(gR wb0).drew.below
  have hD1:Hid (Below wb0.heap.size wb0 (wb0.alloc (Z #[V I 0,V I 0,V I 0,V I 0,J none 0 0,J none 0 0] 41)).drew):=((gR wb0).alloc _).drew.below
  have hle0:Hid (wb0.heap.size≤wb0.drew.heap.size):=nR _
  have hle1:Hid (wb0.heap.size+1≤(wb0.alloc (Z #[V I 0,V I 0,V I 0,V I 0,J none 0 0,J none 0 0] 41)).drew.heap.size):=by show _≤(wb0.alloc _).heap.size;simp
  have hKeep:Hid (∀W,Below wb0.heap.size wb0 W→(fun w'=>w'.cell? ⟨w1.heap.size,0,none⟩=some (V I a.c.c0)∧w'.cell? ⟨w1.heap.size,1,none⟩=some (V I a.c.c1)∧w'.cell? ⟨w1.heap.size,2,none⟩=some (V I a.c.c2)∧w'.cell? ⟨w1.heap.size,3,none⟩=some (V I a.c.c3)∧w'.cell? ⟨w1.heap.size,4,none⟩=some (J PA a.c.l.length pca)∧w'.cell? ⟨w1.heap.size,5,none⟩=some (J PC a.e.length pcc)∧w'.cell? ⟨N,O+1,none⟩=some (V I s.c.c0)∧w'.cell? ⟨N,O+2,none⟩=some (V I s.c.c1)∧w'.cell? ⟨N,O+3,none⟩=some (V I s.c.c2)∧w'.cell? ⟨N,O+4,none⟩=some (V I s.c.c3)∧w'.cell? ⟨N,O+5,none⟩=some (J A s.c.l.length ca)∧w'.cell? ⟨N,O+6,none⟩=some (J C s.e.length cc)) W):=fun W hW=>⟨(hA.out.2.2.1.below hW).cell (j:=0) rfl,(hA.out.2.2.1.below hW).cell (j:=1) rfl,(hA.out.2.2.1.below hW).cell (j:=2) rfl,(hA.out.2.2.1.below hW).cell (j:=3) rfl,(hA.out.2.2.1.below hW).cell (j:=4) rfl,(hA.out.2.2.1.below hW).cell (j:=5) rfl,(hW.cell (p:=⟨N,O+1,none⟩) hA.out.2.2.2.2.1).trans hA.out.2.2.2.2.2.1.k0,(hW.cell (p:=⟨N,O+2,none⟩) hA.out.2.2.2.2.1).trans hA.out.2.2.2.2.2.1.k1,(hW.cell (p:=⟨N,O+3,none⟩) hA.out.2.2.2.2.1).trans hA.out.2.2.2.2.2.1.k2,(hW.cell (p:=⟨N,O+4,none⟩) hA.out.2.2.2.2.1).trans hA.out.2.2.2.2.2.1.k3,(hW.cell (p:=⟨N,O+5,none⟩) hA.out.2.2.2.2.1).trans hA.out.2.2.2.2.2.1.k4,(hW.cell (p:=⟨N,O+6,none⟩) hA.out.2.2.2.2.1).trans hA.out.2.2.2.2.2.1.k5⟩
  refine wp_region_noPanic ?_
  refine wp_region_held_drew (S:=(fun w'=>w'.cell? ⟨w1.heap.size,0,none⟩=some (V I a.c.c0)∧w'.cell? ⟨w1.heap.size,1,none⟩=some (V I a.c.c1)∧w'.cell? ⟨w1.heap.size,2,none⟩=some (V I a.c.c2)∧w'.cell? ⟨w1.heap.size,3,none⟩=some (V I a.c.c3)∧w'.cell? ⟨w1.heap.size,4,none⟩=some (J PA a.c.l.length pca)∧w'.cell? ⟨w1.heap.size,5,none⟩=some (J PC a.e.length pcc)∧w'.cell? ⟨N,O+1,none⟩=some (V I s.c.c0)∧w'.cell? ⟨N,O+2,none⟩=some (V I s.c.c1)∧w'.cell? ⟨N,O+3,none⟩=some (V I s.c.c2)∧w'.cell? ⟨N,O+4,none⟩=some (V I s.c.c3)∧w'.cell? ⟨N,O+5,none⟩=some (J A s.c.l.length ca)∧w'.cell? ⟨N,O+6,none⟩=some (J C s.e.length cc))) (by kernel_rfl) (hKeep.out _ hD0.out) (fun hHeld=> ?_)
  show wpAnyH _ _ _ _ _ 14 _ _ _
  repeat' first
   | with_reducible exact AllReadyH.nil
   | (
    (with_reducible refine isW ?_);refine wpAnyH_done (by decide +kernel) ?_ _
    refine NoPanic.normal ?_
    go_wp2_with fail
    go_meet
    case rel=>exact ⟨rfl,rfl,_,rfl,(by first|with_reducible exact lO (hT2.out.mono hle0.out) hF.out|with_reducible exact kd hB2.out (hT2.out.mono hle1.out) hF.out)⟩)
   | (
    (with_reducible refine isW ?_);first
     | refine tkk 0 [1,2,3,4,5,6] (by assumption) (v:= ?_) (by simp only[zA,z0',zS];rfl) (by decide +kernel) ?_ ?_
     | refine tkk 8 [9,10] (by assumption) (v:= ?_) (by simp only[zA,z0',zS];rfl) (by decide +kernel) ?_ ?_
     | refine tkk 13 [] (by assumption) (v:= ?_) (by simp only[zA,z0',zS];rfl) (by decide +kernel) ?_ ?_
    rotate_left
    ·(refine oL ⟨by rfl,?_⟩;intro w hSw;(try dsimp only at hSw);go_simp<;>with_reducible rfl)
    try simp only[Act.put,yA,aD,yS]
    repeat (refine tk (v:= ?_) (by simp only[zA,z0',zS];rfl) (by kernel_rfl) ?_ ?_;rotate_left;· (refine oL ⟨by rfl,?_⟩;intro w hSw;(try dsimp only at hSw);go_simp<;>with_reducible rfl);try simp only[Act.put,yA,aD,yS])
    refine tk0 ?_)
   | ((with_reducible refine isW ?_);first
     | refine wpAnyH_ready (rs:=[7,11]) (by decide +kernel) (by simp) ?_
     | refine wpAnyH_ready (rs:=[11]) (by decide +kernel) (by simp) ?_
     | refine wpAnyH_ready (rs:=[12]) (by decide +kernel) (by simp) ?_
     | refine wpAnyH_ready (rs:=[7]) (by decide +kernel) (by simp) ?_)
   | ((with_reducible refine isR ?_);refine rdc (by simp only[zA,z0',zS];rfl) ?_ fun K hK=> ?_)
   | (
    go_simp
    first
     | ((go_at_call 75;(with_reducible refine cM (hM.out _ (by first|with_reducible exact hD0.out|with_reducible exact hD1.out)) ?_);rintro e w2 ⟨E,ce,F,cf,rfl,f2,f3⟩;have hF:Hid (Below wb0.heap.size wb0 w2):=(by first|exact hD0.out.trans (f3.mono hD0.out.size)|exact hD1.out.trans (f3.mono hD1.out.size));have hT2:Hid _:=f2;(first|(have hB2:Hid (Cls w2 wb0.heap.size Z6):=((Cls.new wb0 #[V I 0,V I 0,V I 0,V I 0,J none 0 0,J none 0 0] 41).gr (gR _).drew).below f3)|skip);clear f2 f3;(first|(have p0:=hB2.out.cell (j:=0) rfl;have z0:=hB2.out.fz 0;have p1:=hB2.out.cell (j:=1) rfl;have z1:=hB2.out.fz 1;have p2:=hB2.out.cell (j:=2) rfl;have z2:=hB2.out.fz 2;have p3:=hB2.out.cell (j:=3) rfl;have z3:=hB2.out.fz 3;have p4:=hB2.out.cell (j:=4) rfl;have z4:=hB2.out.fz 4;have p5:=hB2.out.cell (j:=5) rfl;have z5:=hB2.out.fz 5)|skip));first|(go_wp2_with fail)|skip)
     | skip
    refine hK.out _ _ ?_ (fun hHeld=> ?_)
    ·(try dsimp only);exact hKeep.out _ (by first|with_reducible exact hD0.out|with_reducible exact hD1.out|with_reducible exact hF.out|with_reducible exact hF.out.alloc hF.out.size _|exact aq hF.out (nR _) _ _ _ _ _ _)
    clear hK K
    try simp only[Act.put,yA,aD,yS])
 rename World=>wx0
 obtain ⟨rfl,rfl,Bm,rfl,hTR⟩:=hcut
 obtain ⟨MA,mca,MC,mcc,g1,g2,g3,g4⟩:=hTR
 have hN:Hid (Cls wx0 Bm (T6 MT0 MA mca MC mcc)∧TbW wb0.heap.size wx0 MT0 MA mca MC mcc∧Below w.heap.size w wx0∧Cls wx0 (w.heap.size+1) Z2∧wb0.heap.size≤Bm):=⟨g1,g2,hA.out.2.1.trans (g3.mono hA.out.2.1.size),hA.out.2.2.2.1.below g3,g4⟩
 have hsz0:Hid (w1.heap.size<wb0.heap.size):=hA.out.2.2.1.lt
 clear g1 g2 g3 g4 hM
 cases hn:(ME0 != 0)
 rotate_left
 focus
  have hfin:Hid (tkE s t a b=ME0∧¬tkE s t a b=0):=by
   have h0:¬ME0=0:=by simpa using hn
   have h1:tkE s t a b=ME0:=by unfold tkE;rw[if_neg (by rw[hME0.out.1];exact h0)];exact hME0.out.1
   exact ⟨h1,by rw[h1];exact h0⟩
  go_wp2
  go_ret
  refine ⟨by rw[hfin.out.1];rfl,?_,Wr.of hN.out.2.2.1 hH.out.1.blk.lt⟩
  unfold tkS tkT
  rw[if_neg hfin.out.2,if_neg hfin.out.2]
  have hn2:=hH.out.1.below hN.out.2.2.1
  exact hn2.mono (fun b hb=>ag.old b hb) (cZ hH.out.1.out hH.out.1.blk.lt) (fa fun b hb=>hn2.up b hb)
 have h0:ME0=0:=by simpa using hn
 have h0I0:Hid (ME0=0):=h0
 clear hn h0
 have hB0:(ME0 != 0)=false:=by rw[h0I0.out];rfl
 obtain ⟨c0,c1,c2,c3,c4,c5⟩:=gw hN.out.1
 obtain ⟨p0,p1,p2,p3,p4,p5⟩:=gw hN.out.2.2.2.1
 obtain ⟨z0,z1,z2,z3,z4,z5⟩:=sn hN.out.2.2.2.1
 go_wp2
 obtain ⟨wd0,hwd⟩:∃W,((((((wx0.setCell ⟨w.heap.size+1,0,none⟩ (V I MT0.c.c0)).setCell ⟨w.heap.size+1,1,none⟩ (V I MT0.c.c1)).setCell ⟨w.heap.size+1,2,none⟩ (V I MT0.c.c2)).setCell ⟨w.heap.size+1,3,none⟩ (V I MT0.c.c3)).setCell ⟨w.heap.size+1,4,none⟩ (J MA MT0.c.l.length mca)).setCell ⟨w.heap.size+1,5,none⟩ (J MC MT0.e.length mcc))=W:=⟨_,rfl⟩
 rw[hwd]
 have hJ:Hid (TbW wb0.heap.size wd0 MT0 MA mca MC mcc∧Below w.heap.size w wd0∧Cls wd0 (w.heap.size+1) [V I MT0.c.c0,V I MT0.c.c1,V I MT0.c.c2,V I MT0.c.c3,J MA MT0.c.l.length mca,J MC MT0.e.length mcc,V I 0,V I 0,V I 0,V I 0,J none 0 0,J none 0 0]):=by
  have hsz:=hsz0.out
  have hlw:=hI.out.1.size
  have hl1:=hI.out.2.lt
  refine ⟨?_,?_,?_⟩
  ·rw[←hwd];exact hN.out.2.1.agr ((((((aS _ fun h=>by omega).trans (aS _ fun h=>by omega)).trans (aS _ fun h=>by omega)).trans (aS _ fun h=>by omega)).trans (aS _ fun h=>by omega)).trans (aS _ fun h=>by omega))
  ·have hge:w.heap.size≤w.heap.size+1:=by omega
   rw[←hwd];exact (((((hN.out.2.2.1.setCell hge _).setCell hge _).setCell hge _).setCell hge _).setCell hge _).setCell hge _
  ·rw[←hwd];exact (((((hN.out.2.2.2.1.put 0 _).put 1 _).put 2 _).put 3 _).put 4 _).put 5 _

 clear hwd hB0 c0 c1 c2 c3 c4 c5 p0 z0 p1 z1 p2 z2 p3 z3 p4 z4 p5 z5
 have hI0:Hid (TbW wb0.heap.size wd0 MT0 MA mca MC mcc):=hJ.out.1
 have hszw0:Hid (w.heap.size≤wb0.heap.size):=hA.out.2.1.size
 clear hA hN hI
 have hI:Hid (Below w.heap.size w wd0∧Cls wd0 (w.heap.size+1) [V I MT0.c.c0,V I MT0.c.c1,V I MT0.c.c2,V I MT0.c.c3,J MA MT0.c.l.length mca,J MC MT0.e.length mcc,V I 0,V I 0,V I 0,V I 0,J none 0 0,J none 0 0]):=⟨hJ.out.2.1,hJ.out.2.2⟩
 have hszw:Hid (w.heap.size≤wb0.heap.size∧True):=⟨hszw0.out,trivial⟩
 clear hJ
 rw[rounds_succ]
 go_upto_region 5 with fail
 obtain ⟨wb1,hwb⟩:∃W,wd0.alloc (Z #[V I b.c.c0,V I b.c.c1,V I b.c.c2,V I b.c.c3,J PB b.c.l.length pcb,J PD b.e.length pcd] 41)=W:=⟨_,rfl⟩
 rw[hwb]
 have hA:Hid (Gr wd0 wb1∧Below w.heap.size w wb1∧Cls wb1 wd0.heap.size (T6 b PB pcb PD pcd)∧Cls wb1 (w.heap.size+1) [V I MT0.c.c0,V I MT0.c.c1,V I MT0.c.c2,V I MT0.c.c3,J MA MT0.c.l.length mca,J MC MT0.e.length mcc,V I 0,V I 0,V I 0,V I 0,J none 0 0,J none 0 0]∧N<wb1.heap.size∧TbC wb1 N (O+1) s A ca C cc∧TbC wb1 N (O+7) t B cb D cd):=by
  have hg:Gr wd0 wb1:=by rw[←hwb];exact (gR _).alloc _
  have hb:=hI.out.1.trans (hg.below.mono hI.out.1.size)
  have hlt:=hH.out.1.blk.lt
  exact ⟨hg,hb,by rw[←hwb];exact Cls.new wd0 _ _,hI.out.2.gr hg,nL hlt hb.size,hH.out.2.2.2.1.keep fun j _ _=>hb.cell (p:=⟨N,j,none⟩) hlt,hH.out.2.2.2.2.keep fun j _ _=>hb.cell (p:=⟨N,j,none⟩) hlt⟩
 clear hwb
 obtain ⟨ME1,hME⟩:∃E,al t b=E:=⟨_,rfl⟩
 obtain ⟨MT1,hMT⟩:∃E,ac t b=E:=⟨_,rfl⟩
 have hME1:Hid (al t b=ME1∧ac t b=MT1):=⟨hME,hMT⟩
 have hM:Hid (∀W,Below wb1.heap.size wb1 W→Calls Tryz.prog 75 #[Y (T6 t B cb D cd).toArray,Y (T6 b PB pcb PD pcd).toArray] W fun e w'=>∃E ce F cf,e= .returned (X #[Y (T6 MT1 E ce F cf).toArray,V I ME1])∧TbW W.heap.size w' MT1 E ce F cf∧Below W.heap.size W w'):=fun W hW=>by
  have hb:=hA.out.2.1.trans (hW.mono hA.out.2.1.size)
  have hr5:=hH.out.2.2.1.below hb
  have hm:=iR t b B PB D PD cb pcb cd pcd W hr5.len.1 hPk.out.2.2.2.2.2.2.1 hr5.len.2 hPk.out.2.2.2.2.2.2.2.1 hr5.nr hPk.out.2.2.2.2.2.2.2.2.2 (hr5.row) (hPk.out.2.2.1.below hb) (hr5.cel) (hPk.out.2.2.2.1.below hb)
  rw[hME,hMT] at hm
  refine hm.mono ?_
  rintro e w' ⟨E,ce,F,cf,rfl,f1,f2,f3,f4,f5,f6,f7⟩
  exact ⟨E,ce,F,cf,rfl,⟨f1,f2,f3,f4,f5,f6⟩,f7⟩
 clear hME hMT
 go_cut [8,9,12] from 12 to 33 (fun v8 v9 v12 wx=>v9= V I ME1∧v12= V I 1∧∃Bm:Nat,v8= H (some ⟨Bm,0,none⟩)∧TbR wb1 wx Bm MT1)
 case first =>
  have hD0:Hid (Below wb1.heap.size wb1 wb1.drew):=(gR wb1).drew.below
  have hD1:Hid (Below wb1.heap.size wb1 (wb1.alloc (Z #[V I 0,V I 0,V I 0,V I 0,J none 0 0,J none 0 0] 41)).drew):=((gR wb1).alloc _).drew.below
  have hle0:Hid (wb1.heap.size≤wb1.drew.heap.size):=nR _
  have hle1:Hid (wb1.heap.size+1≤(wb1.alloc (Z #[V I 0,V I 0,V I 0,V I 0,J none 0 0,J none 0 0] 41)).drew.heap.size):=by show _≤(wb1.alloc _).heap.size;simp
  have hKeep:Hid (∀W,Below wb1.heap.size wb1 W→(fun w'=>w'.cell? ⟨wd0.heap.size,0,none⟩=some (V I b.c.c0)∧w'.cell? ⟨wd0.heap.size,1,none⟩=some (V I b.c.c1)∧w'.cell? ⟨wd0.heap.size,2,none⟩=some (V I b.c.c2)∧w'.cell? ⟨wd0.heap.size,3,none⟩=some (V I b.c.c3)∧w'.cell? ⟨wd0.heap.size,4,none⟩=some (J PB b.c.l.length pcb)∧w'.cell? ⟨wd0.heap.size,5,none⟩=some (J PD b.e.length pcd)∧w'.cell? ⟨N,O+7,none⟩=some (V I t.c.c0)∧w'.cell? ⟨N,O+8,none⟩=some (V I t.c.c1)∧w'.cell? ⟨N,O+9,none⟩=some (V I t.c.c2)∧w'.cell? ⟨N,O+10,none⟩=some (V I t.c.c3)∧w'.cell? ⟨N,O+11,none⟩=some (J B t.c.l.length cb)∧w'.cell? ⟨N,O+12,none⟩=some (J D t.e.length cd)) W):=fun W hW=>⟨(hA.out.2.2.1.below hW).cell (j:=0) rfl,(hA.out.2.2.1.below hW).cell (j:=1) rfl,(hA.out.2.2.1.below hW).cell (j:=2) rfl,(hA.out.2.2.1.below hW).cell (j:=3) rfl,(hA.out.2.2.1.below hW).cell (j:=4) rfl,(hA.out.2.2.1.below hW).cell (j:=5) rfl,(hW.cell (p:=⟨N,O+7,none⟩) hA.out.2.2.2.2.1).trans hA.out.2.2.2.2.2.2.k0,(hW.cell (p:=⟨N,O+8,none⟩) hA.out.2.2.2.2.1).trans hA.out.2.2.2.2.2.2.k1,(hW.cell (p:=⟨N,O+9,none⟩) hA.out.2.2.2.2.1).trans hA.out.2.2.2.2.2.2.k2,(hW.cell (p:=⟨N,O+10,none⟩) hA.out.2.2.2.2.1).trans hA.out.2.2.2.2.2.2.k3,(hW.cell (p:=⟨N,O+11,none⟩) hA.out.2.2.2.2.1).trans hA.out.2.2.2.2.2.2.k4,(hW.cell (p:=⟨N,O+12,none⟩) hA.out.2.2.2.2.1).trans hA.out.2.2.2.2.2.2.k5⟩
  refine wp_region_noPanic ?_
  refine wp_region_held_drew (S:=(fun w'=>w'.cell? ⟨wd0.heap.size,0,none⟩=some (V I b.c.c0)∧w'.cell? ⟨wd0.heap.size,1,none⟩=some (V I b.c.c1)∧w'.cell? ⟨wd0.heap.size,2,none⟩=some (V I b.c.c2)∧w'.cell? ⟨wd0.heap.size,3,none⟩=some (V I b.c.c3)∧w'.cell? ⟨wd0.heap.size,4,none⟩=some (J PB b.c.l.length pcb)∧w'.cell? ⟨wd0.heap.size,5,none⟩=some (J PD b.e.length pcd)∧w'.cell? ⟨N,O+7,none⟩=some (V I t.c.c0)∧w'.cell? ⟨N,O+8,none⟩=some (V I t.c.c1)∧w'.cell? ⟨N,O+9,none⟩=some (V I t.c.c2)∧w'.cell? ⟨N,O+10,none⟩=some (V I t.c.c3)∧w'.cell? ⟨N,O+11,none⟩=some (J B t.c.l.length cb)∧w'.cell? ⟨N,O+12,none⟩=some (J D t.e.length cd))) (by kernel_rfl) (hKeep.out _ hD0.out) (fun hHeld=> ?_)
  show wpAnyH _ _ _ _ _ 14 _ _ _
  repeat' first
   | with_reducible exact AllReadyH.nil
   | (
    (with_reducible refine isW ?_);refine wpAnyH_done (by decide +kernel) ?_ _
    refine NoPanic.normal ?_
    go_wp2_with fail
    go_meet
    case rel=>exact ⟨rfl,rfl,_,rfl,(by first|with_reducible exact lO (hT2.out.mono hle0.out) hF.out|with_reducible exact kd hB2.out (hT2.out.mono hle1.out) hF.out)⟩)
   | (
    (with_reducible refine isW ?_);first
     | refine tkk 0 [1,2,3,4,5,6] (by assumption) (v:= ?_) (by simp only[zA,z0',zS];rfl) (by decide +kernel) ?_ ?_
     | refine tkk 8 [9,10] (by assumption) (v:= ?_) (by simp only[zA,z0',zS];rfl) (by decide +kernel) ?_ ?_
     | refine tkk 13 [] (by assumption) (v:= ?_) (by simp only[zA,z0',zS];rfl) (by decide +kernel) ?_ ?_
    rotate_left
    ·(refine oL ⟨by rfl,?_⟩;intro w hSw;(try dsimp only at hSw);go_simp<;>with_reducible rfl)
    try simp only[Act.put,yA,aD,yS]
    repeat (refine tk (v:= ?_) (by simp only[zA,z0',zS];rfl) (by kernel_rfl) ?_ ?_;rotate_left;· (refine oL ⟨by rfl,?_⟩;intro w hSw;(try dsimp only at hSw);go_simp<;>with_reducible rfl);try simp only[Act.put,yA,aD,yS])
    refine tk0 ?_)
   | ((with_reducible refine isW ?_);first
     | refine wpAnyH_ready (rs:=[7,11]) (by decide +kernel) (by simp) ?_
     | refine wpAnyH_ready (rs:=[11]) (by decide +kernel) (by simp) ?_
     | refine wpAnyH_ready (rs:=[12]) (by decide +kernel) (by simp) ?_
     | refine wpAnyH_ready (rs:=[7]) (by decide +kernel) (by simp) ?_)
   | ((with_reducible refine isR ?_);refine rdc (by simp only[zA,z0',zS];rfl) ?_ fun K hK=> ?_)
   | (
    go_simp
    first
     | ((go_at_call 75;(with_reducible refine cM (hM.out _ (by first|with_reducible exact hD0.out|with_reducible exact hD1.out)) ?_);rintro e w2 ⟨E,ce,F,cf,rfl,f2,f3⟩;have hF:Hid (Below wb1.heap.size wb1 w2):=(by first|exact hD0.out.trans (f3.mono hD0.out.size)|exact hD1.out.trans (f3.mono hD1.out.size));have hT2:Hid _:=f2;(first|(have hB2:Hid (Cls w2 wb1.heap.size Z6):=((Cls.new wb1 #[V I 0,V I 0,V I 0,V I 0,J none 0 0,J none 0 0] 41).gr (gR _).drew).below f3)|skip);clear f2 f3;(first|(have p0:=hB2.out.cell (j:=0) rfl;have z0:=hB2.out.fz 0;have p1:=hB2.out.cell (j:=1) rfl;have z1:=hB2.out.fz 1;have p2:=hB2.out.cell (j:=2) rfl;have z2:=hB2.out.fz 2;have p3:=hB2.out.cell (j:=3) rfl;have z3:=hB2.out.fz 3;have p4:=hB2.out.cell (j:=4) rfl;have z4:=hB2.out.fz 4;have p5:=hB2.out.cell (j:=5) rfl;have z5:=hB2.out.fz 5)|skip));first|(go_wp2_with fail)|skip)
     | skip
    refine hK.out _ _ ?_ (fun hHeld=> ?_)
    ·(try dsimp only);exact hKeep.out _ (by first|with_reducible exact hD0.out|with_reducible exact hD1.out|with_reducible exact hF.out|with_reducible exact hF.out.alloc hF.out.size _|exact aq hF.out (nR _) _ _ _ _ _ _)
    clear hK K
    try simp only[Act.put,yA,aD,yS])
 rename World=>wx1
 obtain ⟨rfl,rfl,Bm,rfl,hTR⟩:=hcut
 obtain ⟨MB,mcb,MD,mcd,g1,g2,g3,g4⟩:=hTR
 have hN:Hid (Cls wx1 Bm (T6 MT1 MB mcb MD mcd)∧TbW wb1.heap.size wx1 MT1 MB mcb MD mcd∧Below w.heap.size w wx1∧Cls wx1 (w.heap.size+1) [V I MT0.c.c0,V I MT0.c.c1,V I MT0.c.c2,V I MT0.c.c3,J MA MT0.c.l.length mca,J MC MT0.e.length mcc,V I 0,V I 0,V I 0,V I 0,J none 0 0,J none 0 0]∧wb1.heap.size≤Bm):=⟨g1,g2,hA.out.2.1.trans (g3.mono hA.out.2.1.size),hA.out.2.2.2.1.below g3,g4⟩
 have hszB:Hid (wd0.heap.size<wb1.heap.size):=hA.out.2.2.1.lt
 have hg3H:Hid (Below wb1.heap.size wb1 wx1):=g3
 clear g1 g2 g3 g4 hM
 cases hn:(ME1 != 0)
 rotate_left
 focus
  have hfin:Hid (tkE s t a b=ME1∧¬tkE s t a b=0):=by
   have h0:¬ME1=0:=by simpa using hn
   have h1:tkE s t a b=ME1:=by unfold tkE;rw[if_pos (by rw[hME0.out.1];exact h0I0.out)];exact hME1.out.1
   exact ⟨h1,by rw[h1];exact h0⟩
  go_wp2
  go_ret
  refine ⟨by rw[hfin.out.1];rfl,?_,Wr.of hN.out.2.2.1 hH.out.1.blk.lt⟩
  unfold tkS tkT
  rw[if_neg hfin.out.2,if_neg hfin.out.2]
  have hn2:=hH.out.1.below hN.out.2.2.1
  exact hn2.mono (fun b hb=>ag.old b hb) (cZ hH.out.1.out hH.out.1.blk.lt) (fa fun b hb=>hn2.up b hb)
 have h0:ME1=0:=by simpa using hn
 have h0I1:Hid (ME1=0):=h0
 clear hn h0
 have hB0:(ME1 != 0)=false:=by rw[h0I1.out];rfl
 obtain ⟨c0,c1,c2,c3,c4,c5⟩:=gw hN.out.1
 obtain ⟨p6,p7,p8,p9,p10,p11⟩:=yJ hN.out.2.2.2.1
 obtain ⟨z6,z7,z8,z9,z10,z11⟩:=AW hN.out.2.2.2.1
 go_wp2
 obtain ⟨wd1,hwd⟩:∃W,((((((wx1.setCell ⟨w.heap.size+1,6,none⟩ (V I MT1.c.c0)).setCell ⟨w.heap.size+1,7,none⟩ (V I MT1.c.c1)).setCell ⟨w.heap.size+1,8,none⟩ (V I MT1.c.c2)).setCell ⟨w.heap.size+1,9,none⟩ (V I MT1.c.c3)).setCell ⟨w.heap.size+1,10,none⟩ (J MB MT1.c.l.length mcb)).setCell ⟨w.heap.size+1,11,none⟩ (J MD MT1.e.length mcd))=W:=⟨_,rfl⟩
 rw[hwd]
 have hJ:Hid (TbW wb1.heap.size wd1 MT1 MB mcb MD mcd∧Below w.heap.size w wd1∧Cls wd1 (w.heap.size+1) (T2 MT0 MA mca MC mcc MT1 MB mcb MD mcd)∧TbW wb0.heap.size wd1 MT0 MA mca MC mcc):=by
  have hsz:=hszB.out
  have hlw:=hI.out.1.size
  have hl1:=hI.out.2.lt
  refine ⟨?_,?_,?_,?_⟩
  ·rw[←hwd];exact hN.out.2.1.agr ((((((aS _ fun h=>by omega).trans (aS _ fun h=>by omega)).trans (aS _ fun h=>by omega)).trans (aS _ fun h=>by omega)).trans (aS _ fun h=>by omega)).trans (aS _ fun h=>by omega))
  ·have hge:w.heap.size≤w.heap.size+1:=by omega
   rw[←hwd];exact (((((hN.out.2.2.1.setCell hge _).setCell hge _).setCell hge _).setCell hge _).setCell hge _).setCell hge _
  ·rw[←hwd];exact (((((hN.out.2.2.2.1.put 6 _).put 7 _).put 8 _).put 9 _).put 10 _).put 11 _
  ·have hbx:Below wd0.heap.size wd0 wx1:=hA.out.1.below.trans (hg3H.out.mono hA.out.1.size)
   have hs0:=hsz0.out
   have hs00:=hw1l.out
   rw[←hwd];exact (hI0.out.below hbx).agr ((((((aS _ fun h=>by omega).trans (aS _ fun h=>by omega)).trans (aS _ fun h=>by omega)).trans (aS _ fun h=>by omega)).trans (aS _ fun h=>by omega)).trans (aS _ fun h=>by omega))
 clear hwd hB0 c0 c1 c2 c3 c4 c5 p6 z6 p7 z7 p8 z8 p9 z9 p10 z10 p11 z11
 have hszw1:Hid (w.heap.size≤wb1.heap.size):=hA.out.2.1.size
 rw[rounds_succ]
 have hfin:Hid (tkE s t a b=0∧tkS s t a b=MT0∧tkT s t a b=MT1∧am MT0=0∧am MT1=0):=by
  have h1:tkE s t a b=0:=by unfold tkE;rw[if_pos (by rw[hME0.out.1];exact h0I0.out),hME1.out.1];exact h0I1.out
  exact ⟨h1,by unfold tkS;rw[if_pos h1];exact hME0.out.2,by unfold tkT;rw[if_pos h1];exact hME1.out.2,by rw[←hME0.out.2];exact di (by rw[hME0.out.1];exact h0I0.out),by rw[←hME1.out.2];exact di (by rw[hME1.out.1];exact h0I1.out)⟩
 have hbw:Hid (Below w.heap.size w wd1∧Nd wd1 N O P id s t qs):=⟨hJ.out.2.1,hH.out.1.below hJ.out.2.1⟩
 have hBc:Hid (Calls Tryz.prog 76 #[H (some ⟨N,O,none⟩),Y (T2 MT0 MA mca MC mcc MT1 MB mcb MD mcd).toArray] wd1 fun e w'=>e= .returned (X #[])∧Nd w' N O (ag P w.heap.size w'.heap.size) id MT0 MT1 qs∧Wr N (O+1) (O+37) wd1 w') :=
  ji hbw.out.2 hH.out.1.blk.lt hbw.out.1.size ((hJ.out.2.2.2.p hfin.out.2.2.2.1).mono fun b hb=>ag.new hszw.out.1 (nR _) b hb) ((hJ.out.1.p hfin.out.2.2.2.2).mono fun b hb=>ag.new hszw1.out (nR _) b hb)
 obtain ⟨q0,q1,q2,q3,q4,q5,q6,q7,q8,q9,q10,q11⟩:=dR hJ.out.2.2.1
 go_wp2_with fail
 refine cM (show Calls _ _ _ _ _ from hBc.out) ?_
 rintro e w8 ⟨rfl,f1,f2⟩
 have hfin2:Hid (Nd w8 N O (ag P w.heap.size w8.heap.size) id MT0 MT1 qs∧Wr N (O+1) (O+37) w w8):=⟨f1,(Wr.of hbw.out.1 hH.out.1.blk.lt).trans f2⟩
 clear f1 f2 hBc
 go_wp2
 go_ret
 refine ⟨by rw[hfin.out.1];rfl,?_,hfin2.out.2⟩
 rw[hfin.out.2.1,hfin.out.2.2.1]
 exact hfin2.out.1
end Go.Proofs.YtkefkplnamkicaaGreatDoor
