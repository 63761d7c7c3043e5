import Derived.Test.YtkefkplnamkicabGreatDoorM24
import Derived.Shelf.Slices.Clone
set_option maxRecDepth 100000
set_option maxHeartbeats 8000000
open Go.Ending renaming returned → Y
open Go.IntKind renaming i64 → I
open Go.Obj renaming cells → Z
open Go.Proofs.Tryz renaming prog → H
open Go.Value renaming int → V, slice → J, agg → X, tuple → U, pointer → R
namespace Go.Proofs.YtkefkplnamkicabGreatDoor
open Go.RowKit Go.Sort
set_option linter.unusedSimpArgs false

def gf (s t:Tab) (c d:Ctx):Int:=if bF s c=0 then bF t d else bF s c
def snS (s t:Tab) (c d:Ctx):Tab:=if gf s t c d=0 then bU s c else ⟨⟨0,0,0,0,[]⟩,[]⟩
def snT (s t:Tab) (c d:Ctx):Tab:=if gf s t c d=0 then bU t d else ⟨⟨0,0,0,0,[]⟩,[]⟩
theorem TbW.zero (n:Nat) (w:World):TbW n w ⟨⟨0,0,0,0,[]⟩,[]⟩ none 0 none 0:=⟨oL rfl,oL rfl,fun _=>rfl,fun _=>rfl,(fun a h=>by cases h),(fun a h=>by cases h)⟩
theorem yZ (a b c d e f g h i j:Value) (w:World):(Instr.index 116 (X #[a,b,c,d,e,f,g,h,i,j]) (V I 0)).run H w= .ok (X #[a,b,c,d,e]) w:=by kernel_rfl
theorem zc (a b c d e f g h i j:Value) (w:World):(Instr.index 116 (X #[a,b,c,d,e,f,g,h,i,j]) (V I 1)).run H w= .ok (X #[f,g,h,i,j]) w:=by kernel_rfl
theorem xE {w:World} {N O:Nat} {P:Nat→Prop} {id:Int} {s t:Tab} {qs:List (List Stp)} (h:Nd w N O P id s t qs) (c d:Ctx) (PA PB:Option Addr) (pca pcb:Nat) (ra:Row w PA c.l) (rb:Row w PB d.l) (la:c.l.length≤maxLen) (lb:d.l.length≤maxLen) :
  Calls H 51 #[R (some ⟨N,O,none⟩),X #[V I c.c0,V I c.c1,V I c.c2,V I c.c3,J PA c.l.length pca,V I d.c0,V I d.c1,V I d.c2,V I d.c3,J PB d.l.length pcb]] w fun e w'=>∃(EA:Option Addr) (eca:Nat) (EC:Option Addr) (ecc:Nat) (EB:Option Addr) (ecb:Nat) (ED:Option Addr) (ecd:Nat),e= Y (U #[X (T2 (snS s t c d) EA eca EC ecc (snT s t c d) EB ecb ED ecd).toArray,V I (gf s t c d)])∧TbW w.heap.size w' (snS s t c d) EA eca EC ecc∧TbW w.heap.size w' (snT s t c d) EB ecb ED ecd∧Below w.heap.size w w':=by
 have mixed:Tryz.prog.follows .mixedOrders=true:=by kernel_rfl
 have hx0:=yZ (V I c.c0) (V I c.c1) (V I c.c2) (V I c.c3) (J PA c.l.length pca) (V I d.c0) (V I d.c1) (V I d.c2) (V I d.c3) (J PB d.l.length pcb)
 have hx1:=zc (V I c.c0) (V I c.c1) (V I c.c2) (V I c.c3) (J PA c.l.length pca) (V I d.c0) (V I d.c1) (V I d.c2) (V I d.c3) (J PB d.l.length pcb)
 obtain ⟨A,ca,C,cc,hcs,hts⟩:=h.ts
 obtain ⟨B,cb,D,cd,hct,htt⟩:=h.tt
 have hPk:Hid (Row w PA c.l∧Row w PB d.l∧c.l.length≤maxLen∧d.l.length≤maxLen):=⟨ra,rb,la,lb⟩
 have hH:Hid (Nd w N O P id s t qs∧TbP P w s A ca C cc∧TbP P w t B cb D cd∧TbC w N (O+1) s A ca C cc∧TbC w N (O+7) t B cb D cd):=⟨h,hts,htt,hcs,hct⟩
 clear h hts htt hcs hct ra rb la lb
 go_enter Tryz.func51,Tryz.ntmps51
 go_wp2
 obtain ⟨w1,hw1⟩:∃W,((w.alloc (Z #[V I c.c0,V I c.c1,V I c.c2,V I c.c3,J PA c.l.length pca,V I d.c0,V I d.c1,V I d.c2,V I d.c3,J PB d.l.length pcb] 116)).alloc (Z #[V I 0,V I 0,V I 0,V I 0,J none 0 0,J none 0 0,V I 0,V I 0,V I 0,V I 0,J none 0 0,J none 0 0] 66)).alloc (Z #[V I 0,V I 0,V I 0,V I 0,J none 0 0,J none 0 0,V I 0,V I 0,V I 0,V I 0,J none 0 0,J none 0 0] 66)=W:=⟨_,rfl⟩
 rw[hw1]
 have hI:Hid (Below w.heap.size w w1∧Cls w1 (w.heap.size+1+1) Z2∧Cls w1 (w.heap.size+1) Z2):=by
  refine ⟨by rw[←hw1];exact ((((gR w).alloc _).alloc _).alloc _).below,?_,?_⟩
  ·have:=Cls.new ((w.alloc (Z #[V I c.c0,V I c.c1,V I c.c2,V I c.c3,J PA c.l.length pca,V I d.c0,V I d.c1,V I d.c2,V I d.c3,J PB d.l.length pcb] 116)).alloc (Z #[V I 0,V I 0,V I 0,V I 0,J none 0 0,J none 0 0,V I 0,V I 0,V I 0,V I 0,J none 0 0,J none 0 0] 66)) #[V I 0,V I 0,V I 0,V I 0,J none 0 0,J none 0 0,V I 0,V I 0,V I 0,V I 0,J none 0 0,J none 0 0] 66
   rw[hw1,show ((w.alloc (Z #[V I c.c0,V I c.c1,V I c.c2,V I c.c3,J PA c.l.length pca,V I d.c0,V I d.c1,V I d.c2,V I d.c3,J PB d.l.length pcb] 116)).alloc (Z #[V I 0,V I 0,V I 0,V I 0,J none 0 0,J none 0 0,V I 0,V I 0,V I 0,V I 0,J none 0 0,J none 0 0] 66)).heap.size=w.heap.size+1+1 by simp] at this
   exact this
  ·have:=Cls.new (w.alloc (Z #[V I c.c0,V I c.c1,V I c.c2,V I c.c3,J PA c.l.length pca,V I d.c0,V I d.c1,V I d.c2,V I d.c3,J PB d.l.length pcb] 116)) #[V I 0,V I 0,V I 0,V I 0,J none 0 0,J none 0 0,V I 0,V I 0,V I 0,V I 0,J none 0 0,J none 0 0] 66
   rw[show (w.alloc (Z #[V I c.c0,V I c.c1,V I c.c2,V I c.c3,J PA c.l.length pca,V I d.c0,V I d.c1,V I d.c2,V I d.c3,J PB d.l.length pcb] 116)).heap.size=w.heap.size+1 by simp] at this
   rw[←hw1]
   exact this.gr ((gR _).alloc _)
 clear hw1
 have hw1l:Hid (w.heap.size+1+1<w1.heap.size):=hI.out.2.1.lt
 refine wp_loop_rounds 3 ?_
 rw[rounds_succ]
 go_upto_region 5 with fail
 obtain ⟨wb0,hwb⟩:∃W,w1.alloc (Z #[V I c.c0,V I c.c1,V I c.c2,V I c.c3,J PA c.l.length pca] 39)=W:=⟨_,rfl⟩
 rw[hwb]
 have hA:Hid (Gr w1 wb0∧Below w.heap.size w wb0∧Cls wb0 w1.heap.size [V I c.c0,V I c.c1,V I c.c2,V I c.c3,J PA c.l.length pca]∧Cls wb0 (w.heap.size+1+1) Z2∧Cls wb0 (w.heap.size+1) Z2∧N<wb0.heap.size∧TbC wb0 N (O+1) s A ca C cc∧TbC wb0 N (O+7) t B cb D cd):=by
  have hg:Gr w1 wb0:=by rw[←hwb];exact (gR _).alloc _
  have hb:=hI.out.1.trans (hg.below.mono hI.out.1.size)
  have hlt:=hH.out.1.blk.lt
  exact ⟨hg,hb,by rw[←hwb];exact Cls.new w1 _ _,hI.out.2.1.gr hg,hI.out.2.2.gr hg,nL hlt hb.size,hH.out.2.2.2.1.keep fun j _ _=>hb.cell (p:=⟨N,j,none⟩) hlt,hH.out.2.2.2.2.keep fun j _ _=>hb.cell (p:=⟨N,j,none⟩) hlt⟩
 clear hwb
 obtain ⟨ME0,hME⟩:∃E,bF s c=E:=⟨_,rfl⟩
 obtain ⟨MT0,hMT⟩:∃E,bU s c=E:=⟨_,rfl⟩
 have hME0:Hid (bF s c=ME0∧bU s c=MT0):=⟨hME,hMT⟩
 have hM:Hid (∀W,Below wb0.heap.size wb0 W→Calls H 73 #[X (T6 s A ca C cc).toArray,X #[V I c.c0,V I c.c1,V I c.c2,V I c.c3,J PA c.l.length pca]] W fun e w'=>∃E ce F cf,e= Y (U #[X (T6 MT0 E ce F cf).toArray,V I ME0])∧TbW W.heap.size w' MT0 E ce F cf∧Below W.heap.size W w'):=fun W hW=>by
  have hb:=hA.out.2.1.trans (hW.mono hA.out.2.1.size)
  have hr5:=hH.out.2.1.below hb
  have hm:=ny s c A PA C ca pca cc W hr5.len.1 hPk.out.2.2.1 hr5.len.2 hr5.row (hPk.out.1.below hb) hr5.cel
  rw[hME,hMT] at hm
  refine hm.mono ?_
  rintro e w' ⟨E,ce,F,cf,rfl,f1,f2,f3,f4,f5,f6,f7⟩
  exact ⟨E,ce,F,cf,rfl,⟨f1,f2,f3,f4,f6,f7⟩,f5⟩
 clear hME hMT
 go_cut [9,10,12] from 12 to 35 (fun v9 v10 v12 wx=>v10= V I ME0∧v12= V I 0∧∃Bm:Nat,v9= R (some ⟨Bm,0,none⟩)∧TbR wb0 wx Bm MT0)
 case first =>
  have hD0:Hid (Below wb0.heap.size wb0 wb0.drew):=(gR wb0).drew.below
  have hD1:Hid (Below wb0.heap.size wb0 (wb0.alloc (Z #[V I 0,V I 0,V I 0,V I 0,J none 0 0,J none 0 0] 42)).drew):=((gR wb0).alloc _).drew.below
  have hle0:Hid (wb0.heap.size≤wb0.drew.heap.size):=nR _
  have hle1:Hid (wb0.heap.size+1≤(wb0.alloc (Z #[V I 0,V I 0,V I 0,V I 0,J none 0 0,J none 0 0] 42)).drew.heap.size):=by show _≤(wb0.alloc _).heap.size;simp
  have hKeep:Hid (∀W,Below wb0.heap.size wb0 W→(fun w'=>w'.cell? ⟨w1.heap.size,0,none⟩=some (V I c.c0)∧w'.cell? ⟨w1.heap.size,1,none⟩=some (V I c.c1)∧w'.cell? ⟨w1.heap.size,2,none⟩=some (V I c.c2)∧w'.cell? ⟨w1.heap.size,3,none⟩=some (V I c.c3)∧w'.cell? ⟨w1.heap.size,4,none⟩=some (J PA c.l.length pca)∧w'.cell? ⟨N,O+1,none⟩=some (V I s.c.c0)∧w'.cell? ⟨N,O+2,none⟩=some (V I s.c.c1)∧w'.cell? ⟨N,O+3,none⟩=some (V I s.c.c2)∧w'.cell? ⟨N,O+4,none⟩=some (V I s.c.c3)∧w'.cell? ⟨N,O+5,none⟩=some (J A s.c.l.length ca)∧w'.cell? ⟨N,O+6,none⟩=some (J C s.e.length cc)) W):=fun W hW=>⟨(hA.out.2.2.1.below hW).cell (j:=0) rfl,(hA.out.2.2.1.below hW).cell (j:=1) rfl,(hA.out.2.2.1.below hW).cell (j:=2) rfl,(hA.out.2.2.1.below hW).cell (j:=3) rfl,(hA.out.2.2.1.below hW).cell (j:=4) rfl,(hW.cell (p:=⟨N,O+1,none⟩) hA.out.2.2.2.2.2.1).trans hA.out.2.2.2.2.2.2.1.k0,(hW.cell (p:=⟨N,O+2,none⟩) hA.out.2.2.2.2.2.1).trans hA.out.2.2.2.2.2.2.1.k1,(hW.cell (p:=⟨N,O+3,none⟩) hA.out.2.2.2.2.2.1).trans hA.out.2.2.2.2.2.2.1.k2,(hW.cell (p:=⟨N,O+4,none⟩) hA.out.2.2.2.2.2.1).trans hA.out.2.2.2.2.2.2.1.k3,(hW.cell (p:=⟨N,O+5,none⟩) hA.out.2.2.2.2.2.1).trans hA.out.2.2.2.2.2.2.1.k4,(hW.cell (p:=⟨N,O+6,none⟩) hA.out.2.2.2.2.2.1).trans hA.out.2.2.2.2.2.2.1.k5⟩
  refine wp_region_noPanic ?_
  refine wp_region_held_drew (S:=(fun w'=>w'.cell? ⟨w1.heap.size,0,none⟩=some (V I c.c0)∧w'.cell? ⟨w1.heap.size,1,none⟩=some (V I c.c1)∧w'.cell? ⟨w1.heap.size,2,none⟩=some (V I c.c2)∧w'.cell? ⟨w1.heap.size,3,none⟩=some (V I c.c3)∧w'.cell? ⟨w1.heap.size,4,none⟩=some (J PA c.l.length pca)∧w'.cell? ⟨N,O+1,none⟩=some (V I s.c.c0)∧w'.cell? ⟨N,O+2,none⟩=some (V I s.c.c1)∧w'.cell? ⟨N,O+3,none⟩=some (V I s.c.c2)∧w'.cell? ⟨N,O+4,none⟩=some (V I s.c.c3)∧w'.cell? ⟨N,O+5,none⟩=some (J A s.c.l.length ca)∧w'.cell? ⟨N,O+6,none⟩=some (J C s.e.length cc))) (by kernel_rfl) (hKeep.out _ hD0.out) (fun hHeld=> ?_)
  show wpAnyH _ _ _ _ _ 14 _ _ _
  repeat' first
   | with_reducible exact AllReadyH.nil
   | (
    (with_reducible refine isW ?_);refine wpAnyH_done (by decide +kernel) ?_ _
    refine NoPanic.normal ?_
    go_wp2_with fail
    go_meet
    case rel=>exact ⟨rfl,rfl,_,rfl,(by first|with_reducible exact kI (hT2.out.mono hle0.out) hF.out|with_reducible exact jy hB2.out (hT2.out.mono hle1.out) hF.out)⟩)
   | (
    (with_reducible refine isW ?_);first
     | refine tkk 0 [1,2,3,4,5,6] (by assumption) (v:= ?_) (by simp only[zA,z0',zS];rfl) (by decide +kernel) ?_ ?_
     | refine tkk 8 [9,10] (by assumption) (v:= ?_) (by simp only[zA,z0',zS];rfl) (by decide +kernel) ?_ ?_
     | refine tkk 13 [] (by assumption) (v:= ?_) (by simp only[zA,z0',zS];rfl) (by decide +kernel) ?_ ?_
    rotate_left
    ·(refine oL ⟨by rfl,?_⟩;intro w hSw;(try dsimp only at hSw);go_simp<;>with_reducible rfl)
    try simp only[Act.put,yA,aE,yS]
    repeat (refine tk (v:= ?_) (by simp only[zA,z0',zS];rfl) (by kernel_rfl) ?_ ?_;rotate_left;· (refine oL ⟨by rfl,?_⟩;intro w hSw;(try dsimp only at hSw);go_simp<;>with_reducible rfl);try simp only[Act.put,yA,aE,yS])
    refine tk0 ?_)
   | ((with_reducible refine isW ?_);first
     | refine wpAnyH_ready (rs:=[7,11]) (by decide +kernel) (by simp) ?_
     | refine wpAnyH_ready (rs:=[11]) (by decide +kernel) (by simp) ?_
     | refine wpAnyH_ready (rs:=[12]) (by decide +kernel) (by simp) ?_
     | refine wpAnyH_ready (rs:=[7]) (by decide +kernel) (by simp) ?_)
   | ((with_reducible refine isR ?_);refine rdc (by simp only[zA,z0',zS];rfl) ?_ fun K hK=> ?_)
   | (
    go_simp
    first
     | ((go_at_call 73;(with_reducible refine cM (hM.out _ (by first|with_reducible exact hD0.out|with_reducible exact hD1.out)) ?_);rintro e w2 ⟨E,ce,F,cf,rfl,f2,f3⟩;have hF:Hid (Below wb0.heap.size wb0 w2):=(by first|exact hD0.out.trans (f3.mono hD0.out.size)|exact hD1.out.trans (f3.mono hD1.out.size));have hT2:Hid _:=f2;(first|(have hB2:Hid (Cls w2 wb0.heap.size Z6):=((Cls.new wb0 #[V I 0,V I 0,V I 0,V I 0,J none 0 0,J none 0 0] 42).gr (gR _).drew).below f3)|skip);clear f2 f3;(first|(have p0:=hB2.out.cell (j:=0) rfl;have z0:=hB2.out.fz 0;have p1:=hB2.out.cell (j:=1) rfl;have z1:=hB2.out.fz 1;have p2:=hB2.out.cell (j:=2) rfl;have z2:=hB2.out.fz 2;have p3:=hB2.out.cell (j:=3) rfl;have z3:=hB2.out.fz 3;have p4:=hB2.out.cell (j:=4) rfl;have z4:=hB2.out.fz 4;have p5:=hB2.out.cell (j:=5) rfl;have z5:=hB2.out.fz 5)|skip));first|(go_wp2_with fail)|skip)
     | skip
    refine hK.out _ _ ?_ (fun hHeld=> ?_)
    ·(try dsimp only);exact hKeep.out _ (by first|with_reducible exact hD0.out|with_reducible exact hD1.out|with_reducible exact hF.out|with_reducible exact hF.out.alloc hF.out.size _|exact aj hF.out (nR _) _ _ _ _ _ _)
    clear hK K
    try simp only[Act.put,yA,aE,yS])
 rename World=>wx0
 obtain ⟨rfl,rfl,Bm,rfl,hTR⟩:=hcut
 obtain ⟨MA,mca,MC,mcc,g1,g2,g3,g4⟩:=hTR
 have hN:Hid (Cls wx0 Bm (T6 MT0 MA mca MC mcc)∧TbW wb0.heap.size wx0 MT0 MA mca MC mcc∧Below w.heap.size w wx0∧Cls wx0 (w.heap.size+1+1) Z2∧Cls wx0 (w.heap.size+1) Z2∧wb0.heap.size≤Bm):=⟨g1,g2,hA.out.2.1.trans (g3.mono hA.out.2.1.size),hA.out.2.2.2.1.below g3,hA.out.2.2.2.2.1.below g3,g4⟩
 have hsz0:Hid (w1.heap.size<wb0.heap.size):=hA.out.2.2.1.lt
 have hg3H:Hid (Below wb0.heap.size wb0 wx0):=g3
 clear g1 g2 g3 g4 hM
 cases hn:(ME0 != 0)
 rotate_left
 focus
  have hfin:Hid (gf s t c d=ME0∧¬gf s t c d=0):=by
   have h0:¬ME0=0:=by simpa using hn
   have h1:gf s t c d=ME0:=by unfold gf;rw[if_neg (by rw[hME0.out.1];exact h0)];exact hME0.out.1
   exact ⟨h1,by rw[h1];exact h0⟩
  obtain ⟨r0,r1,r2,r3,r4,r5,r6,r7,r8,r9,r10,r11⟩:=gl hN.out.2.2.2.2.1
  obtain ⟨y0,y1,y2,y3,y4,y5,y6,y7,y8,y9,y10,y11⟩:=oI hN.out.2.2.2.2.1
  go_wp2
  exact bodyPost_ret (v:= U #[X #[V I 0,V I 0,V I 0,V I 0,J none 0 0,J none 0 0,V I 0,V I 0,V I 0,V I 0,J none 0 0,J none 0 0],V I ME0]) (by simp[results,Tryz.results51,go_sem,r0,r1,r2,r3,r4,r5,r6,r7,r8,r9,r10,r11]) rfl ⟨none,0,none,0,none,0,none,0,by rw[hfin.out.1];unfold snS snT;rw[if_neg hfin.out.2,if_neg hfin.out.2];rfl,by unfold snS;rw[if_neg hfin.out.2];exact TbW.zero _ _,by unfold snT;rw[if_neg hfin.out.2];exact TbW.zero _ _,((((((((((((hN.out.2.2.1.setCell (Nat.le_succ _) _).setCell (Nat.le_succ _) _).setCell (Nat.le_succ _) _).setCell (Nat.le_succ _) _).setCell (Nat.le_succ _) _).setCell (Nat.le_succ _) _).setCell (Nat.le_succ _) _).setCell (Nat.le_succ _) _).setCell (Nat.le_succ _) _).setCell (Nat.le_succ _) _).setCell (Nat.le_succ _) _).setCell (Nat.le_succ _) _)⟩
 have h0:ME0=0:=by simpa using hn
 have h0I0:Hid (ME0=0):=h0
 clear hn h0
 have hB0:(ME0 != 0)=false:=by rw[h0I0.out];rfl
 obtain ⟨c0,c1,c2,c3,c4,c5⟩:=fQ hN.out.1
 obtain ⟨p0,p1,p2,p3,p4,p5⟩:=fQ hN.out.2.2.2.1
 obtain ⟨z0,z1,z2,z3,z4,z5⟩:=sB hN.out.2.2.2.1
 go_wp2
 obtain ⟨wd0,hwd⟩:∃W,((((((wx0.setCell ⟨w.heap.size+1+1,0,none⟩ (V I MT0.c.c0)).setCell ⟨w.heap.size+1+1,1,none⟩ (V I MT0.c.c1)).setCell ⟨w.heap.size+1+1,2,none⟩ (V I MT0.c.c2)).setCell ⟨w.heap.size+1+1,3,none⟩ (V I MT0.c.c3)).setCell ⟨w.heap.size+1+1,4,none⟩ (J MA MT0.c.l.length mca)).setCell ⟨w.heap.size+1+1,5,none⟩ (J MC MT0.e.length mcc))=W:=⟨_,rfl⟩
 rw[hwd]
 have hJ:Hid (TbW wb0.heap.size wd0 MT0 MA mca MC mcc∧Below w.heap.size w wd0∧Cls wd0 (w.heap.size+1+1) [V I MT0.c.c0,V I MT0.c.c1,V I MT0.c.c2,V I MT0.c.c3,J MA MT0.c.l.length mca,J MC MT0.e.length mcc,V I 0,V I 0,V I 0,V I 0,J none 0 0,J none 0 0]∧Cls wd0 (w.heap.size+1) Z2):=by
  have hsz:=hsz0.out
  have hlw:=hI.out.1.size
  have hl1:=hI.out.2.1.lt
  have hne:w.heap.size+1≠w.heap.size+1+1:=by omega
  refine ⟨?_,?_,?_,?_⟩
  ·rw[←hwd];exact hN.out.2.1.agr ((((((aS _ fun h=>by omega).trans (aS _ fun h=>by omega)).trans (aS _ fun h=>by omega)).trans (aS _ fun h=>by omega)).trans (aS _ fun h=>by omega)).trans (aS _ fun h=>by omega))
  ·have hge:w.heap.size≤w.heap.size+1+1:=by omega
   rw[←hwd];exact (((((hN.out.2.2.1.setCell hge _).setCell hge _).setCell hge _).setCell hge _).setCell hge _).setCell hge _
  ·rw[←hwd];exact (((((hN.out.2.2.2.1.put 0 _).put 1 _).put 2 _).put 3 _).put 4 _).put 5 _
  ·rw[←hwd];exact (((((hN.out.2.2.2.2.1.oth hne _).oth hne _).oth hne _).oth hne _).oth hne _).oth hne _
 clear hwd hB0 c0 c1 c2 c3 c4 c5 p0 z0 p1 z1 p2 z2 p3 z3 p4 z4 p5 z5
 have hI0:Hid (TbW wb0.heap.size wd0 MT0 MA mca MC mcc):=hJ.out.1
 have hszw0:Hid (w.heap.size≤wb0.heap.size):=hA.out.2.1.size
 clear hA hN hI hg3H
 have hI:Hid (Below w.heap.size w wd0∧Cls wd0 (w.heap.size+1+1) [V I MT0.c.c0,V I MT0.c.c1,V I MT0.c.c2,V I MT0.c.c3,J MA MT0.c.l.length mca,J MC MT0.e.length mcc,V I 0,V I 0,V I 0,V I 0,J none 0 0,J none 0 0]∧Cls wd0 (w.heap.size+1) Z2):=⟨hJ.out.2.1,hJ.out.2.2.1,hJ.out.2.2.2⟩
 clear hJ
 rw[rounds_succ]
 go_upto_region 5 with fail
 obtain ⟨wb1,hwb⟩:∃W,wd0.alloc (Z #[V I d.c0,V I d.c1,V I d.c2,V I d.c3,J PB d.l.length pcb] 39)=W:=⟨_,rfl⟩
 rw[hwb]
 have hA:Hid (Gr wd0 wb1∧Below w.heap.size w wb1∧Cls wb1 wd0.heap.size [V I d.c0,V I d.c1,V I d.c2,V I d.c3,J PB d.l.length pcb]∧Cls wb1 (w.heap.size+1+1) [V I MT0.c.c0,V I MT0.c.c1,V I MT0.c.c2,V I MT0.c.c3,J MA MT0.c.l.length mca,J MC MT0.e.length mcc,V I 0,V I 0,V I 0,V I 0,J none 0 0,J none 0 0]∧Cls wb1 (w.heap.size+1) Z2∧N<wb1.heap.size∧TbC wb1 N (O+1) s A ca C cc∧TbC wb1 N (O+7) t B cb D cd):=by
  have hg:Gr wd0 wb1:=by rw[←hwb];exact (gR _).alloc _
  have hb:=hI.out.1.trans (hg.below.mono hI.out.1.size)
  have hlt:=hH.out.1.blk.lt
  exact ⟨hg,hb,by rw[←hwb];exact Cls.new wd0 _ _,hI.out.2.1.gr hg,hI.out.2.2.gr hg,nL hlt hb.size,hH.out.2.2.2.1.keep fun j _ _=>hb.cell (p:=⟨N,j,none⟩) hlt,hH.out.2.2.2.2.keep fun j _ _=>hb.cell (p:=⟨N,j,none⟩) hlt⟩
 clear hwb
 obtain ⟨ME1,hME⟩:∃E,bF t d=E:=⟨_,rfl⟩
 obtain ⟨MT1,hMT⟩:∃E,bU t d=E:=⟨_,rfl⟩
 have hME1:Hid (bF t d=ME1∧bU t d=MT1):=⟨hME,hMT⟩
 have hM:Hid (∀W,Below wb1.heap.size wb1 W→Calls H 73 #[X (T6 t B cb D cd).toArray,X #[V I d.c0,V I d.c1,V I d.c2,V I d.c3,J PB d.l.length pcb]] W fun e w'=>∃E ce F cf,e= Y (U #[X (T6 MT1 E ce F cf).toArray,V I ME1])∧TbW W.heap.size w' MT1 E ce F cf∧Below W.heap.size W w'):=fun W hW=>by
  have hb:=hA.out.2.1.trans (hW.mono hA.out.2.1.size)
  have hr5:=hH.out.2.2.1.below hb
  have hm:=ny t d B PB D cb pcb cd W hr5.len.1 hPk.out.2.2.2 hr5.len.2 hr5.row (hPk.out.2.1.below hb) hr5.cel
  rw[hME,hMT] at hm
  refine hm.mono ?_
  rintro e w' ⟨E,ce,F,cf,rfl,f1,f2,f3,f4,f5,f6,f7⟩
  exact ⟨E,ce,F,cf,rfl,⟨f1,f2,f3,f4,f6,f7⟩,f5⟩
 clear hME hMT
 go_cut [9,10,12] from 12 to 35 (fun v9 v10 v12 wx=>v10= V I ME1∧v12= V I 1∧∃Bm:Nat,v9= R (some ⟨Bm,0,none⟩)∧TbR wb1 wx Bm MT1)
 case first =>
  have hD0:Hid (Below wb1.heap.size wb1 wb1.drew):=(gR wb1).drew.below
  have hD1:Hid (Below wb1.heap.size wb1 (wb1.alloc (Z #[V I 0,V I 0,V I 0,V I 0,J none 0 0,J none 0 0] 42)).drew):=((gR wb1).alloc _).drew.below
  have hle0:Hid (wb1.heap.size≤wb1.drew.heap.size):=nR _
  have hle1:Hid (wb1.heap.size+1≤(wb1.alloc (Z #[V I 0,V I 0,V I 0,V I 0,J none 0 0,J none 0 0] 42)).drew.heap.size):=by show _≤(wb1.alloc _).heap.size;simp
  have hKeep:Hid (∀W,Below wb1.heap.size wb1 W→(fun w'=>w'.cell? ⟨wd0.heap.size,0,none⟩=some (V I d.c0)∧w'.cell? ⟨wd0.heap.size,1,none⟩=some (V I d.c1)∧w'.cell? ⟨wd0.heap.size,2,none⟩=some (V I d.c2)∧w'.cell? ⟨wd0.heap.size,3,none⟩=some (V I d.c3)∧w'.cell? ⟨wd0.heap.size,4,none⟩=some (J PB d.l.length pcb)∧w'.cell? ⟨N,O+7,none⟩=some (V I t.c.c0)∧w'.cell? ⟨N,O+8,none⟩=some (V I t.c.c1)∧w'.cell? ⟨N,O+9,none⟩=some (V I t.c.c2)∧w'.cell? ⟨N,O+10,none⟩=some (V I t.c.c3)∧w'.cell? ⟨N,O+11,none⟩=some (J B t.c.l.length cb)∧w'.cell? ⟨N,O+12,none⟩=some (J D t.e.length cd)) W):=fun W hW=>⟨(hA.out.2.2.1.below hW).cell (j:=0) rfl,(hA.out.2.2.1.below hW).cell (j:=1) rfl,(hA.out.2.2.1.below hW).cell (j:=2) rfl,(hA.out.2.2.1.below hW).cell (j:=3) rfl,(hA.out.2.2.1.below hW).cell (j:=4) rfl,(hW.cell (p:=⟨N,O+7,none⟩) hA.out.2.2.2.2.2.1).trans hA.out.2.2.2.2.2.2.2.k0,(hW.cell (p:=⟨N,O+8,none⟩) hA.out.2.2.2.2.2.1).trans hA.out.2.2.2.2.2.2.2.k1,(hW.cell (p:=⟨N,O+9,none⟩) hA.out.2.2.2.2.2.1).trans hA.out.2.2.2.2.2.2.2.k2,(hW.cell (p:=⟨N,O+10,none⟩) hA.out.2.2.2.2.2.1).trans hA.out.2.2.2.2.2.2.2.k3,(hW.cell (p:=⟨N,O+11,none⟩) hA.out.2.2.2.2.2.1).trans hA.out.2.2.2.2.2.2.2.k4,(hW.cell (p:=⟨N,O+12,none⟩) hA.out.2.2.2.2.2.1).trans hA.out.2.2.2.2.2.2.2.k5⟩
  refine wp_region_noPanic ?_
  refine wp_region_held_drew (S:=(fun w'=>w'.cell? ⟨wd0.heap.size,0,none⟩=some (V I d.c0)∧w'.cell? ⟨wd0.heap.size,1,none⟩=some (V I d.c1)∧w'.cell? ⟨wd0.heap.size,2,none⟩=some (V I d.c2)∧w'.cell? ⟨wd0.heap.size,3,none⟩=some (V I d.c3)∧w'.cell? ⟨wd0.heap.size,4,none⟩=some (J PB d.l.length pcb)∧w'.cell? ⟨N,O+7,none⟩=some (V I t.c.c0)∧w'.cell? ⟨N,O+8,none⟩=some (V I t.c.c1)∧w'.cell? ⟨N,O+9,none⟩=some (V I t.c.c2)∧w'.cell? ⟨N,O+10,none⟩=some (V I t.c.c3)∧w'.cell? ⟨N,O+11,none⟩=some (J B t.c.l.length cb)∧w'.cell? ⟨N,O+12,none⟩=some (J D t.e.length cd))) (by kernel_rfl) (hKeep.out _ hD0.out) (fun hHeld=> ?_)
  show wpAnyH _ _ _ _ _ 14 _ _ _
  repeat' first
   | with_reducible exact AllReadyH.nil
   | (
    (with_reducible refine isW ?_);refine wpAnyH_done (by decide +kernel) ?_ _
    refine NoPanic.normal ?_
    go_wp2_with fail
    go_meet
    case rel=>exact ⟨rfl,rfl,_,rfl,(by first|with_reducible exact kI (hT2.out.mono hle0.out) hF.out|with_reducible exact jy hB2.out (hT2.out.mono hle1.out) hF.out)⟩)
   | (
    (with_reducible refine isW ?_);first
     | refine tkk 0 [1,2,3,4,5,6] (by assumption) (v:= ?_) (by simp only[zA,z0',zS];rfl) (by decide +kernel) ?_ ?_
     | refine tkk 8 [9,10] (by assumption) (v:= ?_) (by simp only[zA,z0',zS];rfl) (by decide +kernel) ?_ ?_
     | refine tkk 13 [] (by assumption) (v:= ?_) (by simp only[zA,z0',zS];rfl) (by decide +kernel) ?_ ?_
    rotate_left
    ·(refine oL ⟨by rfl,?_⟩;intro w hSw;(try dsimp only at hSw);go_simp<;>with_reducible rfl)
    try simp only[Act.put,yA,aE,yS]
    repeat (refine tk (v:= ?_) (by simp only[zA,z0',zS];rfl) (by kernel_rfl) ?_ ?_;rotate_left;· (refine oL ⟨by rfl,?_⟩;intro w hSw;(try dsimp only at hSw);go_simp<;>with_reducible rfl);try simp only[Act.put,yA,aE,yS])
    refine tk0 ?_)
   | ((with_reducible refine isW ?_);first
     | refine wpAnyH_ready (rs:=[7,11]) (by decide +kernel) (by simp) ?_
     | refine wpAnyH_ready (rs:=[11]) (by decide +kernel) (by simp) ?_
     | refine wpAnyH_ready (rs:=[12]) (by decide +kernel) (by simp) ?_
     | refine wpAnyH_ready (rs:=[7]) (by decide +kernel) (by simp) ?_)
   | ((with_reducible refine isR ?_);refine rdc (by simp only[zA,z0',zS];rfl) ?_ fun K hK=> ?_)
   | (
    go_simp
    first
     | ((go_at_call 73;(with_reducible refine cM (hM.out _ (by first|with_reducible exact hD0.out|with_reducible exact hD1.out)) ?_);rintro e w2 ⟨E,ce,F,cf,rfl,f2,f3⟩;have hF:Hid (Below wb1.heap.size wb1 w2):=(by first|exact hD0.out.trans (f3.mono hD0.out.size)|exact hD1.out.trans (f3.mono hD1.out.size));have hT2:Hid _:=f2;(first|(have hB2:Hid (Cls w2 wb1.heap.size Z6):=((Cls.new wb1 #[V I 0,V I 0,V I 0,V I 0,J none 0 0,J none 0 0] 42).gr (gR _).drew).below f3)|skip);clear f2 f3;(first|(have p0:=hB2.out.cell (j:=0) rfl;have z0:=hB2.out.fz 0;have p1:=hB2.out.cell (j:=1) rfl;have z1:=hB2.out.fz 1;have p2:=hB2.out.cell (j:=2) rfl;have z2:=hB2.out.fz 2;have p3:=hB2.out.cell (j:=3) rfl;have z3:=hB2.out.fz 3;have p4:=hB2.out.cell (j:=4) rfl;have z4:=hB2.out.fz 4;have p5:=hB2.out.cell (j:=5) rfl;have z5:=hB2.out.fz 5)|skip));first|(go_wp2_with fail)|skip)
     | skip
    refine hK.out _ _ ?_ (fun hHeld=> ?_)
    ·(try dsimp only);exact hKeep.out _ (by first|with_reducible exact hD0.out|with_reducible exact hD1.out|with_reducible exact hF.out|with_reducible exact hF.out.alloc hF.out.size _|exact aj hF.out (nR _) _ _ _ _ _ _)
    clear hK K
    try simp only[Act.put,yA,aE,yS])
 rename World=>wx1
 obtain ⟨rfl,rfl,Bm,rfl,hTR⟩:=hcut
 obtain ⟨MB,mcb,MD,mcd,g1,g2,g3,g4⟩:=hTR
 have hN:Hid (Cls wx1 Bm (T6 MT1 MB mcb MD mcd)∧TbW wb1.heap.size wx1 MT1 MB mcb MD mcd∧Below w.heap.size w wx1∧Cls wx1 (w.heap.size+1+1) [V I MT0.c.c0,V I MT0.c.c1,V I MT0.c.c2,V I MT0.c.c3,J MA MT0.c.l.length mca,J MC MT0.e.length mcc,V I 0,V I 0,V I 0,V I 0,J none 0 0,J none 0 0]∧Cls wx1 (w.heap.size+1) Z2∧wb1.heap.size≤Bm):=⟨g1,g2,hA.out.2.1.trans (g3.mono hA.out.2.1.size),hA.out.2.2.2.1.below g3,hA.out.2.2.2.2.1.below g3,g4⟩
 have hsz1:Hid (wd0.heap.size<wb1.heap.size):=hA.out.2.2.1.lt
 have hg3H:Hid (Below wb1.heap.size wb1 wx1):=g3
 clear g1 g2 g3 g4 hM
 cases hn:(ME1 != 0)
 rotate_left
 focus
  have hfin:Hid (gf s t c d=ME1∧¬gf s t c d=0):=by
   have h0:¬ME1=0:=by simpa using hn
   have h1:gf s t c d=ME1:=by unfold gf;rw[if_pos (by rw[hME0.out.1];exact h0I0.out)];exact hME1.out.1
   exact ⟨h1,by rw[h1];exact h0⟩
  obtain ⟨r0,r1,r2,r3,r4,r5,r6,r7,r8,r9,r10,r11⟩:=gl hN.out.2.2.2.2.1
  obtain ⟨y0,y1,y2,y3,y4,y5,y6,y7,y8,y9,y10,y11⟩:=oI hN.out.2.2.2.2.1
  go_wp2
  exact bodyPost_ret (v:= U #[X #[V I 0,V I 0,V I 0,V I 0,J none 0 0,J none 0 0,V I 0,V I 0,V I 0,V I 0,J none 0 0,J none 0 0],V I ME1]) (by simp[results,Tryz.results51,go_sem,r0,r1,r2,r3,r4,r5,r6,r7,r8,r9,r10,r11]) rfl ⟨none,0,none,0,none,0,none,0,by rw[hfin.out.1];unfold snS snT;rw[if_neg hfin.out.2,if_neg hfin.out.2];rfl,by unfold snS;rw[if_neg hfin.out.2];exact TbW.zero _ _,by unfold snT;rw[if_neg hfin.out.2];exact TbW.zero _ _,((((((((((((hN.out.2.2.1.setCell (Nat.le_succ _) _).setCell (Nat.le_succ _) _).setCell (Nat.le_succ _) _).setCell (Nat.le_succ _) _).setCell (Nat.le_succ _) _).setCell (Nat.le_succ _) _).setCell (Nat.le_succ _) _).setCell (Nat.le_succ _) _).setCell (Nat.le_succ _) _).setCell (Nat.le_succ _) _).setCell (Nat.le_succ _) _).setCell (Nat.le_succ _) _)⟩
 have h0:ME1=0:=by simpa using hn
 have h0I1:Hid (ME1=0):=h0
 clear hn h0
 have hB0:(ME1 != 0)=false:=by rw[h0I1.out];rfl
 obtain ⟨c0,c1,c2,c3,c4,c5⟩:=fQ hN.out.1
 obtain ⟨p6,p7,p8,p9,p10,p11⟩:=yj hN.out.2.2.2.1
 obtain ⟨z6,z7,z8,z9,z10,z11⟩:=yY hN.out.2.2.2.1
 go_wp2
 obtain ⟨wd1,hwd⟩:∃W,((((((wx1.setCell ⟨w.heap.size+1+1,6,none⟩ (V I MT1.c.c0)).setCell ⟨w.heap.size+1+1,7,none⟩ (V I MT1.c.c1)).setCell ⟨w.heap.size+1+1,8,none⟩ (V I MT1.c.c2)).setCell ⟨w.heap.size+1+1,9,none⟩ (V I MT1.c.c3)).setCell ⟨w.heap.size+1+1,10,none⟩ (J MB MT1.c.l.length mcb)).setCell ⟨w.heap.size+1+1,11,none⟩ (J MD MT1.e.length mcd))=W:=⟨_,rfl⟩
 rw[hwd]
 have hJ:Hid (TbW wb1.heap.size wd1 MT1 MB mcb MD mcd∧Below w.heap.size w wd1∧Cls wd1 (w.heap.size+1+1) (T2 MT0 MA mca MC mcc MT1 MB mcb MD mcd)∧Cls wd1 (w.heap.size+1) Z2∧TbW wb0.heap.size wd1 MT0 MA mca MC mcc):=by
  have hsz:=hsz1.out
  have hlw:=hI.out.1.size
  have hl1:=hI.out.2.1.lt
  have hne:w.heap.size+1≠w.heap.size+1+1:=by omega
  refine ⟨?_,?_,?_,?_,?_⟩
  ·rw[←hwd];exact hN.out.2.1.agr ((((((aS _ fun h=>by omega).trans (aS _ fun h=>by omega)).trans (aS _ fun h=>by omega)).trans (aS _ fun h=>by omega)).trans (aS _ fun h=>by omega)).trans (aS _ fun h=>by omega))
  ·have hge:w.heap.size≤w.heap.size+1+1:=by omega
   rw[←hwd];exact (((((hN.out.2.2.1.setCell hge _).setCell hge _).setCell hge _).setCell hge _).setCell hge _).setCell hge _
  ·rw[←hwd];exact (((((hN.out.2.2.2.1.put 6 _).put 7 _).put 8 _).put 9 _).put 10 _).put 11 _
  ·rw[←hwd];exact (((((hN.out.2.2.2.2.1.oth hne _).oth hne _).oth hne _).oth hne _).oth hne _).oth hne _
  ·have hbx:Below wd0.heap.size wd0 wx1:=hA.out.1.below.trans (hg3H.out.mono hA.out.1.size)
   have hs0:=hsz0.out
   have hs00:=hw1l.out
   rw[←hwd];exact (hI0.out.below hbx).agr ((((((aS _ fun h=>by omega).trans (aS _ fun h=>by omega)).trans (aS _ fun h=>by omega)).trans (aS _ fun h=>by omega)).trans (aS _ fun h=>by omega)).trans (aS _ fun h=>by omega))
 clear hwd hB0 c0 c1 c2 c3 c4 c5 p6 z6 p7 z7 p8 z8 p9 z9 p10 z10 p11 z11
 rw[rounds_succ]
 obtain ⟨q0,q1,q2,q3,q4,q5,q6,q7,q8,q9,q10,q11⟩:=gl hJ.out.2.2.1
 obtain ⟨r0,r1,r2,r3,r4,r5,r6,r7,r8,r9,r10,r11⟩:=gl hJ.out.2.2.2.1
 obtain ⟨y0,y1,y2,y3,y4,y5,y6,y7,y8,y9,y10,y11⟩:=oI hJ.out.2.2.2.1
 have hfin:Hid (gf s t c d=0∧snS s t c d=MT0∧snT s t c d=MT1):=by
  have h1:gf s t c d=0:=by unfold gf;rw[if_pos (by rw[hME0.out.1];exact h0I0.out),hME1.out.1];exact h0I1.out
  exact ⟨h1,by unfold snS;rw[if_pos h1];exact hME0.out.2,by unfold snT;rw[if_pos h1];exact hME1.out.2⟩
 go_wp2
 have hs00:=hw1l.out
 have hsa:=hsz0.out
 have hsb:=hsz1.out
 have hsc:=hA.out.2.1.size
 have hsd:=hI.out.2.1.lt
 have hse:=hszw0.out
 have hAg:∀base,w.heap.size+1<base→Agr (fun b=>base≤b) wd1 ((((((((((((wd1.setCell ⟨w.heap.size+1,0,none⟩ (V I MT0.c.c0)).setCell ⟨w.heap.size+1,1,none⟩ (V I MT0.c.c1)).setCell ⟨w.heap.size+1,2,none⟩ (V I MT0.c.c2)).setCell ⟨w.heap.size+1,3,none⟩ (V I MT0.c.c3)).setCell ⟨w.heap.size+1,4,none⟩ (J MA MT0.c.l.length mca)).setCell ⟨w.heap.size+1,5,none⟩ (J MC MT0.e.length mcc)).setCell ⟨w.heap.size+1,6,none⟩ (V I MT1.c.c0)).setCell ⟨w.heap.size+1,7,none⟩ (V I MT1.c.c1)).setCell ⟨w.heap.size+1,8,none⟩ (V I MT1.c.c2)).setCell ⟨w.heap.size+1,9,none⟩ (V I MT1.c.c3)).setCell ⟨w.heap.size+1,10,none⟩ (J MB MT1.c.l.length mcb)).setCell ⟨w.heap.size+1,11,none⟩ (J MD MT1.e.length mcd)):=fun base hbase=>((((((((((((aS _ fun h=>by omega).trans (aS _ fun h=>by omega)).trans (aS _ fun h=>by omega)).trans (aS _ fun h=>by omega)).trans (aS _ fun h=>by omega)).trans (aS _ fun h=>by omega)).trans (aS _ fun h=>by omega)).trans (aS _ fun h=>by omega)).trans (aS _ fun h=>by omega)).trans (aS _ fun h=>by omega)).trans (aS _ fun h=>by omega)).trans (aS _ fun h=>by omega))
 rw[hfin.out.1,hfin.out.2.1,hfin.out.2.2]
 exact bodyPost_ret (v:= U #[X (T2 MT0 MA mca MC mcc MT1 MB mcb MD mcd).toArray,V I 0]) (by simp[results,Tryz.results51,go_sem,r0,r1,r2,r3,r4,r5,r6,r7,r8,r9,r10,r11]) rfl ⟨MA,mca,MC,mcc,MB,mcb,MD,mcd,rfl,(hJ.out.2.2.2.2.agr (hAg _ (by omega))).mono (by omega),(hJ.out.1.agr (hAg _ (by omega))).mono (by omega),((((((((((((hJ.out.2.1.setCell (Nat.le_succ _) _).setCell (Nat.le_succ _) _).setCell (Nat.le_succ _) _).setCell (Nat.le_succ _) _).setCell (Nat.le_succ _) _).setCell (Nat.le_succ _) _).setCell (Nat.le_succ _) _).setCell (Nat.le_succ _) _).setCell (Nat.le_succ _) _).setCell (Nat.le_succ _) _).setCell (Nat.le_succ _) _).setCell (Nat.le_succ _) _)⟩

theorem kO (q:List Cel) (A:Option Addr) (cap:Nat) (w:World) (hl:q.length*40≤140737488351232) (hr:bA w A q) (hA:A=none→cap=0) :
  Calls H 41 #[J A q.length cap] w fun e w'=>∃C c,e= Y (J C q.length c)∧dv w' w.heap.size (J C q.length c) q∧Below w.heap.size w w':=by
 have hrH:Hid (bA w A q):=hr
 clear hr
 have q22:∀(w:World) (a:Option Addr) (n c n' c':Nat),(binOp .eql 40 (J a n c) (J none n' c')).run H w= .ok (.bool a.isNone) w:=fun w a n c n' c'=>Lib.run_eql_slice_nil w _ _ a n c n' c' Tryz.underlying40
 cases A with
 | none =>
  have hq0:Hid (q=[]):=by
   rcases hrH.out with h|⟨_,_,h,_⟩
   ·exact h
   ·cases h
  go_enter Tryz.func41,Tryz.ntmps41
  go_wp2
  go_ret
  rw[hq0.out]
  exact ⟨_,_,rfl,ai.nil _ _ _ _ _,bR _ _⟩
 | some ad =>
  go_enter Tryz.func41,Tryz.ntmps41
  have hoX:Hid (dv (w.alloc (Z #[] 85)) w.heap.size (J (some ⟨w.heap.size,0,none⟩) 0 0) []∧bA (w.alloc (Z #[] 85)) (some ad) q∧([]:List Cel).length+q.length≤maxLen∧(([]:List Cel).length+q.length)*40≤140737488355328∧w.heap.size≤(w.alloc (Z #[] 85)).heap.size) :=
   ⟨⟨rfl,oR ⟨w.heap.size,0,#[],rfl,nR _,(MapKept.heap_alloc _ _).1,nR _,by simp,rfl,rfl⟩⟩,hrH.out.gr ((gR _).alloc _),by unfold maxLen;simp;omega,by simp;omega,by simp⟩
  go_wp2_with (at_builtin;refine dA _ rfl (.tmp 5) (.tmp 6) rfl w.heap.size (J (some ⟨w.heap.size,0,none⟩) 0 0) [] q (some ad) cap rfl rfl hoX.out.1 hoX.out.2.1 (fun h=>by cases h) hoX.out.2.2.1 hoX.out.2.2.2.1 hoX.out.2.2.2.2 ?_;intro v1 w1 hown1 hgr1)
  have hfin:Hid (dv w1 w.heap.size v1 q∧Below w.heap.size w w1):=⟨hown1,((gR w).alloc _).below.trans (ai.grown_below hoX.out.1 hgr1 hoX.out.2.2.2.2)⟩
  clear hown1 hgr1
  go_ret
  obtain ⟨C,c,hv,_⟩:=ai.row dw hfin.out.1
  subst hv
  exact ⟨C,c,rfl,hfin.out⟩
theorem qc (q:List (Int×Int)) (A:Option Addr) (cap:Nat) (w:World) (hl:q.length*16≤140737488351232) (hr:Row w A q) (hA:A=none→cap=0) :
  Calls H 59 #[J A q.length cap] w fun e w'=>∃C c,e= Y (J C q.length c)∧Own w' w.heap.size (J C q.length c) q∧Below w.heap.size w w':=by
 have hrH:Hid (Row w A q):=hr
 clear hr
 have q22:∀(w:World) (a:Option Addr) (n c n' c':Nat),(binOp .eql 37 (J a n c) (J none n' c')).run H w= .ok (.bool a.isNone) w:=fun w a n c n' c'=>Lib.run_eql_slice_nil w _ _ a n c n' c' Tryz.underlying37
 cases A with
 | none =>
  have hq0:Hid (q=[]):=by
   rcases hrH.out with h|⟨_,_,h,_⟩
   ·exact h
   ·cases h
  go_enter Tryz.func59,Tryz.ntmps59
  go_wp2
  go_ret
  rw[hq0.out]
  exact ⟨_,_,rfl,Own.nil _ _,bR _ _⟩
 | some ad =>
  go_enter Tryz.func59,Tryz.ntmps59
  have hoX:Hid (Own (w.alloc (Z #[] 83)) w.heap.size (J (some ⟨w.heap.size,0,none⟩) 0 0) []∧Row (w.alloc (Z #[] 83)) (some ad) q∧(([]:List (Int×Int)).length+q.length)*16≤140737488355328∧w.heap.size≤(w.alloc (Z #[] 83)).heap.size) :=
   ⟨⟨rfl,oR ⟨w.heap.size,0,#[],rfl,nR _,(MapKept.heap_alloc _ _).1,nR _,by simp,rfl,rfl⟩⟩,hrH.out.gr ((gR _).alloc _),by simp;omega,by simp⟩
  go_wp2_with (at_builtin;refine aF _ rfl (.tmp 5) (.tmp 6) rfl w.heap.size (J (some ⟨w.heap.size,0,none⟩) 0 0) [] q (some ad) cap rfl rfl hoX.out.1 hoX.out.2.1 (fun h=>by cases h) hoX.out.2.2.1 hoX.out.2.2.2 ?_;intro v1 w1 hown1 hgr1 _)
  have hfin:Hid (Own w1 w.heap.size v1 q∧Below w.heap.size w w1):=⟨hown1,((gR w).alloc _).below.trans (Own.grown_below hoX.out.1 hgr1 hoX.out.2.2.2)⟩
  clear hown1 hgr1
  go_ret
  obtain ⟨C,c,hv,_⟩:=Own.row hfin.out.1
  subst hv
  exact ⟨C,c,rfl,hfin.out⟩
theorem fg (c:Ctx) (A:Option Addr) (ca:Nat) (w:World) (hl:c.l.length≤400) (hr:Row w A c.l) (hA:A=none→ca=0) :
  Calls H 40 #[X #[V I c.c0,V I c.c1,V I c.c2,V I c.c3,J A c.l.length ca]] w fun e w'=>∃B cb,e= Y (X #[V I c.c0,V I c.c1,V I c.c2,V I c.c3,J B c.l.length cb])∧Own w' w.heap.size (J B c.l.length cb) c.l∧Below w.heap.size w w':=by
 have mixed:Tryz.prog.follows .mixedOrders=true:=by kernel_rfl
 obtain ⟨w1,hw1⟩:∃W,(w.alloc (Z #[V I c.c0,V I c.c1,V I c.c2,V I c.c3,J A c.l.length ca] 39)).alloc (Z #[V I 0,V I 0,V I 0,V I 0,J none 0 0] 39)=W:=⟨_,rfl⟩
 have hg1:Gr w w1:=by rw[←hw1];exact ((gR w).alloc _).alloc _
 have hs1:w1.heap.size=w.heap.size+1+1:=by rw[←hw1];simp
 have s0:w1.cell? ⟨w.heap.size,0,none⟩=some (V I c.c0):=by rw[←hw1];exact ab (w:=w) ((gR _).alloc _) rfl
 have s1:w1.cell? ⟨w.heap.size,1,none⟩=some (V I c.c1):=by rw[←hw1];exact ab (w:=w) ((gR _).alloc _) rfl
 have s2:w1.cell? ⟨w.heap.size,2,none⟩=some (V I c.c2):=by rw[←hw1];exact ab (w:=w) ((gR _).alloc _) rfl
 have s3:w1.cell? ⟨w.heap.size,3,none⟩=some (V I c.c3):=by rw[←hw1];exact ab (w:=w) ((gR _).alloc _) rfl
 have s4:w1.cell? ⟨w.heap.size,4,none⟩=some (J A c.l.length ca):=by rw[←hw1];exact ab (w:=w) ((gR _).alloc _) rfl
 have hC:Hid (∀W,Gr w1 W→Calls H 59 #[J A c.l.length ca] W fun e w'=>∃C c',e= Y (J C c.l.length c')∧Own w' W.heap.size (J C c.l.length c') c.l∧Below W.heap.size W w'):=fun W hg=>qc c.l A ca W (by omega) (hr.gr (hg1.trans hg)) hA
 clear hr hA
 go_enter Tryz.func40,Tryz.ntmps40
 go_wp2
 have f0:Hid (∀j,w1.frozen? ⟨w.heap.size+1,j,none⟩=false):=fun j=>by
  rw[←hw1]
  exact oy (w:=w) (gR _) j
 have r0:Hid (∀j v,(#[V I 0,V I 0,V I 0,V I 0,J none 0 0]:Array Value)[j]? = some v→w1.cell? ⟨w.heap.size+1,j,none⟩=some v):=fun j v hv=>by
  rw[←hw1]
  have:=ab (w:=w.alloc (Z #[V I c.c0,V I c.c1,V I c.c2,V I c.c3,J A c.l.length ca] 39)) (T1:=39) (gR _) hv
  simpa using this
 clear hw1
 go_region_with (go_at_call 59;refine cM (hC.out _ (gR w1).drew) ?_;rintro e w2 ⟨B,cb,rfl,h1,h2⟩;have hbH:Hid (Own w2 (w.heap.size+1+1) (J B c.l.length cb) c.l∧Below w1.heap.size w1 w2):=⟨by rw[←hs1];exact h1,(gR w1).drew.below.trans h2⟩;clear h1 h2;have hlt1:w.heap.size+1<w1.heap.size:=(by omega);have hlt0:w.heap.size<w1.heap.size:=(by omega);have q0:=(hbH.out.2.cell (p:=⟨w.heap.size,0,none⟩) hlt0).trans s0;have q1:=(hbH.out.2.cell (p:=⟨w.heap.size,1,none⟩) hlt0).trans s1;have q2:=(hbH.out.2.cell (p:=⟨w.heap.size,2,none⟩) hlt0).trans s2;have q3:=(hbH.out.2.cell (p:=⟨w.heap.size,3,none⟩) hlt0).trans s3;have p0:=(hbH.out.2.cell (p:=⟨w.heap.size+1,0,none⟩) hlt1).trans (r0.out 0 _ rfl);have p1:=(hbH.out.2.cell (p:=⟨w.heap.size+1,1,none⟩) hlt1).trans (r0.out 1 _ rfl);have p2:=(hbH.out.2.cell (p:=⟨w.heap.size+1,2,none⟩) hlt1).trans (r0.out 2 _ rfl);have p3:=(hbH.out.2.cell (p:=⟨w.heap.size+1,3,none⟩) hlt1).trans (r0.out 3 _ rfl);have p4:=(hbH.out.2.cell (p:=⟨w.heap.size+1,4,none⟩) hlt1).trans (r0.out 4 _ rfl);have z0:=(hbH.out.2.frozen (p:=⟨w.heap.size+1,0,none⟩) hlt1).trans (f0.out 0);have z1:=(hbH.out.2.frozen (p:=⟨w.heap.size+1,1,none⟩) hlt1).trans (f0.out 1);have z2:=(hbH.out.2.frozen (p:=⟨w.heap.size+1,2,none⟩) hlt1).trans (f0.out 2);have z3:=(hbH.out.2.frozen (p:=⟨w.heap.size+1,3,none⟩) hlt1).trans (f0.out 3);have z4:=(hbH.out.2.frozen (p:=⟨w.heap.size+1,4,none⟩) hlt1).trans (f0.out 4))
 all_goals
  go_wp2
  have hB:Below w.heap.size w w2:=hg1.below.trans (hbH.out.2.mono hg1.size)
  have hlt:w.heap.size+1<w.heap.size+1+1:=by omega
  have hge:w.heap.size≤w.heap.size+1:=by omega
  exact bodyPost_ret (v:= X #[V I c.c0,V I c.c1,V I c.c2,V I c.c3,J B c.l.length cb]) (by simp[results,Tryz.results40,go_sem,p0,p1,p2,p3,p4]) rfl ⟨B,cb,rfl,(((((hbH.out.1.setCell hlt _).setCell hlt _).setCell hlt _).setCell hlt _).setCell hlt _).mono (by omega),((((hB.setCell hge _).setCell hge _).setCell hge _).setCell hge _).setCell hge _⟩
end Go.Proofs.YtkefkplnamkicabGreatDoor
