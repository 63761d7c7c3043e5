/-
  (*Node).Since: what is told since two contexts.
  slices.Clone at cells and at dots; node.copyContext.
  (*Node).Whole: the packet of both tables, in memory of its own.
  (*Node).Seen: the contexts of both tables, in memory of their own.
  (*Net).packetOf, (*Net).send: a packet of one node for another one.
  (*Net).take: a packet comes to whom it is for.
-/
import Derived.Test.YtckeonpnfankhaaGreatDoorM26
import Derived.Shelf.Slices.Clone
import Derived.ArgAppend
set_option maxRecDepth 100000
set_option maxHeartbeats 8000000
namespace Go.Proofs.YtckeonpnfankhaaGreatDoor
open Go.RowKit Go.Sort
set_option linter.unusedSimpArgs false

def fQ (s t:Tab) (c d:Ctx):Int:=if bA s c=0 then bA t d else bA s c
def snS (s t:Tab) (c d:Ctx):Tab:=if fQ s t c d=0 then bM s c else ⟨⟨0,0,0,0,[]⟩,[]⟩
def snT (s t:Tab) (c d:Ctx):Tab:=if fQ s t c d=0 then bM t d else ⟨⟨0,0,0,0,[]⟩,[]⟩
theorem TbW.zero (n:Nat) (w:World):TbW n w ⟨⟨0,0,0,0,[]⟩,[]⟩ none 0 none 0:=⟨oL rfl,oL rfl,fun _=>rfl,fun _=>rfl,(fun a h=>by cases h),(fun a h=>by cases h)⟩
theorem yZ (a b c d e f g h i j:Value) (w:World):(Instr.index 150 (.agg #[a,b,c,d,e,f,g,h,i,j]) (.int .i64 0)).run Tryz.prog w= .ok (.agg #[a,b,c,d,e]) w:=by kernel_rfl
theorem yM (a b c d e f g h i j:Value) (w:World):(Instr.index 150 (.agg #[a,b,c,d,e,f,g,h,i,j]) (.int .i64 1)).run Tryz.prog w= .ok (.agg #[f,g,h,i,j]) w:=by kernel_rfl
theorem wJ {w:World} {N O:Nat} {P:Nat→Prop} {id:Int} {s t:Tab} {qs:List (List Stp)} (h:Nd w N O P id s t qs) (c d:Ctx) (PA PB:Option Addr) (pca pcb:Nat) (ra:Row w PA c.l) (rb:Row w PB d.l) (la:c.l.length≤maxLen) (lb:d.l.length≤maxLen) :
  Calls Tryz.prog 77 #[.pointer (some ⟨N,O,none⟩),.agg #[.int .i64 c.c0,.int .i64 c.c1,.int .i64 c.c2,.int .i64 c.c3,.slice PA c.l.length pca,.int .i64 d.c0,.int .i64 d.c1,.int .i64 d.c2,.int .i64 d.c3,.slice PB d.l.length pcb]] w fun e w'=>∃(EA:Option Addr) (eca:Nat) (EC:Option Addr) (ecc:Nat) (EB:Option Addr) (ecb:Nat) (ED:Option Addr) (ecd:Nat),e= .returned (.tuple #[.agg (T2 (snS s t c d) EA eca EC ecc (snT s t c d) EB ecb ED ecd).toArray,.int .i64 (fQ s t c d)])∧TbW w.heap.size w' (snS s t c d) EA eca EC ecc∧TbW w.heap.size w' (snT s t c d) EB ecb ED ecd∧Below w.heap.size w w':=by
 have mixed:Tryz.prog.follows .mixedOrders=true:=by kernel_rfl
 have hx0:=yZ (.int .i64 c.c0) (.int .i64 c.c1) (.int .i64 c.c2) (.int .i64 c.c3) (.slice PA c.l.length pca) (.int .i64 d.c0) (.int .i64 d.c1) (.int .i64 d.c2) (.int .i64 d.c3) (.slice PB d.l.length pcb)
 have hx1:=yM (.int .i64 c.c0) (.int .i64 c.c1) (.int .i64 c.c2) (.int .i64 c.c3) (.slice PA c.l.length pca) (.int .i64 d.c0) (.int .i64 d.c1) (.int .i64 d.c2) (.int .i64 d.c3) (.slice PB d.l.length pcb)
 obtain ⟨A,ca,C,cc,hcs,hts⟩:=h.ts
 obtain ⟨B,cb,D,cd,hct,htt⟩:=h.tt
 have hPk:Hid (Row w PA c.l∧Row w PB d.l∧c.l.length≤maxLen∧d.l.length≤maxLen):=⟨ra,rb,la,lb⟩
 have hH:Hid (Nd w N O P id s t qs∧TbP P w s A ca C cc∧TbP P w t B cb D cd∧TbC w N (O+1) s A ca C cc∧TbC w N (O+7) t B cb D cd):=⟨h,hts,htt,hcs,hct⟩
 clear h hts htt hcs hct ra rb la lb
 go_enter Tryz.func77,Tryz.ntmps77
 go_wp2
 obtain ⟨w1,hw1⟩:∃W,((w.alloc (.cells #[.int .i64 c.c0,.int .i64 c.c1,.int .i64 c.c2,.int .i64 c.c3,.slice PA c.l.length pca,.int .i64 d.c0,.int .i64 d.c1,.int .i64 d.c2,.int .i64 d.c3,.slice PB d.l.length pcb] 150)).alloc (.cells #[.int .i64 0,.int .i64 0,.int .i64 0,.int .i64 0,.slice none 0 0,.slice none 0 0,.int .i64 0,.int .i64 0,.int .i64 0,.int .i64 0,.slice none 0 0,.slice none 0 0] 90)).alloc (.cells #[.int .i64 0,.int .i64 0,.int .i64 0,.int .i64 0,.slice none 0 0,.slice none 0 0,.int .i64 0,.int .i64 0,.int .i64 0,.int .i64 0,.slice none 0 0,.slice none 0 0] 90)=W:=⟨_,rfl⟩
 rw[hw1]
 have hI:Hid (Below w.heap.size w w1∧Cls w1 (w.heap.size+1+1) Z2∧Cls w1 (w.heap.size+1) Z2):=by
  refine ⟨by rw[←hw1];exact ((((gR w).alloc _).alloc _).alloc _).below,?_,?_⟩
  ·have:=Cls.new ((w.alloc (.cells #[.int .i64 c.c0,.int .i64 c.c1,.int .i64 c.c2,.int .i64 c.c3,.slice PA c.l.length pca,.int .i64 d.c0,.int .i64 d.c1,.int .i64 d.c2,.int .i64 d.c3,.slice PB d.l.length pcb] 150)).alloc (.cells #[.int .i64 0,.int .i64 0,.int .i64 0,.int .i64 0,.slice none 0 0,.slice none 0 0,.int .i64 0,.int .i64 0,.int .i64 0,.int .i64 0,.slice none 0 0,.slice none 0 0] 90)) #[.int .i64 0,.int .i64 0,.int .i64 0,.int .i64 0,.slice none 0 0,.slice none 0 0,.int .i64 0,.int .i64 0,.int .i64 0,.int .i64 0,.slice none 0 0,.slice none 0 0] 90
   rw[hw1,show ((w.alloc (.cells #[.int .i64 c.c0,.int .i64 c.c1,.int .i64 c.c2,.int .i64 c.c3,.slice PA c.l.length pca,.int .i64 d.c0,.int .i64 d.c1,.int .i64 d.c2,.int .i64 d.c3,.slice PB d.l.length pcb] 150)).alloc (.cells #[.int .i64 0,.int .i64 0,.int .i64 0,.int .i64 0,.slice none 0 0,.slice none 0 0,.int .i64 0,.int .i64 0,.int .i64 0,.int .i64 0,.slice none 0 0,.slice none 0 0] 90)).heap.size=w.heap.size+1+1 by simp] at this
   exact this
  ·have:=Cls.new (w.alloc (.cells #[.int .i64 c.c0,.int .i64 c.c1,.int .i64 c.c2,.int .i64 c.c3,.slice PA c.l.length pca,.int .i64 d.c0,.int .i64 d.c1,.int .i64 d.c2,.int .i64 d.c3,.slice PB d.l.length pcb] 150)) #[.int .i64 0,.int .i64 0,.int .i64 0,.int .i64 0,.slice none 0 0,.slice none 0 0,.int .i64 0,.int .i64 0,.int .i64 0,.int .i64 0,.slice none 0 0,.slice none 0 0] 90
   rw[show (w.alloc (.cells #[.int .i64 c.c0,.int .i64 c.c1,.int .i64 c.c2,.int .i64 c.c3,.slice PA c.l.length pca,.int .i64 d.c0,.int .i64 d.c1,.int .i64 d.c2,.int .i64 d.c3,.slice PB d.l.length pcb] 150)).heap.size=w.heap.size+1 by simp] at this
   rw[←hw1]
   exact this.gr ((gR _).alloc _)
 clear hw1
 have hw1l:Hid (w.heap.size+1+1<w1.heap.size):=hI.out.2.1.lt
 refine wp_loop_rounds 3 ?_
 rw[rounds_succ]
 go_upto_region 5 with fail
 obtain ⟨wb0,hwb⟩:∃W,w1.alloc (.cells #[.int .i64 c.c0,.int .i64 c.c1,.int .i64 c.c2,.int .i64 c.c3,.slice PA c.l.length pca] 38)=W:=⟨_,rfl⟩
 rw[hwb]
 have hA:Hid (Gr w1 wb0∧Below w.heap.size w wb0∧Cls wb0 w1.heap.size [.int .i64 c.c0,.int .i64 c.c1,.int .i64 c.c2,.int .i64 c.c3,.slice PA c.l.length pca]∧Cls wb0 (w.heap.size+1+1) Z2∧Cls wb0 (w.heap.size+1) Z2∧N<wb0.heap.size∧TbC wb0 N (O+1) s A ca C cc∧TbC wb0 N (O+7) t B cb D cd):=by
  have hg:Gr w1 wb0:=by rw[←hwb];exact (gR _).alloc _
  have hb:=hI.out.1.trans (hg.below.mono hI.out.1.size)
  have hlt:=hH.out.1.blk.lt
  exact ⟨hg,hb,by rw[←hwb];exact Cls.new w1 _ _,hI.out.2.1.gr hg,hI.out.2.2.gr hg,nL hlt hb.size,hH.out.2.2.2.1.keep fun j _ _=>hb.cell (p:=⟨N,j,none⟩) hlt,hH.out.2.2.2.2.keep fun j _ _=>hb.cell (p:=⟨N,j,none⟩) hlt⟩
 clear hwb
 obtain ⟨ME0,hME⟩:∃E,bA s c=E:=⟨_,rfl⟩
 obtain ⟨MT0,hMT⟩:∃E,bM s c=E:=⟨_,rfl⟩
 have hME0:Hid (bA s c=ME0∧bM s c=MT0):=⟨hME,hMT⟩
 have hM:Hid (∀W,Below wb0.heap.size wb0 W→Calls Tryz.prog 110 #[.agg (T6 s A ca C cc).toArray,.agg #[.int .i64 c.c0,.int .i64 c.c1,.int .i64 c.c2,.int .i64 c.c3,.slice PA c.l.length pca]] W fun e w'=>∃E ce F cf,e= .returned (.tuple #[.agg (T6 MT0 E ce F cf).toArray,.int .i64 ME0])∧TbW W.heap.size w' MT0 E ce F cf∧Below W.heap.size W w'):=fun W hW=>by
  have hb:=hA.out.2.1.trans (hW.mono hA.out.2.1.size)
  have hr5:=hH.out.2.1.below hb
  have hm:=mR s c A PA C ca pca cc W hr5.len.1 hPk.out.2.2.1 hr5.len.2 hr5.row (hPk.out.1.below hb) hr5.cel
  rw[hME,hMT] at hm
  refine hm.mono ?_
  rintro e w' ⟨E,ce,F,cf,rfl,f1,f2,f3,f4,f5,f6,f7⟩
  exact ⟨E,ce,F,cf,rfl,⟨f1,f2,f3,f4,f6,f7⟩,f5⟩
 clear hME hMT
 go_cut [9,10,12] from 12 to 35 (fun v9 v10 v12 wx=>v10= .int .i64 ME0∧v12= .int .i64 0∧∃Bm:Nat,v9= .pointer (some ⟨Bm,0,none⟩)∧TbR wb0 wx Bm MT0)
 case first =>
  have hD0:Hid (Below wb0.heap.size wb0 wb0.drew):=(gR wb0).drew.below
  have hD1:Hid (Below wb0.heap.size wb0 (wb0.alloc (.cells #[.int .i64 0,.int .i64 0,.int .i64 0,.int .i64 0,.slice none 0 0,.slice none 0 0] 41)).drew):=((gR wb0).alloc _).drew.below
  have hle0:Hid (wb0.heap.size≤wb0.drew.heap.size):=nR _
  have hle1:Hid (wb0.heap.size+1≤(wb0.alloc (.cells #[.int .i64 0,.int .i64 0,.int .i64 0,.int .i64 0,.slice none 0 0,.slice none 0 0] 41)).drew.heap.size):=by show _≤(wb0.alloc _).heap.size;simp
  have hKeep:Hid (∀W,Below wb0.heap.size wb0 W→(fun w'=>w'.cell? ⟨w1.heap.size,0,none⟩=some (.int .i64 c.c0)∧w'.cell? ⟨w1.heap.size,1,none⟩=some (.int .i64 c.c1)∧w'.cell? ⟨w1.heap.size,2,none⟩=some (.int .i64 c.c2)∧w'.cell? ⟨w1.heap.size,3,none⟩=some (.int .i64 c.c3)∧w'.cell? ⟨w1.heap.size,4,none⟩=some (.slice PA c.l.length pca)∧w'.cell? ⟨N,O+1,none⟩=some (.int .i64 s.c.c0)∧w'.cell? ⟨N,O+2,none⟩=some (.int .i64 s.c.c1)∧w'.cell? ⟨N,O+3,none⟩=some (.int .i64 s.c.c2)∧w'.cell? ⟨N,O+4,none⟩=some (.int .i64 s.c.c3)∧w'.cell? ⟨N,O+5,none⟩=some (.slice A s.c.l.length ca)∧w'.cell? ⟨N,O+6,none⟩=some (.slice C s.e.length cc)) W):=fun W hW=>⟨(hA.out.2.2.1.below hW).cell (j:=0) rfl,(hA.out.2.2.1.below hW).cell (j:=1) rfl,(hA.out.2.2.1.below hW).cell (j:=2) rfl,(hA.out.2.2.1.below hW).cell (j:=3) rfl,(hA.out.2.2.1.below hW).cell (j:=4) rfl,(hW.cell (p:=⟨N,O+1,none⟩) hA.out.2.2.2.2.2.1).trans hA.out.2.2.2.2.2.2.1.k0,(hW.cell (p:=⟨N,O+2,none⟩) hA.out.2.2.2.2.2.1).trans hA.out.2.2.2.2.2.2.1.k1,(hW.cell (p:=⟨N,O+3,none⟩) hA.out.2.2.2.2.2.1).trans hA.out.2.2.2.2.2.2.1.k2,(hW.cell (p:=⟨N,O+4,none⟩) hA.out.2.2.2.2.2.1).trans hA.out.2.2.2.2.2.2.1.k3,(hW.cell (p:=⟨N,O+5,none⟩) hA.out.2.2.2.2.2.1).trans hA.out.2.2.2.2.2.2.1.k4,(hW.cell (p:=⟨N,O+6,none⟩) hA.out.2.2.2.2.2.1).trans hA.out.2.2.2.2.2.2.1.k5⟩
  refine wp_region_noPanic ?_
  refine wp_region_held_drew (S:=(fun w'=>w'.cell? ⟨w1.heap.size,0,none⟩=some (.int .i64 c.c0)∧w'.cell? ⟨w1.heap.size,1,none⟩=some (.int .i64 c.c1)∧w'.cell? ⟨w1.heap.size,2,none⟩=some (.int .i64 c.c2)∧w'.cell? ⟨w1.heap.size,3,none⟩=some (.int .i64 c.c3)∧w'.cell? ⟨w1.heap.size,4,none⟩=some (.slice PA c.l.length pca)∧w'.cell? ⟨N,O+1,none⟩=some (.int .i64 s.c.c0)∧w'.cell? ⟨N,O+2,none⟩=some (.int .i64 s.c.c1)∧w'.cell? ⟨N,O+3,none⟩=some (.int .i64 s.c.c2)∧w'.cell? ⟨N,O+4,none⟩=some (.int .i64 s.c.c3)∧w'.cell? ⟨N,O+5,none⟩=some (.slice A s.c.l.length ca)∧w'.cell? ⟨N,O+6,none⟩=some (.slice C s.e.length cc))) (by kernel_rfl) (hKeep.out _ hD0.out) (fun hHeld=> ?_)
  show wpAnyH _ _ _ _ _ 14 _ _ _
  repeat' first
   | with_reducible exact AllReadyH.nil
   | (
    (with_reducible refine isW ?_);refine wpAnyH_done (by decide +kernel) ?_ _
    refine NoPanic.normal ?_
    go_wp2_with fail
    go_meet
    case rel=>exact ⟨rfl,rfl,_,rfl,(by first|with_reducible exact ku (hT2.out.mono hle0.out) hF.out|with_reducible exact iX hB2.out (hT2.out.mono hle1.out) hF.out)⟩)
   | (
    (with_reducible refine isW ?_);first
    | refine tkk 0 [1,2,3,4,5,6] (by assumption) (v:= ?_) (by simp only[zA,z0',zS];rfl) (by decide +kernel) ?_ ?_
    | refine tkk 8 [9,10] (by assumption) (v:= ?_) (by simp only[zA,z0',zS];rfl) (by decide +kernel) ?_ ?_
    | refine tkk 13 [] (by assumption) (v:= ?_) (by simp only[zA,z0',zS];rfl) (by decide +kernel) ?_ ?_
    rotate_left
    ·(refine oL ⟨by rfl,?_⟩;intro w hSw;(try dsimp only at hSw);go_simp<;>with_reducible rfl)
    try simp only[Act.put,yA,aC,yS]
    repeat (refine tk (v:= ?_) (by simp only[zA,z0',zS];rfl) (by kernel_rfl) ?_ ?_;rotate_left;· (refine oL ⟨by rfl,?_⟩;intro w hSw;(try dsimp only at hSw);go_simp<;>with_reducible rfl);try simp only[Act.put,yA,aC,yS])
    refine tk0 ?_)
   | ((with_reducible refine isW ?_);first
     | refine wpAnyH_ready (rs:=[7,11]) (by decide +kernel) (by simp) ?_
     | refine wpAnyH_ready (rs:=[11]) (by decide +kernel) (by simp) ?_
     | refine wpAnyH_ready (rs:=[12]) (by decide +kernel) (by simp) ?_
     | refine wpAnyH_ready (rs:=[7]) (by decide +kernel) (by simp) ?_)
   | ((with_reducible refine isR ?_);refine rdc (by simp only[zA,z0',zS];rfl) ?_ fun K hK=> ?_)
   | (
    go_simp
    first
    | ((go_at_call 110;(with_reducible refine cM (hM.out _ (by first|with_reducible exact hD0.out|with_reducible exact hD1.out)) ?_);rintro e w2 ⟨E,ce,F,cf,rfl,f2,f3⟩;have hF:Hid (Below wb0.heap.size wb0 w2):=(by first|exact hD0.out.trans (f3.mono hD0.out.size)|exact hD1.out.trans (f3.mono hD1.out.size));have hT2:Hid _:=f2;(first|(have hB2:Hid (Cls w2 wb0.heap.size Z6):=((Cls.new wb0 #[.int .i64 0,.int .i64 0,.int .i64 0,.int .i64 0,.slice none 0 0,.slice none 0 0] 41).gr (gR _).drew).below f3)|skip);clear f2 f3;(first|(have p0:=hB2.out.cell (j:=0) rfl;have z0:=hB2.out.fz 0;have p1:=hB2.out.cell (j:=1) rfl;have z1:=hB2.out.fz 1;have p2:=hB2.out.cell (j:=2) rfl;have z2:=hB2.out.fz 2;have p3:=hB2.out.cell (j:=3) rfl;have z3:=hB2.out.fz 3;have p4:=hB2.out.cell (j:=4) rfl;have z4:=hB2.out.fz 4;have p5:=hB2.out.cell (j:=5) rfl;have z5:=hB2.out.fz 5)|skip));first|(go_wp2_with fail)|skip)
    | skip
    refine hK.out _ _ ?_ (fun hHeld=> ?_)
    ·(try dsimp only);exact hKeep.out _ (by first|with_reducible exact hD0.out|with_reducible exact hD1.out|with_reducible exact hF.out|with_reducible exact hF.out.alloc hF.out.size _|exact aj hF.out (nR _) _ _ _ _ _ _)
    clear hK K
    try simp only[Act.put,yA,aC,yS])
 rename World=>wx0
 obtain ⟨rfl,rfl,Bm,rfl,hTR⟩:=hcut
 obtain ⟨MA,mca,MC,mcc,g1,g2,g3,g4⟩:=hTR
 have hN:Hid (Cls wx0 Bm (T6 MT0 MA mca MC mcc)∧TbW wb0.heap.size wx0 MT0 MA mca MC mcc∧Below w.heap.size w wx0∧Cls wx0 (w.heap.size+1+1) Z2∧Cls wx0 (w.heap.size+1) Z2∧wb0.heap.size≤Bm):=⟨g1,g2,hA.out.2.1.trans (g3.mono hA.out.2.1.size),hA.out.2.2.2.1.below g3,hA.out.2.2.2.2.1.below g3,g4⟩
 have hsz0:Hid (w1.heap.size<wb0.heap.size):=hA.out.2.2.1.lt
 have hg3H:Hid (Below wb0.heap.size wb0 wx0):=g3
 clear g1 g2 g3 g4 hM
 cases hn:(ME0 != 0)
 rotate_left
 focus
  have hfin:Hid (fQ s t c d=ME0∧¬fQ s t c d=0):=by
   have h0:¬ME0=0:=by simpa using hn
   have h1:fQ s t c d=ME0:=by unfold fQ;rw[if_neg (by rw[hME0.out.1];exact h0)];exact hME0.out.1
   exact ⟨h1,by rw[h1];exact h0⟩
  obtain ⟨r0,r1,r2,r3,r4,r5,r6,r7,r8,r9,r10,r11⟩:=eS hN.out.2.2.2.2.1
  obtain ⟨y0,y1,y2,y3,y4,y5,y6,y7,y8,y9,y10,y11⟩:=mA hN.out.2.2.2.2.1
  go_wp2
  exact bodyPost_ret (v:= .tuple #[.agg #[.int .i64 0,.int .i64 0,.int .i64 0,.int .i64 0,.slice none 0 0,.slice none 0 0,.int .i64 0,.int .i64 0,.int .i64 0,.int .i64 0,.slice none 0 0,.slice none 0 0],.int .i64 ME0]) (by simp[results,Tryz.results77,go_sem,r0,r1,r2,r3,r4,r5,r6,r7,r8,r9,r10,r11]) rfl ⟨none,0,none,0,none,0,none,0,by rw[hfin.out.1];unfold snS snT;rw[if_neg hfin.out.2,if_neg hfin.out.2];rfl,by unfold snS;rw[if_neg hfin.out.2];exact TbW.zero _ _,by unfold snT;rw[if_neg hfin.out.2];exact TbW.zero _ _,((((((((((((hN.out.2.2.1.setCell (Nat.le_succ _) _).setCell (Nat.le_succ _) _).setCell (Nat.le_succ _) _).setCell (Nat.le_succ _) _).setCell (Nat.le_succ _) _).setCell (Nat.le_succ _) _).setCell (Nat.le_succ _) _).setCell (Nat.le_succ _) _).setCell (Nat.le_succ _) _).setCell (Nat.le_succ _) _).setCell (Nat.le_succ _) _).setCell (Nat.le_succ _) _)⟩
 have h0:ME0=0:=by simpa using hn
 have h0I0:Hid (ME0=0):=h0
 clear hn h0
 have hB0:(ME0 != 0)=false:=by rw[h0I0.out];rfl
 obtain ⟨c0,c1,c2,c3,c4,c5⟩:=ii hN.out.1
 obtain ⟨p0,p1,p2,p3,p4,p5⟩:=ii hN.out.2.2.2.1
 obtain ⟨z0,z1,z2,z3,z4,z5⟩:=qq hN.out.2.2.2.1
 go_wp2
 obtain ⟨wd0,hwd⟩:∃W,((((((wx0.setCell ⟨w.heap.size+1+1,0,none⟩ (.int .i64 MT0.c.c0)).setCell ⟨w.heap.size+1+1,1,none⟩ (.int .i64 MT0.c.c1)).setCell ⟨w.heap.size+1+1,2,none⟩ (.int .i64 MT0.c.c2)).setCell ⟨w.heap.size+1+1,3,none⟩ (.int .i64 MT0.c.c3)).setCell ⟨w.heap.size+1+1,4,none⟩ (.slice MA MT0.c.l.length mca)).setCell ⟨w.heap.size+1+1,5,none⟩ (.slice MC MT0.e.length mcc))=W:=⟨_,rfl⟩
 rw[hwd]
 have hJ:Hid (TbW wb0.heap.size wd0 MT0 MA mca MC mcc∧Below w.heap.size w wd0∧Cls wd0 (w.heap.size+1+1) [.int .i64 MT0.c.c0,.int .i64 MT0.c.c1,.int .i64 MT0.c.c2,.int .i64 MT0.c.c3,.slice MA MT0.c.l.length mca,.slice MC MT0.e.length mcc,.int .i64 0,.int .i64 0,.int .i64 0,.int .i64 0,.slice none 0 0,.slice none 0 0]∧Cls wd0 (w.heap.size+1) Z2):=by
  have hsz:=hsz0.out
  have hlw:=hI.out.1.size
  have hl1:=hI.out.2.1.lt
  have hne:w.heap.size+1≠w.heap.size+1+1:=by omega
  refine ⟨?_,?_,?_,?_⟩
  ·rw[←hwd];exact hN.out.2.1.agr ((((((aS _ fun h=>by omega).trans (aS _ fun h=>by omega)).trans (aS _ fun h=>by omega)).trans (aS _ fun h=>by omega)).trans (aS _ fun h=>by omega)).trans (aS _ fun h=>by omega))
  ·have hge:w.heap.size≤w.heap.size+1+1:=by omega
   rw[←hwd];exact (((((hN.out.2.2.1.setCell hge _).setCell hge _).setCell hge _).setCell hge _).setCell hge _).setCell hge _
  ·rw[←hwd];exact (((((hN.out.2.2.2.1.put 0 _).put 1 _).put 2 _).put 3 _).put 4 _).put 5 _
  ·rw[←hwd];exact (((((hN.out.2.2.2.2.1.oth hne _).oth hne _).oth hne _).oth hne _).oth hne _).oth hne _
 clear hwd hB0 c0 c1 c2 c3 c4 c5 p0 z0 p1 z1 p2 z2 p3 z3 p4 z4 p5 z5
 have hI0:Hid (TbW wb0.heap.size wd0 MT0 MA mca MC mcc):=hJ.out.1
 have hszw0:Hid (w.heap.size≤wb0.heap.size):=hA.out.2.1.size
 clear hA hN hI hg3H
 have hI:Hid (Below w.heap.size w wd0∧Cls wd0 (w.heap.size+1+1) [.int .i64 MT0.c.c0,.int .i64 MT0.c.c1,.int .i64 MT0.c.c2,.int .i64 MT0.c.c3,.slice MA MT0.c.l.length mca,.slice MC MT0.e.length mcc,.int .i64 0,.int .i64 0,.int .i64 0,.int .i64 0,.slice none 0 0,.slice none 0 0]∧Cls wd0 (w.heap.size+1) Z2):=⟨hJ.out.2.1,hJ.out.2.2.1,hJ.out.2.2.2⟩
 clear hJ
 rw[rounds_succ]
 go_upto_region 5 with fail
 obtain ⟨wb1,hwb⟩:∃W,wd0.alloc (.cells #[.int .i64 d.c0,.int .i64 d.c1,.int .i64 d.c2,.int .i64 d.c3,.slice PB d.l.length pcb] 38)=W:=⟨_,rfl⟩
 rw[hwb]
 have hA:Hid (Gr wd0 wb1∧Below w.heap.size w wb1∧Cls wb1 wd0.heap.size [.int .i64 d.c0,.int .i64 d.c1,.int .i64 d.c2,.int .i64 d.c3,.slice PB d.l.length pcb]∧Cls wb1 (w.heap.size+1+1) [.int .i64 MT0.c.c0,.int .i64 MT0.c.c1,.int .i64 MT0.c.c2,.int .i64 MT0.c.c3,.slice MA MT0.c.l.length mca,.slice MC MT0.e.length mcc,.int .i64 0,.int .i64 0,.int .i64 0,.int .i64 0,.slice none 0 0,.slice none 0 0]∧Cls wb1 (w.heap.size+1) Z2∧N<wb1.heap.size∧TbC wb1 N (O+1) s A ca C cc∧TbC wb1 N (O+7) t B cb D cd):=by
  have hg:Gr wd0 wb1:=by rw[←hwb];exact (gR _).alloc _
  have hb:=hI.out.1.trans (hg.below.mono hI.out.1.size)
  have hlt:=hH.out.1.blk.lt
  exact ⟨hg,hb,by rw[←hwb];exact Cls.new wd0 _ _,hI.out.2.1.gr hg,hI.out.2.2.gr hg,nL hlt hb.size,hH.out.2.2.2.1.keep fun j _ _=>hb.cell (p:=⟨N,j,none⟩) hlt,hH.out.2.2.2.2.keep fun j _ _=>hb.cell (p:=⟨N,j,none⟩) hlt⟩
 clear hwb
 obtain ⟨ME1,hME⟩:∃E,bA t d=E:=⟨_,rfl⟩
 obtain ⟨MT1,hMT⟩:∃E,bM t d=E:=⟨_,rfl⟩
 have hME1:Hid (bA t d=ME1∧bM t d=MT1):=⟨hME,hMT⟩
 have hM:Hid (∀W,Below wb1.heap.size wb1 W→Calls Tryz.prog 110 #[.agg (T6 t B cb D cd).toArray,.agg #[.int .i64 d.c0,.int .i64 d.c1,.int .i64 d.c2,.int .i64 d.c3,.slice PB d.l.length pcb]] W fun e w'=>∃E ce F cf,e= .returned (.tuple #[.agg (T6 MT1 E ce F cf).toArray,.int .i64 ME1])∧TbW W.heap.size w' MT1 E ce F cf∧Below W.heap.size W w'):=fun W hW=>by
  have hb:=hA.out.2.1.trans (hW.mono hA.out.2.1.size)
  have hr5:=hH.out.2.2.1.below hb
  have hm:=mR t d B PB D cb pcb cd W hr5.len.1 hPk.out.2.2.2 hr5.len.2 hr5.row (hPk.out.2.1.below hb) hr5.cel
  rw[hME,hMT] at hm
  refine hm.mono ?_
  rintro e w' ⟨E,ce,F,cf,rfl,f1,f2,f3,f4,f5,f6,f7⟩
  exact ⟨E,ce,F,cf,rfl,⟨f1,f2,f3,f4,f6,f7⟩,f5⟩
 clear hME hMT
 go_cut [9,10,12] from 12 to 35 (fun v9 v10 v12 wx=>v10= .int .i64 ME1∧v12= .int .i64 1∧∃Bm:Nat,v9= .pointer (some ⟨Bm,0,none⟩)∧TbR wb1 wx Bm MT1)
 case first =>
  have hD0:Hid (Below wb1.heap.size wb1 wb1.drew):=(gR wb1).drew.below
  have hD1:Hid (Below wb1.heap.size wb1 (wb1.alloc (.cells #[.int .i64 0,.int .i64 0,.int .i64 0,.int .i64 0,.slice none 0 0,.slice none 0 0] 41)).drew):=((gR wb1).alloc _).drew.below
  have hle0:Hid (wb1.heap.size≤wb1.drew.heap.size):=nR _
  have hle1:Hid (wb1.heap.size+1≤(wb1.alloc (.cells #[.int .i64 0,.int .i64 0,.int .i64 0,.int .i64 0,.slice none 0 0,.slice none 0 0] 41)).drew.heap.size):=by show _≤(wb1.alloc _).heap.size;simp
  have hKeep:Hid (∀W,Below wb1.heap.size wb1 W→(fun w'=>w'.cell? ⟨wd0.heap.size,0,none⟩=some (.int .i64 d.c0)∧w'.cell? ⟨wd0.heap.size,1,none⟩=some (.int .i64 d.c1)∧w'.cell? ⟨wd0.heap.size,2,none⟩=some (.int .i64 d.c2)∧w'.cell? ⟨wd0.heap.size,3,none⟩=some (.int .i64 d.c3)∧w'.cell? ⟨wd0.heap.size,4,none⟩=some (.slice PB d.l.length pcb)∧w'.cell? ⟨N,O+7,none⟩=some (.int .i64 t.c.c0)∧w'.cell? ⟨N,O+8,none⟩=some (.int .i64 t.c.c1)∧w'.cell? ⟨N,O+9,none⟩=some (.int .i64 t.c.c2)∧w'.cell? ⟨N,O+10,none⟩=some (.int .i64 t.c.c3)∧w'.cell? ⟨N,O+11,none⟩=some (.slice B t.c.l.length cb)∧w'.cell? ⟨N,O+12,none⟩=some (.slice D t.e.length cd)) W):=fun W hW=>⟨(hA.out.2.2.1.below hW).cell (j:=0) rfl,(hA.out.2.2.1.below hW).cell (j:=1) rfl,(hA.out.2.2.1.below hW).cell (j:=2) rfl,(hA.out.2.2.1.below hW).cell (j:=3) rfl,(hA.out.2.2.1.below hW).cell (j:=4) rfl,(hW.cell (p:=⟨N,O+7,none⟩) hA.out.2.2.2.2.2.1).trans hA.out.2.2.2.2.2.2.2.k0,(hW.cell (p:=⟨N,O+8,none⟩) hA.out.2.2.2.2.2.1).trans hA.out.2.2.2.2.2.2.2.k1,(hW.cell (p:=⟨N,O+9,none⟩) hA.out.2.2.2.2.2.1).trans hA.out.2.2.2.2.2.2.2.k2,(hW.cell (p:=⟨N,O+10,none⟩) hA.out.2.2.2.2.2.1).trans hA.out.2.2.2.2.2.2.2.k3,(hW.cell (p:=⟨N,O+11,none⟩) hA.out.2.2.2.2.2.1).trans hA.out.2.2.2.2.2.2.2.k4,(hW.cell (p:=⟨N,O+12,none⟩) hA.out.2.2.2.2.2.1).trans hA.out.2.2.2.2.2.2.2.k5⟩
  refine wp_region_noPanic ?_
  refine wp_region_held_drew (S:=(fun w'=>w'.cell? ⟨wd0.heap.size,0,none⟩=some (.int .i64 d.c0)∧w'.cell? ⟨wd0.heap.size,1,none⟩=some (.int .i64 d.c1)∧w'.cell? ⟨wd0.heap.size,2,none⟩=some (.int .i64 d.c2)∧w'.cell? ⟨wd0.heap.size,3,none⟩=some (.int .i64 d.c3)∧w'.cell? ⟨wd0.heap.size,4,none⟩=some (.slice PB d.l.length pcb)∧w'.cell? ⟨N,O+7,none⟩=some (.int .i64 t.c.c0)∧w'.cell? ⟨N,O+8,none⟩=some (.int .i64 t.c.c1)∧w'.cell? ⟨N,O+9,none⟩=some (.int .i64 t.c.c2)∧w'.cell? ⟨N,O+10,none⟩=some (.int .i64 t.c.c3)∧w'.cell? ⟨N,O+11,none⟩=some (.slice B t.c.l.length cb)∧w'.cell? ⟨N,O+12,none⟩=some (.slice D t.e.length cd))) (by kernel_rfl) (hKeep.out _ hD0.out) (fun hHeld=> ?_)
  show wpAnyH _ _ _ _ _ 14 _ _ _
  repeat' first
   | with_reducible exact AllReadyH.nil
   | (
    (with_reducible refine isW ?_);refine wpAnyH_done (by decide +kernel) ?_ _
    refine NoPanic.normal ?_
    go_wp2_with fail
    go_meet
    case rel=>exact ⟨rfl,rfl,_,rfl,(by first|with_reducible exact ku (hT2.out.mono hle0.out) hF.out|with_reducible exact iX hB2.out (hT2.out.mono hle1.out) hF.out)⟩)
   | (
    (with_reducible refine isW ?_);first
    | refine tkk 0 [1,2,3,4,5,6] (by assumption) (v:= ?_) (by simp only[zA,z0',zS];rfl) (by decide +kernel) ?_ ?_
    | refine tkk 8 [9,10] (by assumption) (v:= ?_) (by simp only[zA,z0',zS];rfl) (by decide +kernel) ?_ ?_
    | refine tkk 13 [] (by assumption) (v:= ?_) (by simp only[zA,z0',zS];rfl) (by decide +kernel) ?_ ?_
    rotate_left
    ·(refine oL ⟨by rfl,?_⟩;intro w hSw;(try dsimp only at hSw);go_simp<;>with_reducible rfl)
    try simp only[Act.put,yA,aC,yS]
    repeat (refine tk (v:= ?_) (by simp only[zA,z0',zS];rfl) (by kernel_rfl) ?_ ?_;rotate_left;· (refine oL ⟨by rfl,?_⟩;intro w hSw;(try dsimp only at hSw);go_simp<;>with_reducible rfl);try simp only[Act.put,yA,aC,yS])
    refine tk0 ?_)
   | ((with_reducible refine isW ?_);first
     | refine wpAnyH_ready (rs:=[7,11]) (by decide +kernel) (by simp) ?_
     | refine wpAnyH_ready (rs:=[11]) (by decide +kernel) (by simp) ?_
     | refine wpAnyH_ready (rs:=[12]) (by decide +kernel) (by simp) ?_
     | refine wpAnyH_ready (rs:=[7]) (by decide +kernel) (by simp) ?_)
   | ((with_reducible refine isR ?_);refine rdc (by simp only[zA,z0',zS];rfl) ?_ fun K hK=> ?_)
   | (
    go_simp
    first
    | ((go_at_call 110;(with_reducible refine cM (hM.out _ (by first|with_reducible exact hD0.out|with_reducible exact hD1.out)) ?_);rintro e w2 ⟨E,ce,F,cf,rfl,f2,f3⟩;have hF:Hid (Below wb1.heap.size wb1 w2):=(by first|exact hD0.out.trans (f3.mono hD0.out.size)|exact hD1.out.trans (f3.mono hD1.out.size));have hT2:Hid _:=f2;(first|(have hB2:Hid (Cls w2 wb1.heap.size Z6):=((Cls.new wb1 #[.int .i64 0,.int .i64 0,.int .i64 0,.int .i64 0,.slice none 0 0,.slice none 0 0] 41).gr (gR _).drew).below f3)|skip);clear f2 f3;(first|(have p0:=hB2.out.cell (j:=0) rfl;have z0:=hB2.out.fz 0;have p1:=hB2.out.cell (j:=1) rfl;have z1:=hB2.out.fz 1;have p2:=hB2.out.cell (j:=2) rfl;have z2:=hB2.out.fz 2;have p3:=hB2.out.cell (j:=3) rfl;have z3:=hB2.out.fz 3;have p4:=hB2.out.cell (j:=4) rfl;have z4:=hB2.out.fz 4;have p5:=hB2.out.cell (j:=5) rfl;have z5:=hB2.out.fz 5)|skip));first|(go_wp2_with fail)|skip)
    | skip
    refine hK.out _ _ ?_ (fun hHeld=> ?_)
    ·(try dsimp only);exact hKeep.out _ (by first|with_reducible exact hD0.out|with_reducible exact hD1.out|with_reducible exact hF.out|with_reducible exact hF.out.alloc hF.out.size _|exact aj hF.out (nR _) _ _ _ _ _ _)
    clear hK K
    try simp only[Act.put,yA,aC,yS])
 rename World=>wx1
 obtain ⟨rfl,rfl,Bm,rfl,hTR⟩:=hcut
 obtain ⟨MB,mcb,MD,mcd,g1,g2,g3,g4⟩:=hTR
 have hN:Hid (Cls wx1 Bm (T6 MT1 MB mcb MD mcd)∧TbW wb1.heap.size wx1 MT1 MB mcb MD mcd∧Below w.heap.size w wx1∧Cls wx1 (w.heap.size+1+1) [.int .i64 MT0.c.c0,.int .i64 MT0.c.c1,.int .i64 MT0.c.c2,.int .i64 MT0.c.c3,.slice MA MT0.c.l.length mca,.slice MC MT0.e.length mcc,.int .i64 0,.int .i64 0,.int .i64 0,.int .i64 0,.slice none 0 0,.slice none 0 0]∧Cls wx1 (w.heap.size+1) Z2∧wb1.heap.size≤Bm):=⟨g1,g2,hA.out.2.1.trans (g3.mono hA.out.2.1.size),hA.out.2.2.2.1.below g3,hA.out.2.2.2.2.1.below g3,g4⟩
 have hsz1:Hid (wd0.heap.size<wb1.heap.size):=hA.out.2.2.1.lt
 have hg3H:Hid (Below wb1.heap.size wb1 wx1):=g3
 clear g1 g2 g3 g4 hM
 cases hn:(ME1 != 0)
 rotate_left
 focus
  have hfin:Hid (fQ s t c d=ME1∧¬fQ s t c d=0):=by
   have h0:¬ME1=0:=by simpa using hn
   have h1:fQ s t c d=ME1:=by unfold fQ;rw[if_pos (by rw[hME0.out.1];exact h0I0.out)];exact hME1.out.1
   exact ⟨h1,by rw[h1];exact h0⟩
  obtain ⟨r0,r1,r2,r3,r4,r5,r6,r7,r8,r9,r10,r11⟩:=eS hN.out.2.2.2.2.1
  obtain ⟨y0,y1,y2,y3,y4,y5,y6,y7,y8,y9,y10,y11⟩:=mA hN.out.2.2.2.2.1
  go_wp2
  exact bodyPost_ret (v:= .tuple #[.agg #[.int .i64 0,.int .i64 0,.int .i64 0,.int .i64 0,.slice none 0 0,.slice none 0 0,.int .i64 0,.int .i64 0,.int .i64 0,.int .i64 0,.slice none 0 0,.slice none 0 0],.int .i64 ME1]) (by simp[results,Tryz.results77,go_sem,r0,r1,r2,r3,r4,r5,r6,r7,r8,r9,r10,r11]) rfl ⟨none,0,none,0,none,0,none,0,by rw[hfin.out.1];unfold snS snT;rw[if_neg hfin.out.2,if_neg hfin.out.2];rfl,by unfold snS;rw[if_neg hfin.out.2];exact TbW.zero _ _,by unfold snT;rw[if_neg hfin.out.2];exact TbW.zero _ _,((((((((((((hN.out.2.2.1.setCell (Nat.le_succ _) _).setCell (Nat.le_succ _) _).setCell (Nat.le_succ _) _).setCell (Nat.le_succ _) _).setCell (Nat.le_succ _) _).setCell (Nat.le_succ _) _).setCell (Nat.le_succ _) _).setCell (Nat.le_succ _) _).setCell (Nat.le_succ _) _).setCell (Nat.le_succ _) _).setCell (Nat.le_succ _) _).setCell (Nat.le_succ _) _)⟩
 have h0:ME1=0:=by simpa using hn
 have h0I1:Hid (ME1=0):=h0
 clear hn h0
 have hB0:(ME1 != 0)=false:=by rw[h0I1.out];rfl
 obtain ⟨c0,c1,c2,c3,c4,c5⟩:=ii hN.out.1
 obtain ⟨p6,p7,p8,p9,p10,p11⟩:=yk hN.out.2.2.2.1
 obtain ⟨z6,z7,z8,z9,z10,z11⟩:=zr hN.out.2.2.2.1
 go_wp2
 obtain ⟨wd1,hwd⟩:∃W,((((((wx1.setCell ⟨w.heap.size+1+1,6,none⟩ (.int .i64 MT1.c.c0)).setCell ⟨w.heap.size+1+1,7,none⟩ (.int .i64 MT1.c.c1)).setCell ⟨w.heap.size+1+1,8,none⟩ (.int .i64 MT1.c.c2)).setCell ⟨w.heap.size+1+1,9,none⟩ (.int .i64 MT1.c.c3)).setCell ⟨w.heap.size+1+1,10,none⟩ (.slice MB MT1.c.l.length mcb)).setCell ⟨w.heap.size+1+1,11,none⟩ (.slice MD MT1.e.length mcd))=W:=⟨_,rfl⟩
 rw[hwd]
 have hJ:Hid (TbW wb1.heap.size wd1 MT1 MB mcb MD mcd∧Below w.heap.size w wd1∧Cls wd1 (w.heap.size+1+1) (T2 MT0 MA mca MC mcc MT1 MB mcb MD mcd)∧Cls wd1 (w.heap.size+1) Z2∧TbW wb0.heap.size wd1 MT0 MA mca MC mcc):=by
  have hsz:=hsz1.out
  have hlw:=hI.out.1.size
  have hl1:=hI.out.2.1.lt
  have hne:w.heap.size+1≠w.heap.size+1+1:=by omega
  refine ⟨?_,?_,?_,?_,?_⟩
  ·rw[←hwd];exact hN.out.2.1.agr ((((((aS _ fun h=>by omega).trans (aS _ fun h=>by omega)).trans (aS _ fun h=>by omega)).trans (aS _ fun h=>by omega)).trans (aS _ fun h=>by omega)).trans (aS _ fun h=>by omega))
  ·have hge:w.heap.size≤w.heap.size+1+1:=by omega
   rw[←hwd];exact (((((hN.out.2.2.1.setCell hge _).setCell hge _).setCell hge _).setCell hge _).setCell hge _).setCell hge _
  ·rw[←hwd];exact (((((hN.out.2.2.2.1.put 6 _).put 7 _).put 8 _).put 9 _).put 10 _).put 11 _
  ·rw[←hwd];exact (((((hN.out.2.2.2.2.1.oth hne _).oth hne _).oth hne _).oth hne _).oth hne _).oth hne _
  ·have hbx:Below wd0.heap.size wd0 wx1:=hA.out.1.below.trans (hg3H.out.mono hA.out.1.size)
   have hs0:=hsz0.out
   have hs00:=hw1l.out
   rw[←hwd];exact (hI0.out.below hbx).agr ((((((aS _ fun h=>by omega).trans (aS _ fun h=>by omega)).trans (aS _ fun h=>by omega)).trans (aS _ fun h=>by omega)).trans (aS _ fun h=>by omega)).trans (aS _ fun h=>by omega))
 clear hwd hB0 c0 c1 c2 c3 c4 c5 p6 z6 p7 z7 p8 z8 p9 z9 p10 z10 p11 z11
 rw[rounds_succ]
 obtain ⟨q0,q1,q2,q3,q4,q5,q6,q7,q8,q9,q10,q11⟩:=eS hJ.out.2.2.1
 obtain ⟨r0,r1,r2,r3,r4,r5,r6,r7,r8,r9,r10,r11⟩:=eS hJ.out.2.2.2.1
 obtain ⟨y0,y1,y2,y3,y4,y5,y6,y7,y8,y9,y10,y11⟩:=mA hJ.out.2.2.2.1
 have hfin:Hid (fQ s t c d=0∧snS s t c d=MT0∧snT s t c d=MT1):=by
  have h1:fQ s t c d=0:=by unfold fQ;rw[if_pos (by rw[hME0.out.1];exact h0I0.out),hME1.out.1];exact h0I1.out
  exact ⟨h1,by unfold snS;rw[if_pos h1];exact hME0.out.2,by unfold snT;rw[if_pos h1];exact hME1.out.2⟩
 go_wp2
 have hs00:=hw1l.out
 have hsa:=hsz0.out
 have hsb:=hsz1.out
 have hsc:=hA.out.2.1.size
 have hsd:=hI.out.2.1.lt
 have hse:=hszw0.out
 have hAg:∀base,w.heap.size+1<base→Agr (fun b=>base≤b) wd1 ((((((((((((wd1.setCell ⟨w.heap.size+1,0,none⟩ (.int .i64 MT0.c.c0)).setCell ⟨w.heap.size+1,1,none⟩ (.int .i64 MT0.c.c1)).setCell ⟨w.heap.size+1,2,none⟩ (.int .i64 MT0.c.c2)).setCell ⟨w.heap.size+1,3,none⟩ (.int .i64 MT0.c.c3)).setCell ⟨w.heap.size+1,4,none⟩ (.slice MA MT0.c.l.length mca)).setCell ⟨w.heap.size+1,5,none⟩ (.slice MC MT0.e.length mcc)).setCell ⟨w.heap.size+1,6,none⟩ (.int .i64 MT1.c.c0)).setCell ⟨w.heap.size+1,7,none⟩ (.int .i64 MT1.c.c1)).setCell ⟨w.heap.size+1,8,none⟩ (.int .i64 MT1.c.c2)).setCell ⟨w.heap.size+1,9,none⟩ (.int .i64 MT1.c.c3)).setCell ⟨w.heap.size+1,10,none⟩ (.slice MB MT1.c.l.length mcb)).setCell ⟨w.heap.size+1,11,none⟩ (.slice MD MT1.e.length mcd)):=fun base hbase=>((((((((((((aS _ fun h=>by omega).trans (aS _ fun h=>by omega)).trans (aS _ fun h=>by omega)).trans (aS _ fun h=>by omega)).trans (aS _ fun h=>by omega)).trans (aS _ fun h=>by omega)).trans (aS _ fun h=>by omega)).trans (aS _ fun h=>by omega)).trans (aS _ fun h=>by omega)).trans (aS _ fun h=>by omega)).trans (aS _ fun h=>by omega)).trans (aS _ fun h=>by omega))
 rw[hfin.out.1,hfin.out.2.1,hfin.out.2.2]
 exact bodyPost_ret (v:= .tuple #[.agg (T2 MT0 MA mca MC mcc MT1 MB mcb MD mcd).toArray,.int .i64 0]) (by simp[results,Tryz.results77,go_sem,r0,r1,r2,r3,r4,r5,r6,r7,r8,r9,r10,r11]) rfl ⟨MA,mca,MC,mcc,MB,mcb,MD,mcd,rfl,(hJ.out.2.2.2.2.agr (hAg _ (by omega))).mono (by omega),(hJ.out.1.agr (hAg _ (by omega))).mono (by omega),((((((((((((hJ.out.2.1.setCell (Nat.le_succ _) _).setCell (Nat.le_succ _) _).setCell (Nat.le_succ _) _).setCell (Nat.le_succ _) _).setCell (Nat.le_succ _) _).setCell (Nat.le_succ _) _).setCell (Nat.le_succ _) _).setCell (Nat.le_succ _) _).setCell (Nat.le_succ _) _).setCell (Nat.le_succ _) _).setCell (Nat.le_succ _) _).setCell (Nat.le_succ _) _)⟩

theorem kF (q:List Cel) (A:Option Addr) (cap:Nat) (w:World) (hl:q.length*40≤140737488351232) (hr:bj w A q) (hA:A=none→cap=0) :
  Calls Tryz.prog 57 #[.slice A q.length cap] w fun e w'=>∃C c,e= .returned (.slice C q.length c)∧dv w' w.heap.size (.slice C q.length c) q∧Below w.heap.size w w':=by
 have hrH:Hid (bj w A q):=hr
 clear hr
 have q22:∀(w:World) (a:Option Addr) (n c n' c':Nat),(binOp .eql 39 (.slice a n c) (.slice none n' c')).run Tryz.prog w= .ok (.bool a.isNone) w:=fun w a n c n' c'=>Lib.run_eql_slice_nil w _ _ a n c n' c' Tryz.underlying39
 cases A with
 | none =>
  have hq0:Hid (q=[]):=by
   rcases hrH.out with h|⟨_,_,h,_⟩
   ·exact h
   ·cases h
  go_enter Tryz.func57,Tryz.ntmps57
  go_wp2
  go_ret
  rw[hq0.out]
  exact ⟨_,_,rfl,ai.nil _ _ _ _ _,bR _ _⟩
 | some ad =>
  go_enter Tryz.func57,Tryz.ntmps57
  have hoX:Hid (dv (w.alloc (.cells #[] 97)) w.heap.size (.slice (some ⟨w.heap.size,0,none⟩) 0 0) []∧bj (w.alloc (.cells #[] 97)) (some ad) q∧([]:List Cel).length+q.length≤maxLen∧(([]:List Cel).length+q.length)*40≤140737488355328∧w.heap.size≤(w.alloc (.cells #[] 97)).heap.size) :=
   ⟨⟨rfl,oR ⟨w.heap.size,0,#[],rfl,nR _,(MapKept.heap_alloc _ _).1,nR _,by simp,rfl,rfl⟩⟩,hrH.out.gr ((gR _).alloc _),by unfold maxLen;simp;omega,by simp;omega,by simp⟩
  go_wp2_with (at_builtin;refine dy _ rfl (.tmp 5) (.tmp 6) rfl w.heap.size (.slice (some ⟨w.heap.size,0,none⟩) 0 0) [] q (some ad) cap rfl rfl hoX.out.1 hoX.out.2.1 (fun h=>by cases h) hoX.out.2.2.1 hoX.out.2.2.2.1 hoX.out.2.2.2.2 ?_;intro v1 w1 hown1 hgr1)
  have hfin:Hid (dv w1 w.heap.size v1 q∧Below w.heap.size w w1):=⟨hown1,((gR w).alloc _).below.trans (ai.grown_below hoX.out.1 hgr1 hoX.out.2.2.2.2)⟩
  clear hown1 hgr1
  go_ret
  obtain ⟨C,c,hv,_⟩:=ai.row dt hfin.out.1
  subst hv
  exact ⟨C,c,rfl,hfin.out⟩
theorem pQ (q:List (Int×Int)) (A:Option Addr) (cap:Nat) (w:World) (hl:q.length*16≤140737488351232) (hr:Row w A q) (hA:A=none→cap=0) :
  Calls Tryz.prog 82 #[.slice A q.length cap] w fun e w'=>∃C c,e= .returned (.slice C q.length c)∧Own w' w.heap.size (.slice C q.length c) q∧Below w.heap.size w w':=by
 have hrH:Hid (Row w A q):=hr
 clear hr
 have q22:∀(w:World) (a:Option Addr) (n c n' c':Nat),(binOp .eql 36 (.slice a n c) (.slice none n' c')).run Tryz.prog w= .ok (.bool a.isNone) w:=fun w a n c n' c'=>Lib.run_eql_slice_nil w _ _ a n c n' c' Tryz.underlying36
 cases A with
 | none =>
  have hq0:Hid (q=[]):=by
   rcases hrH.out with h|⟨_,_,h,_⟩
   ·exact h
   ·cases h
  go_enter Tryz.func82,Tryz.ntmps82
  go_wp2
  go_ret
  rw[hq0.out]
  exact ⟨_,_,rfl,Own.nil _ _,bR _ _⟩
 | some ad =>
  go_enter Tryz.func82,Tryz.ntmps82
  have hoX:Hid (Own (w.alloc (.cells #[] 95)) w.heap.size (.slice (some ⟨w.heap.size,0,none⟩) 0 0) []∧Row (w.alloc (.cells #[] 95)) (some ad) q∧(([]:List (Int×Int)).length+q.length)*16≤140737488355328∧w.heap.size≤(w.alloc (.cells #[] 95)).heap.size) :=
   ⟨⟨rfl,oR ⟨w.heap.size,0,#[],rfl,nR _,(MapKept.heap_alloc _ _).1,nR _,by simp,rfl,rfl⟩⟩,hrH.out.gr ((gR _).alloc _),by simp;omega,by simp⟩
  go_wp2_with (at_builtin;refine aE _ rfl (.tmp 5) (.tmp 6) rfl w.heap.size (.slice (some ⟨w.heap.size,0,none⟩) 0 0) [] q (some ad) cap rfl rfl hoX.out.1 hoX.out.2.1 (fun h=>by cases h) hoX.out.2.2.1 hoX.out.2.2.2 ?_;intro v1 w1 hown1 hgr1 _)
  have hfin:Hid (Own w1 w.heap.size v1 q∧Below w.heap.size w w1):=⟨hown1,((gR w).alloc _).below.trans (Own.grown_below hoX.out.1 hgr1 hoX.out.2.2.2)⟩
  clear hown1 hgr1
  go_ret
  obtain ⟨C,c,hv,_⟩:=Own.row hfin.out.1
  subst hv
  exact ⟨C,c,rfl,hfin.out⟩
theorem f8 (c:Ctx) (A:Option Addr) (ca:Nat) (w:World) (hl:c.l.length≤400) (hr:Row w A c.l) (hA:A=none→ca=0) :
  Calls Tryz.prog 56 #[.agg #[.int .i64 c.c0,.int .i64 c.c1,.int .i64 c.c2,.int .i64 c.c3,.slice A c.l.length ca]] w fun e w'=>∃B cb,e= .returned (.agg #[.int .i64 c.c0,.int .i64 c.c1,.int .i64 c.c2,.int .i64 c.c3,.slice B c.l.length cb])∧Own w' w.heap.size (.slice B c.l.length cb) c.l∧Below w.heap.size w w':=by
 have mixed:Tryz.prog.follows .mixedOrders=true:=by kernel_rfl
 obtain ⟨w1,hw1⟩:∃W,(w.alloc (.cells #[.int .i64 c.c0,.int .i64 c.c1,.int .i64 c.c2,.int .i64 c.c3,.slice A c.l.length ca] 38)).alloc (.cells #[.int .i64 0,.int .i64 0,.int .i64 0,.int .i64 0,.slice none 0 0] 38)=W:=⟨_,rfl⟩
 have hg1:Gr w w1:=by rw[←hw1];exact ((gR w).alloc _).alloc _
 have hs1:w1.heap.size=w.heap.size+1+1:=by rw[←hw1];simp
 have s0:w1.cell? ⟨w.heap.size,0,none⟩=some (.int .i64 c.c0):=by rw[←hw1];exact aa (w:=w) ((gR _).alloc _) rfl
 have s1:w1.cell? ⟨w.heap.size,1,none⟩=some (.int .i64 c.c1):=by rw[←hw1];exact aa (w:=w) ((gR _).alloc _) rfl
 have s2:w1.cell? ⟨w.heap.size,2,none⟩=some (.int .i64 c.c2):=by rw[←hw1];exact aa (w:=w) ((gR _).alloc _) rfl
 have s3:w1.cell? ⟨w.heap.size,3,none⟩=some (.int .i64 c.c3):=by rw[←hw1];exact aa (w:=w) ((gR _).alloc _) rfl
 have s4:w1.cell? ⟨w.heap.size,4,none⟩=some (.slice A c.l.length ca):=by rw[←hw1];exact aa (w:=w) ((gR _).alloc _) rfl
 have hC:Hid (∀W,Gr w1 W→Calls Tryz.prog 82 #[.slice A c.l.length ca] W fun e w'=>∃C c',e= .returned (.slice C c.l.length c')∧Own w' W.heap.size (.slice C c.l.length c') c.l∧Below W.heap.size W w'):=fun W hg=>pQ c.l A ca W (by omega) (hr.gr (hg1.trans hg)) hA
 clear hr hA
 go_enter Tryz.func56,Tryz.ntmps56
 go_wp2
 have f0:Hid (∀j,w1.frozen? ⟨w.heap.size+1,j,none⟩=false):=fun j=>by
  rw[←hw1]
  exact oB (w:=w) (gR _) j
 have r0:Hid (∀j v,(#[.int .i64 0,.int .i64 0,.int .i64 0,.int .i64 0,.slice none 0 0]:Array Value)[j]? = some v→w1.cell? ⟨w.heap.size+1,j,none⟩=some v):=fun j v hv=>by
  rw[←hw1]
  have:=aa (w:=w.alloc (.cells #[.int .i64 c.c0,.int .i64 c.c1,.int .i64 c.c2,.int .i64 c.c3,.slice A c.l.length ca] 38)) (T1:=38) (gR _) hv
  simpa using this
 clear hw1
 go_region_with (go_at_call 82;refine cM (hC.out _ (gR w1).drew) ?_;rintro e w2 ⟨B,cb,rfl,h1,h2⟩;have hbH:Hid (Own w2 (w.heap.size+1+1) (.slice B c.l.length cb) c.l∧Below w1.heap.size w1 w2):=⟨by rw[←hs1];exact h1,(gR w1).drew.below.trans h2⟩;clear h1 h2;have hlt1:w.heap.size+1<w1.heap.size:=(by omega);have hlt0:w.heap.size<w1.heap.size:=(by omega);have q0:=(hbH.out.2.cell (p:=⟨w.heap.size,0,none⟩) hlt0).trans s0;have q1:=(hbH.out.2.cell (p:=⟨w.heap.size,1,none⟩) hlt0).trans s1;have q2:=(hbH.out.2.cell (p:=⟨w.heap.size,2,none⟩) hlt0).trans s2;have q3:=(hbH.out.2.cell (p:=⟨w.heap.size,3,none⟩) hlt0).trans s3;have p0:=(hbH.out.2.cell (p:=⟨w.heap.size+1,0,none⟩) hlt1).trans (r0.out 0 _ rfl);have p1:=(hbH.out.2.cell (p:=⟨w.heap.size+1,1,none⟩) hlt1).trans (r0.out 1 _ rfl);have p2:=(hbH.out.2.cell (p:=⟨w.heap.size+1,2,none⟩) hlt1).trans (r0.out 2 _ rfl);have p3:=(hbH.out.2.cell (p:=⟨w.heap.size+1,3,none⟩) hlt1).trans (r0.out 3 _ rfl);have p4:=(hbH.out.2.cell (p:=⟨w.heap.size+1,4,none⟩) hlt1).trans (r0.out 4 _ rfl);have z0:=(hbH.out.2.frozen (p:=⟨w.heap.size+1,0,none⟩) hlt1).trans (f0.out 0);have z1:=(hbH.out.2.frozen (p:=⟨w.heap.size+1,1,none⟩) hlt1).trans (f0.out 1);have z2:=(hbH.out.2.frozen (p:=⟨w.heap.size+1,2,none⟩) hlt1).trans (f0.out 2);have z3:=(hbH.out.2.frozen (p:=⟨w.heap.size+1,3,none⟩) hlt1).trans (f0.out 3);have z4:=(hbH.out.2.frozen (p:=⟨w.heap.size+1,4,none⟩) hlt1).trans (f0.out 4))
 all_goals
  go_wp2
  have hB:Below w.heap.size w w2:=hg1.below.trans (hbH.out.2.mono hg1.size)
  have hlt:w.heap.size+1<w.heap.size+1+1:=by omega
  have hge:w.heap.size≤w.heap.size+1:=by omega
  exact bodyPost_ret (v:= .agg #[.int .i64 c.c0,.int .i64 c.c1,.int .i64 c.c2,.int .i64 c.c3,.slice B c.l.length cb]) (by simp[results,Tryz.results56,go_sem,p0,p1,p2,p3,p4]) rfl ⟨B,cb,rfl,(((((hbH.out.1.setCell hlt _).setCell hlt _).setCell hlt _).setCell hlt _).setCell hlt _).mono (by omega),((((hB.setCell hge _).setCell hge _).setCell hge _).setCell hge _).setCell hge _⟩

theorem cO {w w':World} {base:Nat} {e:TypeId} {k:Nat} {v:Value} {n:Nat} {l:List Value} (h:w.ownsRow base e k v n l) (hA:Agr (fun b=>base≤b) w w'):w'.ownsRow base e k v n l:=by
 refine ⟨h.1,?_⟩
 rcases h.2 with h1|⟨g,cap,cur,hv,hb,hc,rest⟩
 ·exact oL h1
 ·exact oR ⟨g,cap,cur,hv,hb,(hA.block g hb (Array.getElem?_eq_some_iff.1 hc).1).trans hc,rest⟩
theorem gO {w:World} {N O:Nat} {P:Nat→Prop} {id:Int} {s t:Tab} {qs:List (List Stp)} (h:Nd w N O P id s t qs) :
  Calls Tryz.prog 34 #[.pointer (some ⟨N,O,none⟩)] w fun e w'=>∃(EA:Option Addr) (eca:Nat) (EC:Option Addr) (ecc:Nat) (EB:Option Addr) (ecb:Nat) (ED:Option Addr) (ecd:Nat),e= .returned (.agg (T2 s EA eca EC ecc t EB ecb ED ecd).toArray)∧(Own w' w.heap.size (.slice EA s.c.l.length eca) s.c.l∧dv w' w.heap.size (.slice EC s.e.length ecc) s.e)∧(Own w' w.heap.size (.slice EB t.c.l.length ecb) t.c.l∧dv w' w.heap.size (.slice ED t.e.length ecd) t.e)∧Below w.heap.size w w':=by
 have mixed:Tryz.prog.follows .mixedOrders=true:=by kernel_rfl
 obtain ⟨A,ca,C,cc,hcs,hts⟩:=h.ts
 obtain ⟨B,cb,D,cd,hct,htt⟩:=h.tt
 have hx0:=oN (.int .i64 s.c.c0) (.int .i64 s.c.c1) (.int .i64 s.c.c2) (.int .i64 s.c.c3) (.slice A s.c.l.length ca) (.slice C s.e.length cc) (.int .i64 t.c.c0) (.int .i64 t.c.c1) (.int .i64 t.c.c2) (.int .i64 t.c.c3) (.slice B t.c.l.length cb) (.slice D t.e.length cd)
 have hx1:=pl (.int .i64 s.c.c0) (.int .i64 s.c.c1) (.int .i64 s.c.c2) (.int .i64 s.c.c3) (.slice A s.c.l.length ca) (.slice C s.e.length cc) (.int .i64 t.c.c0) (.int .i64 t.c.c1) (.int .i64 t.c.c2) (.int .i64 t.c.c3) (.slice B t.c.l.length cb) (.slice D t.e.length cd)
 have n1:=hcs.k0
 have n2:=hcs.k1
 have n3:=hcs.k2
 have n4:=hcs.k3
 have n5:=hcs.k4
 have n6:=hcs.k5
 have n7:=hct.k0
 have n8:=hct.k1
 have n9:=hct.k2
 have n10:=hct.k3
 have n11:=hct.k4
 have n12:=hct.k5
 have hH:Hid (TbP P w s A ca C cc∧TbP P w t B cb D cd∧True):=⟨hts,htt,trivial⟩
 have hltN:N<w.heap.size:=h.blk.lt
 have hltM:N<w.heap.size+1:=by omega
 clear h hts htt hcs hct
 go_enter Tryz.func34,Tryz.ntmps34
 go_wp2
 obtain ⟨w1,hw1⟩:∃W,(w.alloc (.cells #[.int .i64 0,.int .i64 0,.int .i64 0,.int .i64 0,.slice none 0 0,.slice none 0 0,.int .i64 0,.int .i64 0,.int .i64 0,.int .i64 0,.slice none 0 0,.slice none 0 0] 90)).alloc (.cells #[.int .i64 0,.int .i64 0,.int .i64 0,.int .i64 0,.slice none 0 0,.slice none 0 0,.int .i64 0,.int .i64 0,.int .i64 0,.int .i64 0,.slice none 0 0,.slice none 0 0] 90)=W:=⟨_,rfl⟩
 rw[hw1]
 have hI:Hid (Below w.heap.size w w1∧Cls w1 (w.heap.size+1) Z2∧Cls w1 w.heap.size Z2):=by
  refine ⟨by rw[←hw1];exact (((gR w).alloc _).alloc _).below,?_,by rw[←hw1];exact (Cls.new w _ _).gr ((gR _).alloc _)⟩
  have:=Cls.new (w.alloc (.cells #[.int .i64 0,.int .i64 0,.int .i64 0,.int .i64 0,.slice none 0 0,.slice none 0 0,.int .i64 0,.int .i64 0,.int .i64 0,.int .i64 0,.slice none 0 0,.slice none 0 0] 90)) #[.int .i64 0,.int .i64 0,.int .i64 0,.int .i64 0,.slice none 0 0,.slice none 0 0,.int .i64 0,.int .i64 0,.int .i64 0,.int .i64 0,.slice none 0 0,.slice none 0 0] 90
  rw[hw1,show (w.alloc (.cells #[.int .i64 0,.int .i64 0,.int .i64 0,.int .i64 0,.slice none 0 0,.slice none 0 0,.int .i64 0,.int .i64 0,.int .i64 0,.int .i64 0,.slice none 0 0,.slice none 0 0] 90)).heap.size=w.heap.size+1 by simp] at this
  exact this
 clear hw1 n1 n2 n3 n4 n5 n6 n7 n8 n9 n10 n11 n12
 refine wp_loop_rounds 3 ?_
 rw[rounds_succ]
 go_upto_region 5 with fail
 obtain ⟨wb0,hwb⟩:∃W,w1.alloc (.cells #[.int .i64 s.c.c0,.int .i64 s.c.c1,.int .i64 s.c.c2,.int .i64 s.c.c3,.slice A s.c.l.length ca,.slice C s.e.length cc] 41)=W:=⟨_,rfl⟩
 rw[hwb]
 have hA:Hid (Gr w1 wb0∧Below w.heap.size w wb0∧Cls wb0 w1.heap.size (T6 s A ca C cc)∧Cls wb0 (w.heap.size+1) Z2∧Cls wb0 w.heap.size Z2∧w.heap.size+1<w1.heap.size∧w1.heap.size<wb0.heap.size):=by
  have hg:Gr w1 wb0:=by rw[←hwb];exact (gR _).alloc _
  exact ⟨hg,hI.out.1.trans (hg.below.mono hI.out.1.size),by rw[←hwb];exact Cls.new w1 _ _,hI.out.2.1.gr hg,hI.out.2.2.gr hg,hI.out.2.1.lt,by rw[←hwb];simp⟩
 clear hwb
 have hD0:Hid (Below wb0.heap.size wb0 wb0.drew):=(gR wb0).drew.below
 have hCc:Hid (∀W,Below wb0.heap.size wb0 W→Calls Tryz.prog 56 #[.agg #[.int .i64 s.c.c0,.int .i64 s.c.c1,.int .i64 s.c.c2,.int .i64 s.c.c3,.slice A s.c.l.length ca]] W fun e w'=>∃B cb,e= .returned (.agg #[.int .i64 s.c.c0,.int .i64 s.c.c1,.int .i64 s.c.c2,.int .i64 s.c.c3,.slice B s.c.l.length cb])∧Own w' W.heap.size (.slice B s.c.l.length cb) s.c.l∧Below W.heap.size W w'):=fun W hW=>by
  have hb:=hA.out.2.1.trans (hW.mono hA.out.2.1.size)
  have hr:=hH.out.1.below hb
  exact f8 s.c A ca W (bw (ag hr.ok).1).2.1 hr.row hr.nr
 have hCl:Hid (∀W,Below wb0.heap.size wb0 W→Calls Tryz.prog 57 #[.slice C s.e.length cc] W fun e w'=>∃C c,e= .returned (.slice C s.e.length c)∧dv w' W.heap.size (.slice C s.e.length c) s.e∧Below W.heap.size W w'):=fun W hW=>by
  have hb:=hA.out.2.1.trans (hW.mono hA.out.2.1.size)
  have hr:=hH.out.1.below hb
  have:=(ag hr.ok).2.1
  exact kF s.e C cc W (by omega) hr.cel hr.nc
 have hKc:Hid (∀W,Cls W w1.heap.size (T6 s A ca C cc)→(fun w'=>w'.cell? ⟨w1.heap.size,0,none⟩=some (.int .i64 s.c.c0)∧w'.cell? ⟨w1.heap.size,1,none⟩=some (.int .i64 s.c.c1)∧w'.cell? ⟨w1.heap.size,2,none⟩=some (.int .i64 s.c.c2)∧w'.cell? ⟨w1.heap.size,3,none⟩=some (.int .i64 s.c.c3)∧w'.cell? ⟨w1.heap.size,4,none⟩=some (.slice A s.c.l.length ca)∧w'.cell? ⟨w1.heap.size,5,none⟩=some (.slice C s.e.length cc)) W):=fun W hW=>⟨hW.cell (j:=0) rfl,hW.cell (j:=1) rfl,hW.cell (j:=2) rfl,hW.cell (j:=3) rfl,hW.cell (j:=4) rfl,hW.cell (j:=5) rfl⟩
 have hne:Hid (w1.heap.size≠w.heap.size+1):=by have:=hA.out.2.2.2.2.2.1;show _≠_;omega
 refine wp_region_noPanic ?_
 refine wp_region_held_drew (S:=(fun w'=>w'.cell? ⟨w1.heap.size,0,none⟩=some (.int .i64 s.c.c0)∧w'.cell? ⟨w1.heap.size,1,none⟩=some (.int .i64 s.c.c1)∧w'.cell? ⟨w1.heap.size,2,none⟩=some (.int .i64 s.c.c2)∧w'.cell? ⟨w1.heap.size,3,none⟩=some (.int .i64 s.c.c3)∧w'.cell? ⟨w1.heap.size,4,none⟩=some (.slice A s.c.l.length ca)∧w'.cell? ⟨w1.heap.size,5,none⟩=some (.slice C s.e.length cc))) (by kernel_rfl) (hKc.out _ (hA.out.2.2.1.below hD0.out)) (fun hHeld=> ?_)
 refine tks [0,1,2,4,5,8] (by assumption) ?_
 iterate 6 (refine tk (v:= ?_) (by rfl) (by kernel_rfl) ?_ ?_;rotate_left;· (refine oL ⟨by rfl,?_⟩;intro w hSw;(try dsimp only at hSw);go_simp<;>with_reducible rfl);try simp only[Act.put,yA,aC,yS])
 refine tk0 ?_
 refine rdy 3 (by kernel_rfl) (by rfl) fun K hK=> ?_
 go_simp
 (go_at_call 56;(with_reducible refine cM (hCc.out _ hD0.out) ?_);rintro e w2 ⟨EA,eca,rfl,f1,f2⟩;have hF:Hid (Below wb0.heap.size wb0 w2∧Own w2 wb0.heap.size (.slice EA s.c.l.length eca) s.c.l):=⟨hD0.out.trans (f2.mono hD0.out.size),f1⟩;clear f1 f2)
 first|(go_wp2_with fail)|skip
 refine hK.out _ _ ?_ (fun hHeld=> ?_)
 ·(try dsimp only);first|with_reducible exact hKc.out _ (hA.out.2.2.1.below hG.out.1)|with_reducible exact hKc.out _ (hA.out.2.2.1.below hF.out.1)|exact hKc.out _ (((((((hA.out.2.2.1.below hG.out.1).oth hne.out _).oth hne.out _).oth hne.out _).oth hne.out _).oth hne.out _).oth hne.out _)
 clear hK K
 try simp only[Act.put,yA,aC,yS]
 refine rdy 6 (by kernel_rfl) (by rfl) fun K hK=> ?_
 go_simp
 (go_at_call 57;(with_reducible refine cM (hCl.out _ hF.out.1) ?_);rintro e w3 ⟨EC,ecc,rfl,f1,f2⟩;have hG:Hid (Below wb0.heap.size wb0 w3∧Own w3 wb0.heap.size (.slice EA s.c.l.length eca) s.c.l∧dv w3 wb0.heap.size (.slice EC s.e.length ecc) s.e):=⟨hF.out.1.trans (f2.mono hF.out.1.size),hF.out.2.below f2,f1.mono hF.out.1.size⟩;clear f1 f2;have p0:=(hA.out.2.2.2.1.below hG.out.1).cell (j:=0) rfl;have z0:=(hA.out.2.2.2.1.below hG.out.1).fz 0;have p1:=(hA.out.2.2.2.1.below hG.out.1).cell (j:=1) rfl;have z1:=(hA.out.2.2.2.1.below hG.out.1).fz 1;have p2:=(hA.out.2.2.2.1.below hG.out.1).cell (j:=2) rfl;have z2:=(hA.out.2.2.2.1.below hG.out.1).fz 2;have p3:=(hA.out.2.2.2.1.below hG.out.1).cell (j:=3) rfl;have z3:=(hA.out.2.2.2.1.below hG.out.1).fz 3;have p4:=(hA.out.2.2.2.1.below hG.out.1).cell (j:=4) rfl;have z4:=(hA.out.2.2.2.1.below hG.out.1).fz 4;have p5:=(hA.out.2.2.2.1.below hG.out.1).cell (j:=5) rfl;have z5:=(hA.out.2.2.2.1.below hG.out.1).fz 5)
 first|(go_wp2_with fail)|skip
 refine hK.out _ _ ?_ (fun hHeld=> ?_)
 ·(try dsimp only);first|with_reducible exact hKc.out _ (hA.out.2.2.1.below hG.out.1)|with_reducible exact hKc.out _ (hA.out.2.2.1.below hF.out.1)|exact hKc.out _ (((((((hA.out.2.2.1.below hG.out.1).oth hne.out _).oth hne.out _).oth hne.out _).oth hne.out _).oth hne.out _).oth hne.out _)
 clear hK K
 try simp only[Act.put,yA,aC,yS]
 refine tks [7,9] (by assumption) ?_
 iterate 2 (refine tk (v:= ?_) (by rfl) (by kernel_rfl) ?_ ?_;rotate_left;· (refine oL ⟨by rfl,?_⟩;intro w hSw;(try dsimp only at hSw);go_simp<;>with_reducible rfl);try simp only[Act.put,yA,aC,yS])
 refine tk0 ?_
 refine rdy 10 (by kernel_rfl) (by rfl) fun K hK=> ?_
 go_simp
 refine hK.out _ _ ?_ (fun hHeld=> ?_)
 ·(try dsimp only);first|with_reducible exact hKc.out _ (hA.out.2.2.1.below hG.out.1)|with_reducible exact hKc.out _ (hA.out.2.2.1.below hF.out.1)|exact hKc.out _ (((((((hA.out.2.2.1.below hG.out.1).oth hne.out _).oth hne.out _).oth hne.out _).oth hne.out _).oth hne.out _).oth hne.out _)
 clear hK K
 try simp only[Act.put,yA,aC,yS]
 refine wpAnyH_done (by kernel_rfl) ?_ _
 refine NoPanic.normal ?_
 go_wp2_with fail
 obtain ⟨wd0,hwd⟩:∃W,((((((w3.setCell ⟨w.heap.size+1,0,none⟩ (.int .i64 s.c.c0)).setCell ⟨w.heap.size+1,1,none⟩ (.int .i64 s.c.c1)).setCell ⟨w.heap.size+1,2,none⟩ (.int .i64 s.c.c2)).setCell ⟨w.heap.size+1,3,none⟩ (.int .i64 s.c.c3)).setCell ⟨w.heap.size+1,4,none⟩ (.slice EA s.c.l.length eca)).setCell ⟨w.heap.size+1,5,none⟩ (.slice EC s.e.length ecc))=W:=⟨_,rfl⟩
 rw[hwd]
 have hJ:Hid (Below w.heap.size w wd0∧Cls wd0 (w.heap.size+1) [.int .i64 s.c.c0,.int .i64 s.c.c1,.int .i64 s.c.c2,.int .i64 s.c.c3,.slice EA s.c.l.length eca,.slice EC s.e.length ecc,.int .i64 0,.int .i64 0,.int .i64 0,.int .i64 0,.slice none 0 0,.slice none 0 0]∧Cls wd0 w.heap.size Z2∧Own wd0 wb0.heap.size (.slice EA s.c.l.length eca) s.c.l∧dv wd0 wb0.heap.size (.slice EC s.e.length ecc) s.e):=by
  have hs1:=hA.out.2.2.2.2.2.1
  have hs2:=hA.out.2.2.2.2.2.2
  have hb3:=hA.out.2.1.trans (hG.out.1.mono hA.out.2.1.size)
  have hge:w.heap.size≤w.heap.size+1:=by omega
  have hnw:w.heap.size≠w.heap.size+1:=by omega
  refine ⟨?_,?_,?_,?_,?_⟩
  ·rw[←hwd];exact (((((hb3.setCell hge _).setCell hge _).setCell hge _).setCell hge _).setCell hge _).setCell hge _
  ·rw[←hwd];exact ((((((hA.out.2.2.2.1.below hG.out.1).put 0 _).put 1 _).put 2 _).put 3 _).put 4 _).put 5 _
  ·rw[←hwd];exact ((((((hA.out.2.2.2.2.1.below hG.out.1).oth hnw _).oth hnw _).oth hnw _).oth hnw _).oth hnw _).oth hnw _
  ·rw[←hwd];exact cO hG.out.2.1 ((((((aS _ fun h=>by omega).trans (aS _ fun h=>by omega)).trans (aS _ fun h=>by omega)).trans (aS _ fun h=>by omega)).trans (aS _ fun h=>by omega)).trans (aS _ fun h=>by omega))
  ·rw[←hwd];exact cO hG.out.2.2 ((((((aS _ fun h=>by omega).trans (aS _ fun h=>by omega)).trans (aS _ fun h=>by omega)).trans (aS _ fun h=>by omega)).trans (aS _ fun h=>by omega)).trans (aS _ fun h=>by omega))
 clear hwd hG hF hCc hCl hKc hne hD0 hHeld p0 z0 p1 z1 p2 z2 p3 z3 p4 z4 p5 z5
 have hI0:Hid (Own wd0 wb0.heap.size (.slice EA s.c.l.length eca) s.c.l∧dv wd0 wb0.heap.size (.slice EC s.e.length ecc) s.e):=⟨hJ.out.2.2.2.1,hJ.out.2.2.2.2⟩
 have hs0H:Hid (w.heap.size+1<wb0.heap.size):=by have h1:=hA.out.2.2.2.2.2.1;have h2:=hA.out.2.2.2.2.2.2;show _<_;omega
 have hI2:Hid (Below w.heap.size w wd0∧Cls wd0 (w.heap.size+1) [.int .i64 s.c.c0,.int .i64 s.c.c1,.int .i64 s.c.c2,.int .i64 s.c.c3,.slice EA s.c.l.length eca,.slice EC s.e.length ecc,.int .i64 0,.int .i64 0,.int .i64 0,.int .i64 0,.slice none 0 0,.slice none 0 0]∧Cls wd0 w.heap.size Z2):=⟨hJ.out.1,hJ.out.2.1,hJ.out.2.2.1⟩
 clear hA hI hJ
 have hI:=hI2
 clear hI2
 rw[rounds_succ]
 go_upto_region 5 with fail
 obtain ⟨wb1,hwb⟩:∃W,wd0.alloc (.cells #[.int .i64 t.c.c0,.int .i64 t.c.c1,.int .i64 t.c.c2,.int .i64 t.c.c3,.slice B t.c.l.length cb,.slice D t.e.length cd] 41)=W:=⟨_,rfl⟩
 rw[hwb]
 have hA:Hid (Gr wd0 wb1∧Below w.heap.size w wb1∧Cls wb1 wd0.heap.size (T6 t B cb D cd)∧Cls wb1 (w.heap.size+1) [.int .i64 s.c.c0,.int .i64 s.c.c1,.int .i64 s.c.c2,.int .i64 s.c.c3,.slice EA s.c.l.length eca,.slice EC s.e.length ecc,.int .i64 0,.int .i64 0,.int .i64 0,.int .i64 0,.slice none 0 0,.slice none 0 0]∧Cls wb1 w.heap.size Z2∧w.heap.size+1<wd0.heap.size∧wd0.heap.size<wb1.heap.size):=by
  have hg:Gr wd0 wb1:=by rw[←hwb];exact (gR _).alloc _
  exact ⟨hg,hI.out.1.trans (hg.below.mono hI.out.1.size),by rw[←hwb];exact Cls.new wd0 _ _,hI.out.2.1.gr hg,hI.out.2.2.gr hg,hI.out.2.1.lt,by rw[←hwb];simp⟩
 clear hwb
 have hD0:Hid (Below wb1.heap.size wb1 wb1.drew):=(gR wb1).drew.below
 have hCc:Hid (∀W,Below wb1.heap.size wb1 W→Calls Tryz.prog 56 #[.agg #[.int .i64 t.c.c0,.int .i64 t.c.c1,.int .i64 t.c.c2,.int .i64 t.c.c3,.slice B t.c.l.length cb]] W fun e w'=>∃B cb,e= .returned (.agg #[.int .i64 t.c.c0,.int .i64 t.c.c1,.int .i64 t.c.c2,.int .i64 t.c.c3,.slice B t.c.l.length cb])∧Own w' W.heap.size (.slice B t.c.l.length cb) t.c.l∧Below W.heap.size W w'):=fun W hW=>by
  have hb:=hA.out.2.1.trans (hW.mono hA.out.2.1.size)
  have hr:=hH.out.2.1.below hb
  exact f8 t.c B cb W (bw (ag hr.ok).1).2.1 hr.row hr.nr
 have hCl:Hid (∀W,Below wb1.heap.size wb1 W→Calls Tryz.prog 57 #[.slice D t.e.length cd] W fun e w'=>∃C c,e= .returned (.slice C t.e.length c)∧dv w' W.heap.size (.slice C t.e.length c) t.e∧Below W.heap.size W w'):=fun W hW=>by
  have hb:=hA.out.2.1.trans (hW.mono hA.out.2.1.size)
  have hr:=hH.out.2.1.below hb
  have:=(ag hr.ok).2.1
  exact kF t.e D cd W (by omega) hr.cel hr.nc
 have hKc:Hid (∀W,Cls W wd0.heap.size (T6 t B cb D cd)→(fun w'=>w'.cell? ⟨wd0.heap.size,0,none⟩=some (.int .i64 t.c.c0)∧w'.cell? ⟨wd0.heap.size,1,none⟩=some (.int .i64 t.c.c1)∧w'.cell? ⟨wd0.heap.size,2,none⟩=some (.int .i64 t.c.c2)∧w'.cell? ⟨wd0.heap.size,3,none⟩=some (.int .i64 t.c.c3)∧w'.cell? ⟨wd0.heap.size,4,none⟩=some (.slice B t.c.l.length cb)∧w'.cell? ⟨wd0.heap.size,5,none⟩=some (.slice D t.e.length cd)) W):=fun W hW=>⟨hW.cell (j:=0) rfl,hW.cell (j:=1) rfl,hW.cell (j:=2) rfl,hW.cell (j:=3) rfl,hW.cell (j:=4) rfl,hW.cell (j:=5) rfl⟩
 have hne:Hid (wd0.heap.size≠w.heap.size+1):=by have:=hA.out.2.2.2.2.2.1;show _≠_;omega
 refine wp_region_noPanic ?_
 refine wp_region_held_drew (S:=(fun w'=>w'.cell? ⟨wd0.heap.size,0,none⟩=some (.int .i64 t.c.c0)∧w'.cell? ⟨wd0.heap.size,1,none⟩=some (.int .i64 t.c.c1)∧w'.cell? ⟨wd0.heap.size,2,none⟩=some (.int .i64 t.c.c2)∧w'.cell? ⟨wd0.heap.size,3,none⟩=some (.int .i64 t.c.c3)∧w'.cell? ⟨wd0.heap.size,4,none⟩=some (.slice B t.c.l.length cb)∧w'.cell? ⟨wd0.heap.size,5,none⟩=some (.slice D t.e.length cd))) (by kernel_rfl) (hKc.out _ (hA.out.2.2.1.below hD0.out)) (fun hHeld=> ?_)
 refine tks [0,1,2,4,5,8] (by assumption) ?_
 iterate 6 (refine tk (v:= ?_) (by rfl) (by kernel_rfl) ?_ ?_;rotate_left;· (refine oL ⟨by rfl,?_⟩;intro w hSw;(try dsimp only at hSw);go_simp<;>with_reducible rfl);try simp only[Act.put,yA,aC,yS])
 refine tk0 ?_
 refine rdy 3 (by kernel_rfl) (by rfl) fun K hK=> ?_
 go_simp
 (go_at_call 56;(with_reducible refine cM (hCc.out _ hD0.out) ?_);rintro e w2 ⟨EB,ecb,rfl,f1,f2⟩;have hF:Hid (Below wb1.heap.size wb1 w2∧Own w2 wb1.heap.size (.slice EB t.c.l.length ecb) t.c.l):=⟨hD0.out.trans (f2.mono hD0.out.size),f1⟩;clear f1 f2)
 first|(go_wp2_with fail)|skip
 refine hK.out _ _ ?_ (fun hHeld=> ?_)
 ·(try dsimp only);first|with_reducible exact hKc.out _ (hA.out.2.2.1.below hG.out.1)|with_reducible exact hKc.out _ (hA.out.2.2.1.below hF.out.1)|exact hKc.out _ (((((((hA.out.2.2.1.below hG.out.1).oth hne.out _).oth hne.out _).oth hne.out _).oth hne.out _).oth hne.out _).oth hne.out _)
 clear hK K
 try simp only[Act.put,yA,aC,yS]
 refine rdy 6 (by kernel_rfl) (by rfl) fun K hK=> ?_
 go_simp
 (go_at_call 57;(with_reducible refine cM (hCl.out _ hF.out.1) ?_);rintro e w3 ⟨ED,ecd,rfl,f1,f2⟩;have hG:Hid (Below wb1.heap.size wb1 w3∧Own w3 wb1.heap.size (.slice EB t.c.l.length ecb) t.c.l∧dv w3 wb1.heap.size (.slice ED t.e.length ecd) t.e):=⟨hF.out.1.trans (f2.mono hF.out.1.size),hF.out.2.below f2,f1.mono hF.out.1.size⟩;clear f1 f2;have p6:=(hA.out.2.2.2.1.below hG.out.1).cell (j:=6) rfl;have z6:=(hA.out.2.2.2.1.below hG.out.1).fz 6;have p7:=(hA.out.2.2.2.1.below hG.out.1).cell (j:=7) rfl;have z7:=(hA.out.2.2.2.1.below hG.out.1).fz 7;have p8:=(hA.out.2.2.2.1.below hG.out.1).cell (j:=8) rfl;have z8:=(hA.out.2.2.2.1.below hG.out.1).fz 8;have p9:=(hA.out.2.2.2.1.below hG.out.1).cell (j:=9) rfl;have z9:=(hA.out.2.2.2.1.below hG.out.1).fz 9;have p10:=(hA.out.2.2.2.1.below hG.out.1).cell (j:=10) rfl;have z10:=(hA.out.2.2.2.1.below hG.out.1).fz 10;have p11:=(hA.out.2.2.2.1.below hG.out.1).cell (j:=11) rfl;have z11:=(hA.out.2.2.2.1.below hG.out.1).fz 11)
 first|(go_wp2_with fail)|skip
 refine hK.out _ _ ?_ (fun hHeld=> ?_)
 ·(try dsimp only);first|with_reducible exact hKc.out _ (hA.out.2.2.1.below hG.out.1)|with_reducible exact hKc.out _ (hA.out.2.2.1.below hF.out.1)|exact hKc.out _ (((((((hA.out.2.2.1.below hG.out.1).oth hne.out _).oth hne.out _).oth hne.out _).oth hne.out _).oth hne.out _).oth hne.out _)
 clear hK K
 try simp only[Act.put,yA,aC,yS]
 refine tks [7,9] (by assumption) ?_
 iterate 2 (refine tk (v:= ?_) (by rfl) (by kernel_rfl) ?_ ?_;rotate_left;· (refine oL ⟨by rfl,?_⟩;intro w hSw;(try dsimp only at hSw);go_simp<;>with_reducible rfl);try simp only[Act.put,yA,aC,yS])
 refine tk0 ?_
 refine rdy 10 (by kernel_rfl) (by rfl) fun K hK=> ?_
 go_simp
 refine hK.out _ _ ?_ (fun hHeld=> ?_)
 ·(try dsimp only);first|with_reducible exact hKc.out _ (hA.out.2.2.1.below hG.out.1)|with_reducible exact hKc.out _ (hA.out.2.2.1.below hF.out.1)|exact hKc.out _ (((((((hA.out.2.2.1.below hG.out.1).oth hne.out _).oth hne.out _).oth hne.out _).oth hne.out _).oth hne.out _).oth hne.out _)
 clear hK K
 try simp only[Act.put,yA,aC,yS]
 refine wpAnyH_done (by kernel_rfl) ?_ _
 refine NoPanic.normal ?_
 go_wp2_with fail
 obtain ⟨wd1,hwd⟩:∃W,((((((w3.setCell ⟨w.heap.size+1,6,none⟩ (.int .i64 t.c.c0)).setCell ⟨w.heap.size+1,7,none⟩ (.int .i64 t.c.c1)).setCell ⟨w.heap.size+1,8,none⟩ (.int .i64 t.c.c2)).setCell ⟨w.heap.size+1,9,none⟩ (.int .i64 t.c.c3)).setCell ⟨w.heap.size+1,10,none⟩ (.slice EB t.c.l.length ecb)).setCell ⟨w.heap.size+1,11,none⟩ (.slice ED t.e.length ecd))=W:=⟨_,rfl⟩
 rw[hwd]
 have hJ:Hid (Below w.heap.size w wd1∧Cls wd1 (w.heap.size+1) (T2 s EA eca EC ecc t EB ecb ED ecd)∧Cls wd1 w.heap.size Z2∧Own wd1 wb1.heap.size (.slice EB t.c.l.length ecb) t.c.l∧dv wd1 wb1.heap.size (.slice ED t.e.length ecd) t.e∧Own wd1 wb0.heap.size (.slice EA s.c.l.length eca) s.c.l∧dv wd1 wb0.heap.size (.slice EC s.e.length ecc) s.e):=by
  have hs1:=hA.out.2.2.2.2.2.1
  have hs2:=hA.out.2.2.2.2.2.2
  have hb3:=hA.out.2.1.trans (hG.out.1.mono hA.out.2.1.size)
  have hge:w.heap.size≤w.heap.size+1:=by omega
  have hnw:w.heap.size≠w.heap.size+1:=by omega
  refine ⟨?_,?_,?_,?_,?_,?_,?_⟩
  ·rw[←hwd];exact (((((hb3.setCell hge _).setCell hge _).setCell hge _).setCell hge _).setCell hge _).setCell hge _
  ·rw[←hwd];exact ((((((hA.out.2.2.2.1.below hG.out.1).put 6 _).put 7 _).put 8 _).put 9 _).put 10 _).put 11 _
  ·rw[←hwd];exact ((((((hA.out.2.2.2.2.1.below hG.out.1).oth hnw _).oth hnw _).oth hnw _).oth hnw _).oth hnw _).oth hnw _
  ·rw[←hwd];exact cO hG.out.2.1 ((((((aS _ fun h=>by omega).trans (aS _ fun h=>by omega)).trans (aS _ fun h=>by omega)).trans (aS _ fun h=>by omega)).trans (aS _ fun h=>by omega)).trans (aS _ fun h=>by omega))
  ·rw[←hwd];exact cO hG.out.2.2 ((((((aS _ fun h=>by omega).trans (aS _ fun h=>by omega)).trans (aS _ fun h=>by omega)).trans (aS _ fun h=>by omega)).trans (aS _ fun h=>by omega)).trans (aS _ fun h=>by omega))
  ·have hbx:Below wd0.heap.size wd0 w3:=hA.out.1.below.trans (hG.out.1.mono hA.out.1.size)
   have hs00:=hs0H.out
   rw[←hwd];exact cO (hI0.out.1.below hbx) ((((((aS _ fun h=>by omega).trans (aS _ fun h=>by omega)).trans (aS _ fun h=>by omega)).trans (aS _ fun h=>by omega)).trans (aS _ fun h=>by omega)).trans (aS _ fun h=>by omega))
  ·have hbx:Below wd0.heap.size wd0 w3:=hA.out.1.below.trans (hG.out.1.mono hA.out.1.size)
   have hs00:=hs0H.out
   rw[←hwd];exact cO (ai.below hI0.out.2 hbx) ((((((aS _ fun h=>by omega).trans (aS _ fun h=>by omega)).trans (aS _ fun h=>by omega)).trans (aS _ fun h=>by omega)).trans (aS _ fun h=>by omega)).trans (aS _ fun h=>by omega))
 clear hwd hG hF hCc hCl hKc hne hD0 hHeld p6 z6 p7 z7 p8 z8 p9 z9 p10 z10 p11 z11
 rw[rounds_succ]
 obtain ⟨q0,q1,q2,q3,q4,q5,q6,q7,q8,q9,q10,q11⟩:=eS hJ.out.2.1
 obtain ⟨r0,r1,r2,r3,r4,r5,r6,r7,r8,r9,r10,r11⟩:=eS hJ.out.2.2.1
 obtain ⟨z0,z1,z2,z3,z4,z5,z6,z7,z8,z9,z10,z11⟩:=mA hJ.out.2.2.1
 go_wp2
 have hs00:=hs0H.out
 have hs1:=hA.out.2.2.2.2.2.1
 have hs2:=hA.out.2.2.2.2.2.2
 have hAg:∀base,w.heap.size<base→Agr (fun b=>base≤b) wd1 ((((((((((((wd1.setCell ⟨w.heap.size,0,none⟩ (.int .i64 s.c.c0)).setCell ⟨w.heap.size,1,none⟩ (.int .i64 s.c.c1)).setCell ⟨w.heap.size,2,none⟩ (.int .i64 s.c.c2)).setCell ⟨w.heap.size,3,none⟩ (.int .i64 s.c.c3)).setCell ⟨w.heap.size,4,none⟩ (.slice EA s.c.l.length eca)).setCell ⟨w.heap.size,5,none⟩ (.slice EC s.e.length ecc)).setCell ⟨w.heap.size,6,none⟩ (.int .i64 t.c.c0)).setCell ⟨w.heap.size,7,none⟩ (.int .i64 t.c.c1)).setCell ⟨w.heap.size,8,none⟩ (.int .i64 t.c.c2)).setCell ⟨w.heap.size,9,none⟩ (.int .i64 t.c.c3)).setCell ⟨w.heap.size,10,none⟩ (.slice EB t.c.l.length ecb)).setCell ⟨w.heap.size,11,none⟩ (.slice ED t.e.length ecd)):=fun base hbase=>((((((((((((aS _ fun h=>by omega).trans (aS _ fun h=>by omega)).trans (aS _ fun h=>by omega)).trans (aS _ fun h=>by omega)).trans (aS _ fun h=>by omega)).trans (aS _ fun h=>by omega)).trans (aS _ fun h=>by omega)).trans (aS _ fun h=>by omega)).trans (aS _ fun h=>by omega)).trans (aS _ fun h=>by omega)).trans (aS _ fun h=>by omega)).trans (aS _ fun h=>by omega))
 have hl0:w.heap.size≤wb0.heap.size:=by omega
 have hl1:w.heap.size≤wb1.heap.size:=by have:=hA.out.2.1.size;omega
 exact bodyPost_ret (v:= .agg (T2 s EA eca EC ecc t EB ecb ED ecd).toArray) (by simp[results,Tryz.results34,go_sem,r0,r1,r2,r3,r4,r5,r6,r7,r8,r9,r10,r11]) rfl ⟨EA,eca,EC,ecc,EB,ecb,ED,ecd,rfl,⟨Own.mono (cO hJ.out.2.2.2.2.2.1 (hAg _ (by omega))) hl0,ai.mono (cO hJ.out.2.2.2.2.2.2 (hAg _ (by omega))) hl0⟩,⟨Own.mono (cO hJ.out.2.2.2.1 (hAg _ (by omega))) hl1,ai.mono (cO hJ.out.2.2.2.2.1 (hAg _ (by omega))) hl1⟩,((((((((((((hJ.out.1.setCell (nR _) _).setCell (nR _) _).setCell (nR _) _).setCell (nR _) _).setCell (nR _) _).setCell (nR _) _).setCell (nR _) _).setCell (nR _) _).setCell (nR _) _).setCell (nR _) _).setCell (nR _) _).setCell (nR _) _)⟩

theorem vE {w:World} {N O:Nat} {P:Nat→Prop} {id:Int} {s t:Tab} {qs:List (List Stp)} (h:Nd w N O P id s t qs) :
  Calls Tryz.prog 78 #[.pointer (some ⟨N,O,none⟩)] w fun e w'=>∃(EA:Option Addr) (eca:Nat) (EB:Option Addr) (ecb:Nat),e= .returned (.agg #[.int .i64 s.c.c0,.int .i64 s.c.c1,.int .i64 s.c.c2,.int .i64 s.c.c3,.slice EA s.c.l.length eca,.int .i64 t.c.c0,.int .i64 t.c.c1,.int .i64 t.c.c2,.int .i64 t.c.c3,.slice EB t.c.l.length ecb])∧Own w' w.heap.size (.slice EA s.c.l.length eca) s.c.l∧Own w' w.heap.size (.slice EB t.c.l.length ecb) t.c.l∧Below w.heap.size w w':=by
 obtain ⟨A,ca,C,cc,hcs,hts⟩:=h.ts
 obtain ⟨B,cb,D,cd,hct,htt⟩:=h.tt
 have hx0:=oN (.int .i64 s.c.c0) (.int .i64 s.c.c1) (.int .i64 s.c.c2) (.int .i64 s.c.c3) (.slice A s.c.l.length ca) (.slice C s.e.length cc) (.int .i64 t.c.c0) (.int .i64 t.c.c1) (.int .i64 t.c.c2) (.int .i64 t.c.c3) (.slice B t.c.l.length cb) (.slice D t.e.length cd)
 have hx1:=pl (.int .i64 s.c.c0) (.int .i64 s.c.c1) (.int .i64 s.c.c2) (.int .i64 s.c.c3) (.slice A s.c.l.length ca) (.slice C s.e.length cc) (.int .i64 t.c.c0) (.int .i64 t.c.c1) (.int .i64 t.c.c2) (.int .i64 t.c.c3) (.slice B t.c.l.length cb) (.slice D t.e.length cd)
 have n1:=hcs.k0
 have n2:=hcs.k1
 have n3:=hcs.k2
 have n4:=hcs.k3
 have n5:=hcs.k4
 have n6:=hcs.k5
 have n7:=hct.k0
 have n8:=hct.k1
 have n9:=hct.k2
 have n10:=hct.k3
 have n11:=hct.k4
 have n12:=hct.k5
 have hH:Hid (TbP P w s A ca C cc∧TbP P w t B cb D cd∧True):=⟨hts,htt,trivial⟩
 have hltN:N<w.heap.size:=h.blk.lt
 have hltM:N<w.heap.size+1:=by omega
 clear h hts htt hcs hct
 go_enter Tryz.func78,Tryz.ntmps78
 go_wp2
 obtain ⟨w1,hw1⟩:∃W,(w.alloc (.cells #[.int .i64 0,.int .i64 0,.int .i64 0,.int .i64 0,.slice none 0 0,.int .i64 0,.int .i64 0,.int .i64 0,.int .i64 0,.slice none 0 0] 150)).alloc (.cells #[.int .i64 0,.int .i64 0,.int .i64 0,.int .i64 0,.slice none 0 0,.int .i64 0,.int .i64 0,.int .i64 0,.int .i64 0,.slice none 0 0] 150)=W:=⟨_,rfl⟩
 rw[hw1]
 have hI:Hid (Below w.heap.size w w1∧Cls w1 (w.heap.size+1) [.int .i64 0,.int .i64 0,.int .i64 0,.int .i64 0,.slice none 0 0,.int .i64 0,.int .i64 0,.int .i64 0,.int .i64 0,.slice none 0 0]∧Cls w1 w.heap.size [.int .i64 0,.int .i64 0,.int .i64 0,.int .i64 0,.slice none 0 0,.int .i64 0,.int .i64 0,.int .i64 0,.int .i64 0,.slice none 0 0]):=by
  refine ⟨by rw[←hw1];exact (((gR w).alloc _).alloc _).below,?_,by rw[←hw1];exact (Cls.new w _ _).gr ((gR _).alloc _)⟩
  have:=Cls.new (w.alloc (.cells #[.int .i64 0,.int .i64 0,.int .i64 0,.int .i64 0,.slice none 0 0,.int .i64 0,.int .i64 0,.int .i64 0,.int .i64 0,.slice none 0 0] 150)) #[.int .i64 0,.int .i64 0,.int .i64 0,.int .i64 0,.slice none 0 0,.int .i64 0,.int .i64 0,.int .i64 0,.int .i64 0,.slice none 0 0] 150
  rw[hw1,show (w.alloc (.cells #[.int .i64 0,.int .i64 0,.int .i64 0,.int .i64 0,.slice none 0 0,.int .i64 0,.int .i64 0,.int .i64 0,.int .i64 0,.slice none 0 0] 150)).heap.size=w.heap.size+1 by simp] at this
  exact this
 clear hw1 n1 n2 n3 n4 n5 n6 n7 n8 n9 n10 n11 n12
 refine wp_loop_rounds 3 ?_
 rw[rounds_succ]
 go_upto_region 5 with fail
 obtain ⟨wb0,hwb⟩:∃W,w1.alloc (.cells #[.int .i64 s.c.c0,.int .i64 s.c.c1,.int .i64 s.c.c2,.int .i64 s.c.c3,.slice A s.c.l.length ca,.slice C s.e.length cc] 41)=W:=⟨_,rfl⟩
 rw[hwb]
 have hA:Hid (Gr w1 wb0∧Below w.heap.size w wb0∧Cls wb0 w1.heap.size (T6 s A ca C cc)∧Cls wb0 (w.heap.size+1) [.int .i64 0,.int .i64 0,.int .i64 0,.int .i64 0,.slice none 0 0,.int .i64 0,.int .i64 0,.int .i64 0,.int .i64 0,.slice none 0 0]∧Cls wb0 w.heap.size [.int .i64 0,.int .i64 0,.int .i64 0,.int .i64 0,.slice none 0 0,.int .i64 0,.int .i64 0,.int .i64 0,.int .i64 0,.slice none 0 0]∧w.heap.size+1<w1.heap.size∧w1.heap.size<wb0.heap.size):=by
  have hg:Gr w1 wb0:=by rw[←hwb];exact (gR _).alloc _
  exact ⟨hg,hI.out.1.trans (hg.below.mono hI.out.1.size),by rw[←hwb];exact Cls.new w1 _ _,hI.out.2.1.gr hg,hI.out.2.2.gr hg,hI.out.2.1.lt,by rw[←hwb];simp⟩
 clear hwb
 have hC:Hid (Calls Tryz.prog 56 #[.agg #[.int .i64 s.c.c0,.int .i64 s.c.c1,.int .i64 s.c.c2,.int .i64 s.c.c3,.slice A s.c.l.length ca]] wb0 fun e w'=>∃B cb,e= .returned (.agg #[.int .i64 s.c.c0,.int .i64 s.c.c1,.int .i64 s.c.c2,.int .i64 s.c.c3,.slice B s.c.l.length cb])∧Own w' wb0.heap.size (.slice B s.c.l.length cb) s.c.l∧Below wb0.heap.size wb0 w'):=by
  have hr:=hH.out.1.below hA.out.2.1
  exact f8 s.c A ca wb0 (bw (ag hr.ok).1).2.1 hr.row hr.nr
 obtain ⟨a0,a1,a2,a3,a4⟩:=tP hA.out.2.2.1
 go_wp2_with fail
 refine cM (show Calls _ _ _ _ _ from hC.out) ?_
 rintro e w2 ⟨EA,eca,rfl,f1,f2⟩
 have hG:Hid (Below wb0.heap.size wb0 w2∧Own w2 wb0.heap.size (.slice EA s.c.l.length eca) s.c.l):=⟨f2,f1⟩
 clear f1 f2 hC a0 a1 a2 a3 a4
 obtain ⟨p0,p1,p2,p3,p4⟩:=tP (hA.out.2.2.2.1.below hG.out.1)
 obtain ⟨z0,z1,z2,z3,z4⟩:=zO (hA.out.2.2.2.1.below hG.out.1)
 go_wp2
 obtain ⟨wd0,hwd⟩:∃W,(((((w2.setCell ⟨w.heap.size+1,0,none⟩ (.int .i64 s.c.c0)).setCell ⟨w.heap.size+1,1,none⟩ (.int .i64 s.c.c1)).setCell ⟨w.heap.size+1,2,none⟩ (.int .i64 s.c.c2)).setCell ⟨w.heap.size+1,3,none⟩ (.int .i64 s.c.c3)).setCell ⟨w.heap.size+1,4,none⟩ (.slice EA s.c.l.length eca))=W:=⟨_,rfl⟩
 rw[hwd]
 have hJ:Hid (Below w.heap.size w wd0∧Cls wd0 (w.heap.size+1) [.int .i64 s.c.c0,.int .i64 s.c.c1,.int .i64 s.c.c2,.int .i64 s.c.c3,.slice EA s.c.l.length eca,.int .i64 0,.int .i64 0,.int .i64 0,.int .i64 0,.slice none 0 0]∧Cls wd0 w.heap.size [.int .i64 0,.int .i64 0,.int .i64 0,.int .i64 0,.slice none 0 0,.int .i64 0,.int .i64 0,.int .i64 0,.int .i64 0,.slice none 0 0]∧Own wd0 wb0.heap.size (.slice EA s.c.l.length eca) s.c.l):=by
  have hs1:=hA.out.2.2.2.2.2.1
  have hs2:=hA.out.2.2.2.2.2.2
  have hb3:=hA.out.2.1.trans (hG.out.1.mono hA.out.2.1.size)
  have hge:w.heap.size≤w.heap.size+1:=by omega
  have hnw:w.heap.size≠w.heap.size+1:=by omega
  refine ⟨?_,?_,?_,?_⟩
  ·rw[←hwd];exact ((((hb3.setCell hge _).setCell hge _).setCell hge _).setCell hge _).setCell hge _
  ·rw[←hwd];exact (((((hA.out.2.2.2.1.below hG.out.1).put 0 _).put 1 _).put 2 _).put 3 _).put 4 _
  ·rw[←hwd];exact (((((hA.out.2.2.2.2.1.below hG.out.1).oth hnw _).oth hnw _).oth hnw _).oth hnw _).oth hnw _
  ·rw[←hwd];exact cO hG.out.2 (((((aS _ fun h=>by omega).trans (aS _ fun h=>by omega)).trans (aS _ fun h=>by omega)).trans (aS _ fun h=>by omega)).trans (aS _ fun h=>by omega))
 clear hwd hG p0 z0 p1 z1 p2 z2 p3 z3 p4 z4
 have hI0:Hid (Own wd0 wb0.heap.size (.slice EA s.c.l.length eca) s.c.l):=hJ.out.2.2.2
 have hs0H:Hid (w.heap.size+1<wb0.heap.size):=by have h1:=hA.out.2.2.2.2.2.1;have h2:=hA.out.2.2.2.2.2.2;show _<_;omega
 have hI2:Hid (Below w.heap.size w wd0∧Cls wd0 (w.heap.size+1) [.int .i64 s.c.c0,.int .i64 s.c.c1,.int .i64 s.c.c2,.int .i64 s.c.c3,.slice EA s.c.l.length eca,.int .i64 0,.int .i64 0,.int .i64 0,.int .i64 0,.slice none 0 0]∧Cls wd0 w.heap.size [.int .i64 0,.int .i64 0,.int .i64 0,.int .i64 0,.slice none 0 0,.int .i64 0,.int .i64 0,.int .i64 0,.int .i64 0,.slice none 0 0]):=⟨hJ.out.1,hJ.out.2.1,hJ.out.2.2.1⟩
 clear hA hI hJ
 have hI:=hI2
 clear hI2
 rw[rounds_succ]
 go_upto_region 5 with fail
 obtain ⟨wb1,hwb⟩:∃W,wd0.alloc (.cells #[.int .i64 t.c.c0,.int .i64 t.c.c1,.int .i64 t.c.c2,.int .i64 t.c.c3,.slice B t.c.l.length cb,.slice D t.e.length cd] 41)=W:=⟨_,rfl⟩
 rw[hwb]
 have hA:Hid (Gr wd0 wb1∧Below w.heap.size w wb1∧Cls wb1 wd0.heap.size (T6 t B cb D cd)∧Cls wb1 (w.heap.size+1) [.int .i64 s.c.c0,.int .i64 s.c.c1,.int .i64 s.c.c2,.int .i64 s.c.c3,.slice EA s.c.l.length eca,.int .i64 0,.int .i64 0,.int .i64 0,.int .i64 0,.slice none 0 0]∧Cls wb1 w.heap.size [.int .i64 0,.int .i64 0,.int .i64 0,.int .i64 0,.slice none 0 0,.int .i64 0,.int .i64 0,.int .i64 0,.int .i64 0,.slice none 0 0]∧w.heap.size+1<wd0.heap.size∧wd0.heap.size<wb1.heap.size):=by
  have hg:Gr wd0 wb1:=by rw[←hwb];exact (gR _).alloc _
  exact ⟨hg,hI.out.1.trans (hg.below.mono hI.out.1.size),by rw[←hwb];exact Cls.new wd0 _ _,hI.out.2.1.gr hg,hI.out.2.2.gr hg,hI.out.2.1.lt,by rw[←hwb];simp⟩
 clear hwb
 have hC:Hid (Calls Tryz.prog 56 #[.agg #[.int .i64 t.c.c0,.int .i64 t.c.c1,.int .i64 t.c.c2,.int .i64 t.c.c3,.slice B t.c.l.length cb]] wb1 fun e w'=>∃B cb,e= .returned (.agg #[.int .i64 t.c.c0,.int .i64 t.c.c1,.int .i64 t.c.c2,.int .i64 t.c.c3,.slice B t.c.l.length cb])∧Own w' wb1.heap.size (.slice B t.c.l.length cb) t.c.l∧Below wb1.heap.size wb1 w'):=by
  have hr:=hH.out.2.1.below hA.out.2.1
  exact f8 t.c B cb wb1 (bw (ag hr.ok).1).2.1 hr.row hr.nr
 obtain ⟨a0,a1,a2,a3,a4⟩:=tP hA.out.2.2.1
 go_wp2_with fail
 refine cM (show Calls _ _ _ _ _ from hC.out) ?_
 rintro e w2 ⟨EB,ecb,rfl,f1,f2⟩
 have hG:Hid (Below wb1.heap.size wb1 w2∧Own w2 wb1.heap.size (.slice EB t.c.l.length ecb) t.c.l):=⟨f2,f1⟩
 clear f1 f2 hC a0 a1 a2 a3 a4
 obtain ⟨p5,p6,p7,p8,p9⟩:=zK (hA.out.2.2.2.1.below hG.out.1)
 obtain ⟨z5,z6,z7,z8,z9⟩:=zI (hA.out.2.2.2.1.below hG.out.1)
 go_wp2
 obtain ⟨wd1,hwd⟩:∃W,(((((w2.setCell ⟨w.heap.size+1,5,none⟩ (.int .i64 t.c.c0)).setCell ⟨w.heap.size+1,6,none⟩ (.int .i64 t.c.c1)).setCell ⟨w.heap.size+1,7,none⟩ (.int .i64 t.c.c2)).setCell ⟨w.heap.size+1,8,none⟩ (.int .i64 t.c.c3)).setCell ⟨w.heap.size+1,9,none⟩ (.slice EB t.c.l.length ecb))=W:=⟨_,rfl⟩
 rw[hwd]
 have hJ:Hid (Below w.heap.size w wd1∧Cls wd1 (w.heap.size+1) [.int .i64 s.c.c0,.int .i64 s.c.c1,.int .i64 s.c.c2,.int .i64 s.c.c3,.slice EA s.c.l.length eca,.int .i64 t.c.c0,.int .i64 t.c.c1,.int .i64 t.c.c2,.int .i64 t.c.c3,.slice EB t.c.l.length ecb]∧Cls wd1 w.heap.size [.int .i64 0,.int .i64 0,.int .i64 0,.int .i64 0,.slice none 0 0,.int .i64 0,.int .i64 0,.int .i64 0,.int .i64 0,.slice none 0 0]∧Own wd1 wb1.heap.size (.slice EB t.c.l.length ecb) t.c.l∧Own wd1 wb0.heap.size (.slice EA s.c.l.length eca) s.c.l):=by
  have hs1:=hA.out.2.2.2.2.2.1
  have hs2:=hA.out.2.2.2.2.2.2
  have hb3:=hA.out.2.1.trans (hG.out.1.mono hA.out.2.1.size)
  have hge:w.heap.size≤w.heap.size+1:=by omega
  have hnw:w.heap.size≠w.heap.size+1:=by omega
  refine ⟨?_,?_,?_,?_,?_⟩
  ·rw[←hwd];exact ((((hb3.setCell hge _).setCell hge _).setCell hge _).setCell hge _).setCell hge _
  ·rw[←hwd];exact (((((hA.out.2.2.2.1.below hG.out.1).put 5 _).put 6 _).put 7 _).put 8 _).put 9 _
  ·rw[←hwd];exact (((((hA.out.2.2.2.2.1.below hG.out.1).oth hnw _).oth hnw _).oth hnw _).oth hnw _).oth hnw _
  ·rw[←hwd];exact cO hG.out.2 (((((aS _ fun h=>by omega).trans (aS _ fun h=>by omega)).trans (aS _ fun h=>by omega)).trans (aS _ fun h=>by omega)).trans (aS _ fun h=>by omega))
  ·have hbx:Below wd0.heap.size wd0 w2:=hA.out.1.below.trans (hG.out.1.mono hA.out.1.size)
   have hs00:=hs0H.out
   rw[←hwd];exact cO (hI0.out.below hbx) (((((aS _ fun h=>by omega).trans (aS _ fun h=>by omega)).trans (aS _ fun h=>by omega)).trans (aS _ fun h=>by omega)).trans (aS _ fun h=>by omega))
 clear hwd hG p5 z5 p6 z6 p7 z7 p8 z8 p9 z9
 rw[rounds_succ]
 obtain ⟨q0,q1,q2,q3,q4,q5,q6,q7,q8,q9⟩:=kd hJ.out.2.1
 obtain ⟨r0,r1,r2,r3,r4,r5,r6,r7,r8,r9⟩:=kd hJ.out.2.2.1
 obtain ⟨z0,z1,z2,z3,z4,z5,z6,z7,z8,z9⟩:=yD hJ.out.2.2.1
 go_wp2
 have hs00:=hs0H.out
 have hs1:=hA.out.2.2.2.2.2.1
 have hs2:=hA.out.2.2.2.2.2.2
 have hAg:∀base,w.heap.size<base→Agr (fun b=>base≤b) wd1 ((((((((((wd1.setCell ⟨w.heap.size,0,none⟩ (.int .i64 s.c.c0)).setCell ⟨w.heap.size,1,none⟩ (.int .i64 s.c.c1)).setCell ⟨w.heap.size,2,none⟩ (.int .i64 s.c.c2)).setCell ⟨w.heap.size,3,none⟩ (.int .i64 s.c.c3)).setCell ⟨w.heap.size,4,none⟩ (.slice EA s.c.l.length eca)).setCell ⟨w.heap.size,5,none⟩ (.int .i64 t.c.c0)).setCell ⟨w.heap.size,6,none⟩ (.int .i64 t.c.c1)).setCell ⟨w.heap.size,7,none⟩ (.int .i64 t.c.c2)).setCell ⟨w.heap.size,8,none⟩ (.int .i64 t.c.c3)).setCell ⟨w.heap.size,9,none⟩ (.slice EB t.c.l.length ecb)):=fun base hbase=>((((((((((aS _ fun h=>by omega).trans (aS _ fun h=>by omega)).trans (aS _ fun h=>by omega)).trans (aS _ fun h=>by omega)).trans (aS _ fun h=>by omega)).trans (aS _ fun h=>by omega)).trans (aS _ fun h=>by omega)).trans (aS _ fun h=>by omega)).trans (aS _ fun h=>by omega)).trans (aS _ fun h=>by omega))
 have hl0:w.heap.size≤wb0.heap.size:=by omega
 have hl1:w.heap.size≤wb1.heap.size:=by have:=hA.out.2.1.size;omega
 exact bodyPost_ret (v:= .agg #[.int .i64 s.c.c0,.int .i64 s.c.c1,.int .i64 s.c.c2,.int .i64 s.c.c3,.slice EA s.c.l.length eca,.int .i64 t.c.c0,.int .i64 t.c.c1,.int .i64 t.c.c2,.int .i64 t.c.c3,.slice EB t.c.l.length ecb]) (by simp[results,Tryz.results78,go_sem,r0,r1,r2,r3,r4,r5,r6,r7,r8,r9]) rfl ⟨EA,eca,EB,ecb,rfl,Own.mono (cO hJ.out.2.2.2.2 (hAg _ (by omega))) hl0,Own.mono (cO hJ.out.2.2.2.1 (hAg _ (by omega))) hl1,((((((((((hJ.out.1.setCell (nR _) _).setCell (nR _) _).setCell (nR _) _).setCell (nR _) _).setCell (nR _) _).setCell (nR _) _).setCell (nR _) _).setCell (nR _) _).setCell (nR _) _).setCell (nR _) _)⟩
set_option linter.unusedSimpArgs false

def PkW (n:Nat) (w:World) (v:Value) (a b:Tab):Prop:=∃(A:Option Addr) (ca:Nat) (C:Option Addr) (cc:Nat) (B:Option Addr) (cb:Nat) (D:Option Addr) (cd:Nat),v= .agg (T2 a A ca C cc b B cb D cd).toArray∧TbW n w a A ca C cc∧TbW n w b B cb D cd
theorem ff {n k k':Nat} {w:World} {t:Tab} {A:Option Addr} {ca:Nat} {C:Option Addr} {cc:Nat} (h1:Own w n (.slice A k ca) t.c.l) (h2:dv w n (.slice C k' cc) t.e):TbW n w t A ca C cc:=by
 obtain ⟨A',c',e,g1,g2,g3⟩:=h1.row
 injection e with e1 _ e3
 subst e1 e3
 obtain ⟨C',d',e,g4,g5,g6⟩:=ai.row dt h2
 injection e with e1 _ e3
 subst e1 e3
 exact ⟨g2,g5,g1,g4,fun a h=>(g3 a h).1,fun a h=>(g6 a h).1⟩
theorem nY {w:World} {B:Nat} {P:Nat→Prop} {M:NetM} {Q:Nat→List (List Stp)} (h:NetP w B P M Q) (i:Nat) (hi:i<4) (j:Int) :
  Calls Tryz.prog 52 #[.pointer (some ⟨B,0,none⟩),.int .i64 2,.int .i64 i,.int .i64 j] w fun e w'=>∃v,e= .returned (.tuple #[v,.int .i64 0])∧PkW w.heap.size w' v (M.s i) (M.t i)∧Below w.heap.size w w':=by
 obtain ⟨w1,hw1⟩:∃W,w.alloc (.cells #[.int .i64 0,.int .i64 0,.int .i64 0,.int .i64 0,.slice none 0 0,.slice none 0 0,.int .i64 0,.int .i64 0,.int .i64 0,.int .i64 0,.slice none 0 0,.slice none 0 0] 90)=W:=⟨_,rfl⟩
 have hg1:Gr w w1:=by rw[←hw1];exact (gR w).alloc _
 have hC1:Hid (Cls w1 w.heap.size Z2):=by show Cls _ _ _;rw[←hw1];exact Cls.new w _ _
 have hi4:(i:Int)<4:=by omega
 have hWh:Hid (Calls Tryz.prog 34 #[.pointer (some ⟨B,i*38,none⟩)] w1 fun e w'=>∃(EA:Option Addr) (eca:Nat) (EC:Option Addr) (ecc:Nat) (EB:Option Addr) (ecb:Nat) (ED:Option Addr) (ecd:Nat),e= .returned (.agg (T2 (M.s i) EA eca EC ecc (M.t i) EB ecb ED ecd).toArray)∧TbW w1.heap.size w' (M.s i) EA eca EC ecc∧TbW w1.heap.size w' (M.t i) EB ecb ED ecd∧Below w1.heap.size w1 w'):=by
  refine (gO ((h.below hg1.below).nd i hi)).mono ?_
  rintro e w' ⟨EA,eca,EC,ecc,EB,ecb,ED,ecd,rfl,f1,f2,f3⟩
  exact ⟨EA,eca,EC,ecc,EB,ecb,ED,ecd,rfl,ff f1.1 f1.2,ff f2.1 f2.2,f3⟩
 obtain ⟨S,hS⟩:∃S,M.s i=S:=⟨_,rfl⟩
 obtain ⟨T,hT⟩:∃T,M.t i=T:=⟨_,rfl⟩
 rw[hS,hT] at hWh
 rw[hS,hT]
 have hgH:Hid (Gr w w1):=hg1
 clear h hi hg1 hS hT
 go_enter Tryz.func52,Tryz.ntmps52
 go_wp2_with fail
 try rw[hw1]
 clear hw1
 refine cM (show Calls _ _ _ _ _ from hWh.out) ?_
 rintro e w2 ⟨EA,eca,EC,ecc,EB,ecb,ED,ecd,rfl,f1,f2,f3⟩
 have hF:Hid (TbW w1.heap.size w2 S EA eca EC ecc∧TbW w1.heap.size w2 T EB ecb ED ecd∧Below w1.heap.size w1 w2∧Cls w2 w.heap.size Z2):=⟨f1,f2,f3,hC1.out.below f3⟩
 clear f1 f2 f3 hWh
 obtain ⟨p0,p1,p2,p3,p4,p5,p6,p7,p8,p9,p10,p11⟩:=eS hF.out.2.2.2
 obtain ⟨z0,z1,z2,z3,z4,z5,z6,z7,z8,z9,z10,z11⟩:=mA hF.out.2.2.2
 go_wp2
 have hlt:w.heap.size<w1.heap.size:=by have:=hgH.out.size;have:=hC1.out.lt;omega
 have hb:Below w.heap.size w w2:=hgH.out.below.trans (hF.out.2.2.1.mono hgH.out.size)
 have hAg:Agr (fun b=>w1.heap.size≤b) w2 ((((((((((((w2.setCell ⟨w.heap.size,0,none⟩ (.int .i64 S.c.c0)).setCell ⟨w.heap.size,1,none⟩ (.int .i64 S.c.c1)).setCell ⟨w.heap.size,2,none⟩ (.int .i64 S.c.c2)).setCell ⟨w.heap.size,3,none⟩ (.int .i64 S.c.c3)).setCell ⟨w.heap.size,4,none⟩ (.slice EA S.c.l.length eca)).setCell ⟨w.heap.size,5,none⟩ (.slice EC S.e.length ecc)).setCell ⟨w.heap.size,6,none⟩ (.int .i64 T.c.c0)).setCell ⟨w.heap.size,7,none⟩ (.int .i64 T.c.c1)).setCell ⟨w.heap.size,8,none⟩ (.int .i64 T.c.c2)).setCell ⟨w.heap.size,9,none⟩ (.int .i64 T.c.c3)).setCell ⟨w.heap.size,10,none⟩ (.slice EB T.c.l.length ecb)).setCell ⟨w.heap.size,11,none⟩ (.slice ED T.e.length ecd)):=((((((((((((aS _ fun h=>by omega).trans (aS _ fun h=>by omega)).trans (aS _ fun h=>by omega)).trans (aS _ fun h=>by omega)).trans (aS _ fun h=>by omega)).trans (aS _ fun h=>by omega)).trans (aS _ fun h=>by omega)).trans (aS _ fun h=>by omega)).trans (aS _ fun h=>by omega)).trans (aS _ fun h=>by omega)).trans (aS _ fun h=>by omega)).trans (aS _ fun h=>by omega))
 have hfin:Hid (TbW w.heap.size ((((((((((((w2.setCell ⟨w.heap.size,0,none⟩ (.int .i64 S.c.c0)).setCell ⟨w.heap.size,1,none⟩ (.int .i64 S.c.c1)).setCell ⟨w.heap.size,2,none⟩ (.int .i64 S.c.c2)).setCell ⟨w.heap.size,3,none⟩ (.int .i64 S.c.c3)).setCell ⟨w.heap.size,4,none⟩ (.slice EA S.c.l.length eca)).setCell ⟨w.heap.size,5,none⟩ (.slice EC S.e.length ecc)).setCell ⟨w.heap.size,6,none⟩ (.int .i64 T.c.c0)).setCell ⟨w.heap.size,7,none⟩ (.int .i64 T.c.c1)).setCell ⟨w.heap.size,8,none⟩ (.int .i64 T.c.c2)).setCell ⟨w.heap.size,9,none⟩ (.int .i64 T.c.c3)).setCell ⟨w.heap.size,10,none⟩ (.slice EB T.c.l.length ecb)).setCell ⟨w.heap.size,11,none⟩ (.slice ED T.e.length ecd)) S EA eca EC ecc∧TbW w.heap.size ((((((((((((w2.setCell ⟨w.heap.size,0,none⟩ (.int .i64 S.c.c0)).setCell ⟨w.heap.size,1,none⟩ (.int .i64 S.c.c1)).setCell ⟨w.heap.size,2,none⟩ (.int .i64 S.c.c2)).setCell ⟨w.heap.size,3,none⟩ (.int .i64 S.c.c3)).setCell ⟨w.heap.size,4,none⟩ (.slice EA S.c.l.length eca)).setCell ⟨w.heap.size,5,none⟩ (.slice EC S.e.length ecc)).setCell ⟨w.heap.size,6,none⟩ (.int .i64 T.c.c0)).setCell ⟨w.heap.size,7,none⟩ (.int .i64 T.c.c1)).setCell ⟨w.heap.size,8,none⟩ (.int .i64 T.c.c2)).setCell ⟨w.heap.size,9,none⟩ (.int .i64 T.c.c3)).setCell ⟨w.heap.size,10,none⟩ (.slice EB T.c.l.length ecb)).setCell ⟨w.heap.size,11,none⟩ (.slice ED T.e.length ecd)) T EB ecb ED ecd∧Below w.heap.size w ((((((((((((w2.setCell ⟨w.heap.size,0,none⟩ (.int .i64 S.c.c0)).setCell ⟨w.heap.size,1,none⟩ (.int .i64 S.c.c1)).setCell ⟨w.heap.size,2,none⟩ (.int .i64 S.c.c2)).setCell ⟨w.heap.size,3,none⟩ (.int .i64 S.c.c3)).setCell ⟨w.heap.size,4,none⟩ (.slice EA S.c.l.length eca)).setCell ⟨w.heap.size,5,none⟩ (.slice EC S.e.length ecc)).setCell ⟨w.heap.size,6,none⟩ (.int .i64 T.c.c0)).setCell ⟨w.heap.size,7,none⟩ (.int .i64 T.c.c1)).setCell ⟨w.heap.size,8,none⟩ (.int .i64 T.c.c2)).setCell ⟨w.heap.size,9,none⟩ (.int .i64 T.c.c3)).setCell ⟨w.heap.size,10,none⟩ (.slice EB T.c.l.length ecb)).setCell ⟨w.heap.size,11,none⟩ (.slice ED T.e.length ecd))):=⟨(hF.out.1.agr hAg).mono (by omega),(hF.out.2.1.agr hAg).mono (by omega),((((((((((((hb.setCell (nR _) _).setCell (nR _) _).setCell (nR _) _).setCell (nR _) _).setCell (nR _) _).setCell (nR _) _).setCell (nR _) _).setCell (nR _) _).setCell (nR _) _).setCell (nR _) _).setCell (nR _) _).setCell (nR _) _)⟩
 clear hlt hb hAg
 exact bodyPost_ret (v:= .tuple #[.agg (T2 S EA eca EC ecc T EB ecb ED ecd).toArray,.int .i64 0]) (by simp[results,Tryz.results52,go_sem,p0,p1,p2,p3,p4,p5,p6,p7,p8,p9,p10,p11]) rfl ⟨_,rfl,⟨EA,eca,EC,ecc,EB,ecb,ED,ecd,rfl,hfin.out.1,hfin.out.2.1⟩,hfin.out.2.2⟩
theorem rv {t:Tab} (h:aq t=0):t.c.l.length≤maxLen:=by
 have h1:=(bw (ag h).1).2.1
 unfold maxLen
 omega
theorem Own.rows {w:World} {base n c:Nat} {A:Option Addr} {l:List (Int×Int)} (h:Own w base (.slice A n c) l):Row w A l∧(A=none→c=0):=by
 obtain ⟨A',c',e,h1,h2,_⟩:=h.row
 injection e with e1 _ e3
 subst e1 e3
 exact ⟨h2,h1⟩
theorem om {w:World} {B:Nat} {P:Nat→Prop} {M:NetM} {Q:Nat→List (List Stp)} (h:NetP w B P M Q) (i j:Nat) (hi:i<4) (hj:j<4) :
  Calls Tryz.prog 52 #[.pointer (some ⟨B,0,none⟩),.int .i64 3,.int .i64 i,.int .i64 j] w fun e w'=>∃v,e= .returned (.tuple #[v,.int .i64 (ny (M.s i) (M.t i) (M.s j).c (M.t j).c)])∧PkW w.heap.size w' v (snS (M.s i) (M.t i) (M.s j).c (M.t j).c) (snT (M.s i) (M.t i) (M.s j).c (M.t j).c)∧Below w.heap.size w w':=by
 have mixed:Tryz.prog.follows .mixedOrders=true:=by kernel_rfl
 obtain ⟨w1,hw1⟩:∃W,w.alloc (.cells #[.int .i64 0,.int .i64 0,.int .i64 0,.int .i64 0,.slice none 0 0,.slice none 0 0,.int .i64 0,.int .i64 0,.int .i64 0,.int .i64 0,.slice none 0 0,.slice none 0 0] 90)=W:=⟨_,rfl⟩
 have hg1:Gr w w1:=by rw[←hw1];exact (gR w).alloc _
 have hC1:Hid (Cls w1 w.heap.size Z2):=by show Cls _ _ _;rw[←hw1];exact Cls.new w _ _
 have hi4:(i:Int)<4:=by omega
 have hj4:(j:Int)<4:=by omega
 obtain ⟨U,hU⟩:∃S,M.s j=S:=⟨_,rfl⟩
 obtain ⟨V,hV⟩:∃T,M.t j=T:=⟨_,rfl⟩
 obtain ⟨X,hX⟩:∃S,(snS (M.s i) (M.t i) (M.s j).c (M.t j).c)=S:=⟨_,rfl⟩
 obtain ⟨Y,hY⟩:∃S,(snT (M.s i) (M.t i) (M.s j).c (M.t j).c)=S:=⟨_,rfl⟩
 obtain ⟨E,hE⟩:∃E,ny (M.s i) (M.t i) (M.s j).c (M.t j).c=E:=⟨_,rfl⟩
 have hSn:Hid (∀W,Gr w1 W→Calls Tryz.prog 78 #[.pointer (some ⟨B,j*38,none⟩)] W fun e w'=>∃(FA:Option Addr) (fca:Nat) (FB:Option Addr) (fcb:Nat),e= .returned (.agg #[.int .i64 U.c.c0,.int .i64 U.c.c1,.int .i64 U.c.c2,.int .i64 U.c.c3,.slice FA U.c.l.length fca,.int .i64 V.c.c0,.int .i64 V.c.c1,.int .i64 V.c.c2,.int .i64 V.c.c3,.slice FB V.c.l.length fcb])∧Row w' FA U.c.l∧Row w' FB V.c.l∧Below W.heap.size W w'):=fun W hW=>by
  have hs:=vE ((h.below (hg1.trans hW).below).nd j hj)
  rw[hU,hV] at hs
  refine hs.mono ?_
  rintro e w' ⟨EA,eca,EB,ecb,rfl,f1,f2,f3⟩
  exact ⟨EA,eca,EB,ecb,rfl,f1.rows.1,f2.rows.1,f3⟩
 have hSc:Hid (∀W,Below w1.heap.size w1 W→∀FA fca FB fcb,Row W FA U.c.l→Row W FB V.c.l→Calls Tryz.prog 77 #[.pointer (some ⟨B,i*38,none⟩),.agg #[.int .i64 U.c.c0,.int .i64 U.c.c1,.int .i64 U.c.c2,.int .i64 U.c.c3,.slice FA U.c.l.length fca,.int .i64 V.c.c0,.int .i64 V.c.c1,.int .i64 V.c.c2,.int .i64 V.c.c3,.slice FB V.c.l.length fcb]] W fun e w'=>∃(EA:Option Addr) (eca:Nat) (EC:Option Addr) (ecc:Nat) (EB:Option Addr) (ecb:Nat) (ED:Option Addr) (ecd:Nat),e= .returned (.tuple #[.agg (T2 X EA eca EC ecc Y EB ecb ED ecd).toArray,.int .i64 E])∧TbW W.heap.size w' X EA eca EC ecc∧TbW W.heap.size w' Y EB ecb ED ecd∧Below W.heap.size W w'):=fun W hW FA fca FB fcb r1 r2=>by
  have hn:=h.below (hg1.below.trans (hW.mono hg1.size))
  have l1:=(hn.nd j hj).ts.ok
  have l2:=(hn.nd j hj).tt.ok
  rw[hU] at l1
  rw[hV] at l2
  have hs:=wJ (hn.nd i hi) U.c V.c FA FB fca fcb r1 r2 (rv l1) (rv l2)
  rw[←hU,←hV,show fQ (M.s i) (M.t i) (M.s j).c (M.t j).c=E from hE,hX,hY,hU,hV] at hs
  exact hs
 rw[hE,hX,hY]
 have hgH:Hid (Gr w w1):=hg1
 clear h hi hj hg1 hE hX hY hU hV
 go_enter Tryz.func52,Tryz.ntmps52
 go_upto_region 3 with fail
 try rw[hw1]
 clear hw1
 go_cut [8,9] from 10 to 32 (fun v8 v9 wx=>v9= .int .i64 E∧v8= .pointer (some ⟨w.heap.size,0,none⟩)∧∃(EA:Option Addr) (eca:Nat) (EC:Option Addr) (ecc:Nat) (EB:Option Addr) (ecb:Nat) (ED:Option Addr) (ecd:Nat),Hid (Cls wx w.heap.size (T2 X EA eca EC ecc Y EB ecb ED ecd)∧TbW w.heap.size wx X EA eca EC ecc∧TbW w.heap.size wx Y EB ecb ED ecd∧Below w.heap.size w wx))
 case first =>
  go_region_with (first|(go_at_call 78;(with_reducible refine cM (hSn.out _ (gR w1).drew) ?_);rintro e w2 ⟨FA,fca,FB,fcb,rfl,f1,f2,f3⟩;have hF:Hid (Row w2 FA U.c.l∧Row w2 FB V.c.l∧Below w1.heap.size w1 w2):=⟨f1,f2,(gR w1).drew.below.trans f3⟩;clear f1 f2 f3)|(go_at_call 77;(with_reducible refine cM (hSc.out _ hF.out.2.2 FA fca FB fcb hF.out.1 hF.out.2.1) ?_);rintro e w3 ⟨EA,eca,EC,ecc,EB,ecb,ED,ecd,rfl,f1,f2,f3⟩;have hb:Below w1.heap.size w1 w3:=hF.out.2.2.trans (f3.mono hF.out.2.2.size);have hG:Hid (TbW w1.heap.size w3 X EA eca EC ecc∧TbW w1.heap.size w3 Y EB ecb ED ecd∧Below w1.heap.size w1 w3∧Cls w3 w.heap.size Z2):=⟨f1.mono hF.out.2.2.size,f2.mono hF.out.2.2.size,hb,hC1.out.below hb⟩;clear f1 f2 f3 hb;have p0:=hG.out.2.2.2.cell (j:=0) rfl;have z0:=hG.out.2.2.2.fz 0;have p1:=hG.out.2.2.2.cell (j:=1) rfl;have z1:=hG.out.2.2.2.fz 1;have p2:=hG.out.2.2.2.cell (j:=2) rfl;have z2:=hG.out.2.2.2.fz 2;have p3:=hG.out.2.2.2.cell (j:=3) rfl;have z3:=hG.out.2.2.2.fz 3;have p4:=hG.out.2.2.2.cell (j:=4) rfl;have z4:=hG.out.2.2.2.fz 4;have p5:=hG.out.2.2.2.cell (j:=5) rfl;have z5:=hG.out.2.2.2.fz 5;have p6:=hG.out.2.2.2.cell (j:=6) rfl;have z6:=hG.out.2.2.2.fz 6;have p7:=hG.out.2.2.2.cell (j:=7) rfl;have z7:=hG.out.2.2.2.fz 7;have p8:=hG.out.2.2.2.cell (j:=8) rfl;have z8:=hG.out.2.2.2.fz 8;have p9:=hG.out.2.2.2.cell (j:=9) rfl;have z9:=hG.out.2.2.2.fz 9;have p10:=hG.out.2.2.2.cell (j:=10) rfl;have z10:=hG.out.2.2.2.fz 10;have p11:=hG.out.2.2.2.cell (j:=11) rfl;have z11:=hG.out.2.2.2.fz 11))
  all_goals
   have hfin:Hid (Cls ((((((((((((w3.setCell ⟨w.heap.size,0,none⟩ (.int .i64 X.c.c0)).setCell ⟨w.heap.size,1,none⟩ (.int .i64 X.c.c1)).setCell ⟨w.heap.size,2,none⟩ (.int .i64 X.c.c2)).setCell ⟨w.heap.size,3,none⟩ (.int .i64 X.c.c3)).setCell ⟨w.heap.size,4,none⟩ (.slice EA X.c.l.length eca)).setCell ⟨w.heap.size,5,none⟩ (.slice EC X.e.length ecc)).setCell ⟨w.heap.size,6,none⟩ (.int .i64 Y.c.c0)).setCell ⟨w.heap.size,7,none⟩ (.int .i64 Y.c.c1)).setCell ⟨w.heap.size,8,none⟩ (.int .i64 Y.c.c2)).setCell ⟨w.heap.size,9,none⟩ (.int .i64 Y.c.c3)).setCell ⟨w.heap.size,10,none⟩ (.slice EB Y.c.l.length ecb)).setCell ⟨w.heap.size,11,none⟩ (.slice ED Y.e.length ecd)) w.heap.size [.int .i64 X.c.c0,.int .i64 X.c.c1,.int .i64 X.c.c2,.int .i64 X.c.c3,.slice EA X.c.l.length eca,.slice EC X.e.length ecc,.int .i64 Y.c.c0,.int .i64 Y.c.c1,.int .i64 Y.c.c2,.int .i64 Y.c.c3,.slice EB Y.c.l.length ecb,.slice ED Y.e.length ecd]∧TbW w.heap.size ((((((((((((w3.setCell ⟨w.heap.size,0,none⟩ (.int .i64 X.c.c0)).setCell ⟨w.heap.size,1,none⟩ (.int .i64 X.c.c1)).setCell ⟨w.heap.size,2,none⟩ (.int .i64 X.c.c2)).setCell ⟨w.heap.size,3,none⟩ (.int .i64 X.c.c3)).setCell ⟨w.heap.size,4,none⟩ (.slice EA X.c.l.length eca)).setCell ⟨w.heap.size,5,none⟩ (.slice EC X.e.length ecc)).setCell ⟨w.heap.size,6,none⟩ (.int .i64 Y.c.c0)).setCell ⟨w.heap.size,7,none⟩ (.int .i64 Y.c.c1)).setCell ⟨w.heap.size,8,none⟩ (.int .i64 Y.c.c2)).setCell ⟨w.heap.size,9,none⟩ (.int .i64 Y.c.c3)).setCell ⟨w.heap.size,10,none⟩ (.slice EB Y.c.l.length ecb)).setCell ⟨w.heap.size,11,none⟩ (.slice ED Y.e.length ecd)) X EA eca EC ecc∧TbW w.heap.size ((((((((((((w3.setCell ⟨w.heap.size,0,none⟩ (.int .i64 X.c.c0)).setCell ⟨w.heap.size,1,none⟩ (.int .i64 X.c.c1)).setCell ⟨w.heap.size,2,none⟩ (.int .i64 X.c.c2)).setCell ⟨w.heap.size,3,none⟩ (.int .i64 X.c.c3)).setCell ⟨w.heap.size,4,none⟩ (.slice EA X.c.l.length eca)).setCell ⟨w.heap.size,5,none⟩ (.slice EC X.e.length ecc)).setCell ⟨w.heap.size,6,none⟩ (.int .i64 Y.c.c0)).setCell ⟨w.heap.size,7,none⟩ (.int .i64 Y.c.c1)).setCell ⟨w.heap.size,8,none⟩ (.int .i64 Y.c.c2)).setCell ⟨w.heap.size,9,none⟩ (.int .i64 Y.c.c3)).setCell ⟨w.heap.size,10,none⟩ (.slice EB Y.c.l.length ecb)).setCell ⟨w.heap.size,11,none⟩ (.slice ED Y.e.length ecd)) Y EB ecb ED ecd∧Below w.heap.size w ((((((((((((w3.setCell ⟨w.heap.size,0,none⟩ (.int .i64 X.c.c0)).setCell ⟨w.heap.size,1,none⟩ (.int .i64 X.c.c1)).setCell ⟨w.heap.size,2,none⟩ (.int .i64 X.c.c2)).setCell ⟨w.heap.size,3,none⟩ (.int .i64 X.c.c3)).setCell ⟨w.heap.size,4,none⟩ (.slice EA X.c.l.length eca)).setCell ⟨w.heap.size,5,none⟩ (.slice EC X.e.length ecc)).setCell ⟨w.heap.size,6,none⟩ (.int .i64 Y.c.c0)).setCell ⟨w.heap.size,7,none⟩ (.int .i64 Y.c.c1)).setCell ⟨w.heap.size,8,none⟩ (.int .i64 Y.c.c2)).setCell ⟨w.heap.size,9,none⟩ (.int .i64 Y.c.c3)).setCell ⟨w.heap.size,10,none⟩ (.slice EB Y.c.l.length ecb)).setCell ⟨w.heap.size,11,none⟩ (.slice ED Y.e.length ecd))):=by
    have hlt:w.heap.size<w1.heap.size:=hC1.out.lt
    have hb:Below w.heap.size w w3:=hgH.out.below.trans (hG.out.2.2.1.mono hgH.out.size)
    have hAg:Agr (fun b=>w1.heap.size≤b) w3 ((((((((((((w3.setCell ⟨w.heap.size,0,none⟩ (.int .i64 X.c.c0)).setCell ⟨w.heap.size,1,none⟩ (.int .i64 X.c.c1)).setCell ⟨w.heap.size,2,none⟩ (.int .i64 X.c.c2)).setCell ⟨w.heap.size,3,none⟩ (.int .i64 X.c.c3)).setCell ⟨w.heap.size,4,none⟩ (.slice EA X.c.l.length eca)).setCell ⟨w.heap.size,5,none⟩ (.slice EC X.e.length ecc)).setCell ⟨w.heap.size,6,none⟩ (.int .i64 Y.c.c0)).setCell ⟨w.heap.size,7,none⟩ (.int .i64 Y.c.c1)).setCell ⟨w.heap.size,8,none⟩ (.int .i64 Y.c.c2)).setCell ⟨w.heap.size,9,none⟩ (.int .i64 Y.c.c3)).setCell ⟨w.heap.size,10,none⟩ (.slice EB Y.c.l.length ecb)).setCell ⟨w.heap.size,11,none⟩ (.slice ED Y.e.length ecd)):=((((((((((((aS _ fun h=>by omega).trans (aS _ fun h=>by omega)).trans (aS _ fun h=>by omega)).trans (aS _ fun h=>by omega)).trans (aS _ fun h=>by omega)).trans (aS _ fun h=>by omega)).trans (aS _ fun h=>by omega)).trans (aS _ fun h=>by omega)).trans (aS _ fun h=>by omega)).trans (aS _ fun h=>by omega)).trans (aS _ fun h=>by omega)).trans (aS _ fun h=>by omega))
    exact ⟨((((((((((((hG.out.2.2.2.put 0 _).put 1 _).put 2 _).put 3 _).put 4 _).put 5 _).put 6 _).put 7 _).put 8 _).put 9 _).put 10 _).put 11 _),(hG.out.1.agr hAg).mono (by omega),(hG.out.2.1.agr hAg).mono (by omega),((((((((((((hb.setCell (nR _) _).setCell (nR _) _).setCell (nR _) _).setCell (nR _) _).setCell (nR _) _).setCell (nR _) _).setCell (nR _) _).setCell (nR _) _).setCell (nR _) _).setCell (nR _) _).setCell (nR _) _).setCell (nR _) _)⟩
   clear hG
   go_wp2_with fail
   go_meet
   case rel=>exact ⟨rfl,rfl,EA,eca,EC,ecc,EB,ecb,ED,ecd,hfin⟩
 case rest =>
  obtain ⟨rfl,rfl,EA,eca,EC,ecc,EB,ecb,ED,ecd,hR⟩:=hcut
  obtain ⟨q0,q1,q2,q3,q4,q5,q6,q7,q8,q9,q10,q11⟩:=eS hR.out.1
  go_wp2
  exact bodyPost_ret (v:= .tuple #[.agg (T2 X EA eca EC ecc Y EB ecb ED ecd).toArray,.int .i64 E]) (by simp[results,Tryz.results52,go_sem,q0,q1,q2,q3,q4,q5,q6,q7,q8,q9,q10,q11]) rfl ⟨_,rfl,⟨EA,eca,EC,ecc,EB,ecb,ED,ecd,rfl,hR.out.2.1,hR.out.2.2.1⟩,hR.out.2.2.2⟩
theorem infoS:(Tryz.prog.info? 124).map (fun i=>(i.zero,i.size,i.bytes))=some (some (.agg #[.int .i64 0,.int .i64 0,.int .i64 0,.int .i64 0,.int .i64 0,.slice none 0 0,.slice none 0 0,.int .i64 0,.int .i64 0,.int .i64 0,.int .i64 0,.slice none 0 0,.slice none 0 0]),13,168):=by kernel_rfl
theorem vX (w:World) {ops:Array Oper} {o:Oper} {a:Act} {K:Act→World→Prop} {Q:Exit→Act→World→Prop} {E:Prop} (hgd:o.guard=none) (s z:Operand)
  (ho:o.op= .call { callee:= .builtin .append,args:= #[s,z],argTypes:= #[78,78] })
  (A:Option Addr) (L:List Pkm) (p:Pkm) (X:Nat) (cap:Nat) (hs:a.eval s= .slice A L.length L.length) (hz:a.eval z= .slice (some ⟨X,0,none⟩) 1 cap) (hr:ax eY 13 w A L) (hx:ax eY 13 w (some ⟨X,0,none⟩) [p]) (hn:A=none→L=[]) (hl:L.length+1≤200)
  (h:∀X cx w',ai eY 13 124 w' w.heap.size (.slice X (L.length+1) cx) (L++[p])→Below w.heap.size w w'→K (a.put o.dst (.slice X (L.length+1) cx)) w') :
  if Region.wanted o (yielded ops a.tmps)=true then Oper.wp Tryz.prog o a w K Q else E:=by
 have hw:Region.wanted o (yielded ops a.tmps)=true:=by simp[Region.wanted,hgd]
 rw[if_pos hw]
 obtain ⟨i0,hi,hz0,hz1,hz2⟩:=info_parts infoS
 have hlen:L.length+1≤maxLen:=by unfold maxLen;omega
 have hby:(L.length+1)*168≤140737488355328:=by omega
 obtain ⟨v',w',g1,g2,g3⟩:∃v' w',(Builtin.append_ #[78,78] o.type #[.slice A L.length L.length,.slice (some ⟨X,0,none⟩) 1 cap]).run Tryz.prog w= .ok v' w'∧w'.ownsRow w.heap.size 124 13 v' (L.length+1) (aM eY L++aM eY [p])∧w.grownBy w' none:=by
  cases A with
  | none =>
   obtain rfl:=hn rfl
   obtain ⟨v',w',g1,g2,g3,_⟩:=run_append_own (P:=Tryz.prog) w w.heap.size 78 o.type 124 i0 (.agg #[.int .i64 0,.int .i64 0,.int .i64 0,.int .i64 0,.int .i64 0,.slice none 0 0,.slice none 0 0,.int .i64 0,.int .i64 0,.int .i64 0,.int .i64 0,.slice none 0 0,.slice none 0 0]) 13 168 Tryz.underlying78 hi hz0 hz1 hz2 rfl (by omega) (.slice none 0 0) 0 [] (World.ownsRow_nil w _ _ 13) ⟨X,0,none⟩ 1 cap (aM eY [p]) (br dP [p]) (hx.cells dP (by omega)) (fun u hu=>dH tX u [p] hu) hlen hby (nR _)
   exact ⟨v',w',g1,g2,g3⟩
  | some b=>exact run_append_arg_grows (P:=Tryz.prog) w 78 o.type 124 i0 (.agg #[.int .i64 0,.int .i64 0,.int .i64 0,.int .i64 0,.int .i64 0,.slice none 0 0,.slice none 0 0,.int .i64 0,.int .i64 0,.int .i64 0,.int .i64 0,.slice none 0 0,.slice none 0 0]) 13 168 Tryz.underlying78 hi hz0 hz1 hz2 rfl (by omega) b L.length L.length (aM eY L) (br dP L) (hr.cells dP (by omega)) ⟨X,0,none⟩ 1 cap (aM eY [p]) (br dP [p]) (hx.cells dP (by omega)) (by omega) hlen hby
 have h2:ai eY 13 124 w' w.heap.size v' (L++[p]):=by
  show w'.ownsRow _ _ 13 v' (L++[p]).length (aM eY (L++[p]))
  rw[List.length_append,co]
  exact g2
 unfold Oper.wp execOp
 simp only[ho,resolve,invoke,builtin,Sem.run_bind,Sem.run_pure,Result.andThen_ok,List.map_toArray,List.map_cons,List.map_nil,hs,hz,g1]
 obtain ⟨X,cx,e,_⟩:=ai.full dP h2
 rw[show (L++[p]).length=L.length+1 from List.length_append] at e
 subst e
 exact h X cx w' h2 (dF g3)
theorem vF (A:Option Addr) (n c:Nat) (hA:A=none→c=0) (hn:n≤c) (w:World):Calls Tryz.prog 53 #[.slice A n c] w fun e w'=>e= .returned (.slice A n n)∧w'=w:=by
 cases A with
 | none =>
  obtain rfl:=hA rfl
  obtain rfl:n=0:=by omega
  go_enter Tryz.func53,Tryz.ntmps53
  go_wp2
  go_ret
  exact ⟨rfl,rfl⟩
 | some a =>
  go_enter Tryz.func53,Tryz.ntmps53
  go_wp2
  go_ret
  exact ⟨rfl,rfl⟩
theorem we {W:World} {n:Nat} (hn:W.heap.size=n) (p:Pkm) (T:TypeId):ax eY 13 (W.alloc (.cells #[.int .i64 (p.tg:Int),.int .i64 p.a.c.c0,.int .i64 p.a.c.c1,.int .i64 p.a.c.c2,.int .i64 p.a.c.c3,.slice p.A p.a.c.l.length p.ca,.slice p.C p.a.e.length p.cc,.int .i64 p.b.c.c0,.int .i64 p.b.c.c1,.int .i64 p.b.c.c2,.int .i64 p.b.c.c3,.slice p.B p.b.c.l.length p.cb,.slice p.D p.b.e.length p.cd] T)) (some ⟨n,0,none⟩) [p]:=by
 subst hn
 refine oR ⟨W.heap.size,0,rfl,by simp,fun j hj i hi=> ?_⟩
 obtain rfl:j=0:=by simp at hj;omega
 have hC:=Cls.new W #[.int .i64 (p.tg:Int),.int .i64 p.a.c.c0,.int .i64 p.a.c.c1,.int .i64 p.a.c.c2,.int .i64 p.a.c.c3,.slice p.A p.a.c.l.length p.ca,.slice p.C p.a.e.length p.cc,.int .i64 p.b.c.c0,.int .i64 p.b.c.c1,.int .i64 p.b.c.c2,.int .i64 p.b.c.c3,.slice p.B p.b.c.l.length p.cb,.slice p.D p.b.e.length p.cd] T
 obtain ⟨v,hv⟩:∃v,(eY p)[i]? = some v:=⟨_,List.getElem?_eq_getElem (by rw[dP];exact hi)⟩
 rw[show 0+0*13+i=i by omega]
 exact (hC.cell hv).trans hv.symm
def qL (M:NetM) (E:Int) (j:Nat) (a b:Tab):NetM:=if E=0 then ⟨M.s,M.t,M.pk++[(j,a,b)]⟩ else M
theorem pd {w:World} {B:Nat} {P:Nat→Prop} {M:NetM} {Q:Nat→List (List Stp)} (h:NetP w B P M Q) (k:Int) (i j:Nat) (hi:i<4) (hj:j<4) (hl:M.pk.length<200) {a b:Tab} {E:Int} (hab:E=0→aq a=0∧aq b=0)
  (hp:Calls Tryz.prog 52 #[.pointer (some ⟨B,0,none⟩),.int .i64 k,.int .i64 i,.int .i64 j] w fun e w'=>∃v,e= .returned (.tuple #[v,.int .i64 E])∧PkW w.heap.size w' v a b∧Below w.heap.size w w') :
  Calls Tryz.prog 30 #[.pointer (some ⟨B,0,none⟩),.int .i64 k,.int .i64 i,.int .i64 j] w fun e w'=>e= .returned (.int .i64 E)∧bm w B P w' (qL M E j a b) Q:=by
 have mixed:Tryz.prog.follows .mixedOrders=true:=by kernel_rfl
 obtain ⟨L,A,c,hk⟩:=h.pk
 have hL:L.length=M.pk.length:=by rw[←hk.eq,List.length_map]
 have c152:=hk.cel
 have hlz:¬(200:Int)≤(L.length:Int):=by omega
 have hN1:Hid (∀W,Calls Tryz.prog 33 #[.int .i64 i] W fun e w'=>e= .returned (.bool true)∧w'=W):=cJ i hi
 have hN2:Hid (∀W,Calls Tryz.prog 33 #[.int .i64 j] W fun e w'=>e= .returned (.bool true)∧w'=W):=cJ j hj
 have hP:Hid _:=hp
 have hH:Hid (NetP w B P M Q∧Pks w B P M.pk L A c∧(E=0→aq a=0∧aq b=0)∧L.length<200∧j<4):=⟨h,hk,hab,by omega,hj⟩
 have hNl:Hid (A=none→L=[]):=fun e=>by
  have h1:=hk.nil e
  have h2:=hk.cap
  exact List.eq_nil_of_length_eq_zero (by omega)
 have hCl:Hid (∀W,Calls Tryz.prog 53 #[.slice A L.length c] W fun e w'=>e= .returned (.slice A L.length L.length)∧w'=W):=vF A L.length c hk.nil hk.cap
 clear h hk hL hl hi hj hp hab
 go_enter Tryz.func30,Tryz.ntmps30
 go_wp2_with fail
 refine cM (hN1.out _) ?_
 rintro e w1 ⟨rfl,rfl⟩
 go_wp2_with fail
 refine cM (hN2.out _) ?_
 rintro e w0 ⟨rfl,rfl⟩
 go_wp2_with fail
 refine cM (show Calls _ _ _ _ _ from hP.out) ?_
 rintro e w2 ⟨v,rfl,⟨PA,pca,PC,pcc,PB,pcb,PD,pcd,rfl,f1,f2⟩,f3⟩
 have hF:Hid (TbW w0.heap.size w2 a PA pca PC pcc∧TbW w0.heap.size w2 b PB pcb PD pcd∧Below w0.heap.size w0 w2):=⟨f1,f2,f3⟩
 clear f1 f2 f3 hP c152
 by_cases he:E=0
 rotate_left
 ·have heb:(E != 0)=true:=by simpa using he
  have hfin:Hid (bm w0 B P (w2.alloc (.cells #[.int .i64 a.c.c0,.int .i64 a.c.c1,.int .i64 a.c.c2,.int .i64 a.c.c3,.slice PA a.c.l.length pca,.slice PC a.e.length pcc,.int .i64 b.c.c0,.int .i64 b.c.c1,.int .i64 b.c.c2,.int .i64 b.c.c3,.slice PB b.c.l.length pcb,.slice PD b.e.length pcd] 90)) M Q∧E≠0):=⟨bm.same hH.out.1 (hF.out.2.2.alloc hF.out.2.2.size _),he⟩
  clear he
  go_wp2
  go_ret
  refine ⟨rfl,?_⟩
  unfold qL
  rw[if_neg hfin.out.2]
  exact hfin.out.1
 subst he
 obtain ⟨w3,hw3⟩:∃W,w2.alloc (.cells #[.int .i64 a.c.c0,.int .i64 a.c.c1,.int .i64 a.c.c2,.int .i64 a.c.c3,.slice PA a.c.l.length pca,.slice PC a.e.length pcc,.int .i64 b.c.c0,.int .i64 b.c.c1,.int .i64 b.c.c2,.int .i64 b.c.c3,.slice PB b.c.l.length pcb,.slice PD b.e.length pcd] 90)=W:=⟨_,rfl⟩
 have hg3:Gr w2 w3:=by rw[←hw3];exact (gR w2).alloc _
 have hb3:Below w0.heap.size w0 w3:=hF.out.2.2.trans (hg3.below.mono hF.out.2.2.size)
 have hBx:Hid (Cls w3 w2.heap.size (T2 a PA pca PC pcc b PB pcb PD pcd)):=by show Cls _ _ _;rw[←hw3];exact Cls.new w2 _ _
 have hB0:B<w0.heap.size:=hH.out.1.lt
 have hBl:Hid (B<w3.heap.size):=nL hB0 hb3.size
 have hc3:Hid (w3.cell? ⟨B,152,none⟩=some (.slice A L.length c)):=(hb3.cell (p:=⟨B,152,none⟩) hB0).trans hH.out.2.1.cel
 have hFz:Hid (∀W,Below w3.heap.size w3 W→W.frozen? ⟨B,152,none⟩=false):=fun W hW=>((hH.out.1.blk.below hb3).below hW).fz 152
 have h3H:Hid (Gr w2 w3∧Below w0.heap.size w0 w3):=⟨hg3,hb3⟩
 have hAl:Hid (Below w3.heap.size w3 (w3.alloc (.cells #[.int .i64 (j:Int),.int .i64 a.c.c0,.int .i64 a.c.c1,.int .i64 a.c.c2,.int .i64 a.c.c3,.slice PA a.c.l.length pca,.slice PC a.e.length pcc,.int .i64 b.c.c0,.int .i64 b.c.c1,.int .i64 b.c.c2,.int .i64 b.c.c3,.slice PB b.c.l.length pcb,.slice PD b.e.length pcd] 124)).drew):=((gR w3).alloc _).drew.below
 have hRw:Hid (ax eY 13 (w3.alloc (.cells #[.int .i64 (j:Int),.int .i64 a.c.c0,.int .i64 a.c.c1,.int .i64 a.c.c2,.int .i64 a.c.c3,.slice PA a.c.l.length pca,.slice PC a.e.length pcc,.int .i64 b.c.c0,.int .i64 b.c.c1,.int .i64 b.c.c2,.int .i64 b.c.c3,.slice PB b.c.l.length pcb,.slice PD b.e.length pcd] 124)).drew A L):=(hH.out.2.1.row.below hb3).below hAl.out
 have hRx:Hid (ax eY 13 (w3.alloc (.cells #[.int .i64 (j:Int),.int .i64 a.c.c0,.int .i64 a.c.c1,.int .i64 a.c.c2,.int .i64 a.c.c3,.slice PA a.c.l.length pca,.slice PC a.e.length pcc,.int .i64 b.c.c0,.int .i64 b.c.c1,.int .i64 b.c.c2,.int .i64 b.c.c3,.slice PB b.c.l.length pcb,.slice PD b.e.length pcd] 124)).drew (some ⟨w3.heap.size,0,none⟩) [⟨j,a,PA,pca,PC,pcc,b,PB,pcb,PD,pcd⟩]):=(we (W:=w3) rfl ⟨j,a,PA,pca,PC,pcc,b,PB,pcb,PD,pcd⟩ 124).gr (gR _).drew
 have hLn:Hid (L.length+1≤200):=hH.out.2.2.2.1
 clear hg3 hb3 hB0
 go_upto_region 8 with fail
 try rw[hw3]
 clear hw3
 go_cut [8] from 9 to 49 (fun v8 wx=>∃X cx w5,wx=w5.setCell ⟨B,152,none⟩ (.slice X (L.length+1) cx)∧Hid (ai eY 13 124 w5 (w3.alloc (.cells #[.int .i64 (j:Int),.int .i64 a.c.c0,.int .i64 a.c.c1,.int .i64 a.c.c2,.int .i64 a.c.c3,.slice PA a.c.l.length pca,.slice PC a.e.length pcc,.int .i64 b.c.c0,.int .i64 b.c.c1,.int .i64 b.c.c2,.int .i64 b.c.c3,.slice PB b.c.l.length pcb,.slice PD b.e.length pcd] 124)).drew.heap.size (.slice X (L.length+1) cx) (L++[⟨j,a,PA,pca,PC,pcc,b,PB,pcb,PD,pcd⟩])∧Below w3.heap.size w3 w5))
 case first =>
  have hD0:Hid (Below w3.heap.size w3 w3.drew):=(gR w3).drew.below
  have hD1:Hid (Below w3.heap.size w3 (w3.alloc (.cells #[.int .i64 (j:Int),.int .i64 a.c.c0,.int .i64 a.c.c1,.int .i64 a.c.c2,.int .i64 a.c.c3,.slice PA a.c.l.length pca,.slice PC a.e.length pcc,.int .i64 b.c.c0,.int .i64 b.c.c1,.int .i64 b.c.c2,.int .i64 b.c.c3,.slice PB b.c.l.length pcb,.slice PD b.e.length pcd] 124)).drew):=hAl.out
  have cA:w3.drew.cell? ⟨B,152,none⟩=some (.slice A L.length c):=(hD0.out.cell (p:=⟨B,152,none⟩) hBl.out).trans hc3.out
  have cB:(w3.alloc (.cells #[.int .i64 (j:Int),.int .i64 a.c.c0,.int .i64 a.c.c1,.int .i64 a.c.c2,.int .i64 a.c.c3,.slice PA a.c.l.length pca,.slice PC a.e.length pcc,.int .i64 b.c.c0,.int .i64 b.c.c1,.int .i64 b.c.c2,.int .i64 b.c.c3,.slice PB b.c.l.length pcb,.slice PD b.e.length pcd] 124)).drew.cell? ⟨B,152,none⟩=some (.slice A L.length c):=(hD1.out.cell (p:=⟨B,152,none⟩) hBl.out).trans hc3.out
  have hBne:Hid (w2.heap.size≠B):=fun e=>by have h1:=hH.out.1.lt;have h2:=hF.out.2.2.size;omega
  have hKeep:Hid (∀W,Cls W w2.heap.size (T2 a PA pca PC pcc b PB pcb PD pcd)→(fun w'=>w'.cell? ⟨w2.heap.size,0,none⟩=some (.int .i64 a.c.c0)∧w'.cell? ⟨w2.heap.size,1,none⟩=some (.int .i64 a.c.c1)∧w'.cell? ⟨w2.heap.size,2,none⟩=some (.int .i64 a.c.c2)∧w'.cell? ⟨w2.heap.size,3,none⟩=some (.int .i64 a.c.c3)∧w'.cell? ⟨w2.heap.size,4,none⟩=some (.slice PA a.c.l.length pca)∧w'.cell? ⟨w2.heap.size,5,none⟩=some (.slice PC a.e.length pcc)∧w'.cell? ⟨w2.heap.size,6,none⟩=some (.int .i64 b.c.c0)∧w'.cell? ⟨w2.heap.size,7,none⟩=some (.int .i64 b.c.c1)∧w'.cell? ⟨w2.heap.size,8,none⟩=some (.int .i64 b.c.c2)∧w'.cell? ⟨w2.heap.size,9,none⟩=some (.int .i64 b.c.c3)∧w'.cell? ⟨w2.heap.size,10,none⟩=some (.slice PB b.c.l.length pcb)∧w'.cell? ⟨w2.heap.size,11,none⟩=some (.slice PD b.e.length pcd)) W):=fun W hW=>⟨hW.cell (j:=0) rfl,hW.cell (j:=1) rfl,hW.cell (j:=2) rfl,hW.cell (j:=3) rfl,hW.cell (j:=4) rfl,hW.cell (j:=5) rfl,hW.cell (j:=6) rfl,hW.cell (j:=7) rfl,hW.cell (j:=8) rfl,hW.cell (j:=9) rfl,hW.cell (j:=10) rfl,hW.cell (j:=11) rfl⟩
  refine wp_region_noPanic ?_
  refine wp_region_held_drew (S:=(fun w'=>w'.cell? ⟨w2.heap.size,0,none⟩=some (.int .i64 a.c.c0)∧w'.cell? ⟨w2.heap.size,1,none⟩=some (.int .i64 a.c.c1)∧w'.cell? ⟨w2.heap.size,2,none⟩=some (.int .i64 a.c.c2)∧w'.cell? ⟨w2.heap.size,3,none⟩=some (.int .i64 a.c.c3)∧w'.cell? ⟨w2.heap.size,4,none⟩=some (.slice PA a.c.l.length pca)∧w'.cell? ⟨w2.heap.size,5,none⟩=some (.slice PC a.e.length pcc)∧w'.cell? ⟨w2.heap.size,6,none⟩=some (.int .i64 b.c.c0)∧w'.cell? ⟨w2.heap.size,7,none⟩=some (.int .i64 b.c.c1)∧w'.cell? ⟨w2.heap.size,8,none⟩=some (.int .i64 b.c.c2)∧w'.cell? ⟨w2.heap.size,9,none⟩=some (.int .i64 b.c.c3)∧w'.cell? ⟨w2.heap.size,10,none⟩=some (.slice PB b.c.l.length pcb)∧w'.cell? ⟨w2.heap.size,11,none⟩=some (.slice PD b.e.length pcd))) (by kernel_rfl) (hKeep.out _ (hBx.out.below hD0.out)) (fun hHeld=> ?_)
  show wpAnyH _ _ _ _ _ 14 _ _ _
  repeat' first
   | with_reducible exact AllReadyH.nil
   | (
    (with_reducible refine isW ?_);refine wpAnyH_done (by decide +kernel) ?_ _
    refine NoPanic.normal ?_
    go_wp2_with fail
    go_meet
    case rel=>exact ⟨X,cx,w5,rfl,hG⟩)
   | (
    (with_reducible refine isW ?_);first
    | refine tkk 0 [1,2,3,6,7,8] (by assumption) (v:= ?_) (by simp only[zA,z0',zS];rfl) (by decide +kernel) ?_ ?_
    | refine tkk 11 [12] (by assumption) (v:= ?_) (by simp only[zA,z0',zS];rfl) (by decide +kernel) ?_ ?_
    rotate_left
    ·(refine oL ⟨by rfl,?_⟩;intro w hSw;(try dsimp only at hSw);go_simp<;>with_reducible rfl)
    try simp only[Act.put,yA,aC,yS]
    repeat (refine tk (v:= ?_) (by simp only[zA,z0',zS];rfl) (by kernel_rfl) ?_ ?_;rotate_left;· (refine oL ⟨by rfl,?_⟩;intro w hSw;(try dsimp only at hSw);go_simp<;>with_reducible rfl);try simp only[Act.put,yA,aC,yS])
    refine tk0 ?_)
   | ((with_reducible refine isW ?_);first
     | refine wpAnyH_ready (rs:=[4,9]) (by decide +kernel) (by simp) ?_
     | refine wpAnyH_ready (rs:=[5,9]) (by decide +kernel) (by simp) ?_
     | refine wpAnyH_ready (rs:=[9]) (by decide +kernel) (by simp) ?_
     | refine wpAnyH_ready (rs:=[10]) (by decide +kernel) (by simp) ?_
     | refine wpAnyH_ready (rs:=[13]) (by decide +kernel) (by simp) ?_
     | refine wpAnyH_ready (rs:=[5]) (by decide +kernel) (by simp) ?_
     | refine wpAnyH_ready (rs:=[4]) (by decide +kernel) (by simp) ?_)
   | (
    (with_reducible refine isR ?_);refine rdc (i:=10) (by simp only[zA,z0',zS];rfl) ?_ fun K hK=> ?_
    rotate_left
    (refine vX _ rfl (.tmp 41) (.tmp 45) rfl A L ⟨j,a,PA,pca,PC,pcc,b,PB,pcb,PD,pcd⟩ w3.heap.size 1 rfl rfl hRw.out hRx.out hNl.out hLn.out ?_;intro X cx w5 g1 g2;have hG:Hid (ai eY 13 124 w5 (w3.alloc (.cells #[.int .i64 (j:Int),.int .i64 a.c.c0,.int .i64 a.c.c1,.int .i64 a.c.c2,.int .i64 a.c.c3,.slice PA a.c.l.length pca,.slice PC a.e.length pcc,.int .i64 b.c.c0,.int .i64 b.c.c1,.int .i64 b.c.c2,.int .i64 b.c.c3,.slice PB b.c.l.length pcb,.slice PD b.e.length pcd] 124)).drew.heap.size (.slice X (L.length+1) cx) (L++[⟨j,a,PA,pca,PC,pcc,b,PB,pcb,PD,pcd⟩])∧Below w3.heap.size w3 w5):=⟨g1,hAl.out.trans (g2.mono hAl.out.size)⟩;clear g1 g2;have e152:=(hG.out.2.cell (p:=⟨B,152,none⟩) hBl.out).trans hc3.out;have z152:=hFz.out w5 hG.out.2)
    refine hK.out _ _ ?_ (fun hHeld=> ?_)
    ·(try dsimp only);exact hKeep.out _ (by first|with_reducible exact hBx.out.below hD0.out|with_reducible exact hBx.out.below hD1.out|with_reducible exact hBx.out.below hG.out.2|exact (hBx.out.below hG.out.2).oth hBne.out _)
    clear hK K
    try simp only[Act.put,yA,aC,yS])
   | ((with_reducible refine isR ?_);refine rdc (by simp only[zA,z0',zS];rfl) ?_ fun K hK=> ?_)
   | (
    go_simp
    first
    | ((go_at_call 53;(with_reducible refine cM (hCl.out _) ?_);rintro e w4 ⟨rfl,rfl⟩);first|(go_wp2_with fail)|skip)
    | skip
    refine hK.out _ _ ?_ (fun hHeld=> ?_)
    ·(try dsimp only);exact hKeep.out _ (by first|with_reducible exact hBx.out.below hD0.out|with_reducible exact hBx.out.below hD1.out|with_reducible exact hBx.out.below hG.out.2|exact (hBx.out.below hG.out.2).oth hBne.out _)
    clear hK K
    try simp only[Act.put,yA,aC,yS])
 case rest =>
  obtain ⟨X,cx,w5,rfl,hG⟩:=hcut
  have hfin:Hid (bm w0 B P (w5.setCell ⟨B,152,none⟩ (.slice X (L.length+1) cx)) ⟨M.s,M.t,M.pk++[(j,a,b)]⟩ Q):=by
   obtain ⟨X',cx',e',g1,g2,g3,g4,_⟩:=ai.full dP hG.out.1
   injection e' with e1 _ e3
   subst e1 e3
   have hn:=hH.out.1.below (h3H.out.2.trans (hG.out.2.mono h3H.out.2.size))
   have hb5:Below w0.heap.size w0 w5:=h3H.out.2.trans (hG.out.2.mono h3H.out.2.size)
   have hb25:Below w2.heap.size w2 w5:=h3H.out.1.below.trans (hG.out.2.mono h3H.out.1.size)
   have hW:Wr B 152 153 w5 (w5.setCell ⟨B,152,none⟩ (.slice X (L.length+1) cx)):=Wr.set _ _ (nR _) (by omega)
   obtain ⟨u,hu⟩:=hn.blk.some (j:=152) (by omega)
   have hsz:(w5.setCell ⟨B,152,none⟩ (.slice X (L.length+1) cx)).heap.size=w5.heap.size:=by simp
   have hB0:B<w0.heap.size:=hH.out.1.lt
   have hs3:=h3H.out.2.size
   have hs2:=hF.out.2.2.size
   have hP':¬ae P w0.heap.size w5.heap.size B:=cP hH.out.1.out hB0
   have hA':Agr (ae P w0.heap.size w5.heap.size) w5 (w5.setCell ⟨B,152,none⟩ (.slice X (L.length+1) cx)):=hW.agr hP'
   have hbx:w3.heap.size≤(w3.alloc (.cells #[.int .i64 (j:Int),.int .i64 a.c.c0,.int .i64 a.c.c1,.int .i64 a.c.c2,.int .i64 a.c.c3,.slice PA a.c.l.length pca,.slice PC a.e.length pcc,.int .i64 b.c.c0,.int .i64 b.c.c1,.int .i64 b.c.c2,.int .i64 b.c.c3,.slice PB b.c.l.length pcb,.slice PD b.e.length pcd] 124)).drew.heap.size:=hAl.out.size
   have h6:∀x,X=some x→w0.heap.size≤x.block:=fun x hx=>by have:=(g4 x hx).1;omega
   have hab:=hH.out.2.2.1 (by first|rfl|trivial)
   refine ⟨⟨ae P w0.heap.size w5.heap.size,hn.sent ae.old hP' (fun b hb=> ?_) hW hH.out.2.1.eq hH.out.2.2.2.1 (by rw[List.length_append];exact World.cell?_setCell_same _ _ _ hu) (g2.agr (fun a ha _=>oR ⟨h6 a ha,(g4 a ha).2.1⟩) hA') (fun a ha _=>oR ⟨h6 a ha,(g4 a ha).2.1⟩) g1 g3 (fun q hq=> ?_),fun b hb=>hb.imp id fun h=>h.1⟩,(Wr.of hb5 hB0).trans (hW.mono (by omega) (by omega))⟩
   ·rw[hsz]
    rcases hb with hb|hb
    ·have:=hH.out.1.up b hb;have:=hb5.size;omega
    ·exact hb.2
   ·rcases List.mem_append.1 hq with hq|hq
    ·have hh:=hH.out.2.1.each q hq
     exact ⟨hh.1,(((hh.2.1.below hb5).mono ae.old).agr hA'),(((hh.2.2.below hb5).mono ae.old).agr hA')⟩
    ·rw[List.mem_singleton.1 hq]
     exact ⟨hH.out.2.2.2.2,(((hF.out.1.below hb25).p hab.1).mono fun b hb=>oR hb).agr hA',(((hF.out.2.1.below hb25).p hab.2).mono fun b hb=>oR hb).agr hA'⟩
  clear hG
  go_wp2
  go_ret
  refine ⟨rfl,?_⟩
  unfold qL
  rw[if_pos rfl]
  exact hfin.out

theorem vL {w:World} {B:Nat} {P:Nat→Prop} {M:NetM} {Q:Nat→List (List Stp)} (h:NetP w B P M Q) (n:Int) (hn:n<0∨(M.pk.length:Int)≤n) :
  Calls Tryz.prog 31 #[.pointer (some ⟨B,0,none⟩),.int .i64 n] w fun e w'=>e= .returned (.int .i64 4)∧w'=w:=by
 obtain ⟨L,A,c,hp⟩:=h.pk
 have hc:=hp.cel
 have hl:L.length=M.pk.length:=by rw[←hp.eq,List.length_map]
 rw[←hl] at hn
 clear h hp hl
 by_cases h0:n<0
 ·go_enter Tryz.func31,Tryz.ntmps31
  go_wp2
  go_ret
  exact ⟨rfl,rfl⟩
 ·have h1:(L.length:Int)≤n:=by omega
  clear hn
  go_enter Tryz.func31,Tryz.ntmps31
  go_wp2
  go_ret
  exact ⟨rfl,rfl⟩
theorem se {w:World} {B:Nat} {P:Nat→Prop} {M:NetM} {Q:Nat→List (List Stp)} (h:NetP w B P M Q) (n:Nat) {q:Nat×Tab×Tab} (hn:M.pk[n]? = some q) :
  Calls Tryz.prog 31 #[.pointer (some ⟨B,0,none⟩),.int .i64 n] w fun e w'=>e= .returned (.int .i64 (gw (M.s q.1) (M.t q.1) q.2.1 q.2.2))∧bm w B P w' (gi M q.1 q.2.1 q.2.2) Q:=by
 have mixed:Tryz.prog.follows .mixedOrders=true:=by kernel_rfl
 obtain ⟨L,A,c,hp⟩:=h.pk
 have hc:=hp.cel
 obtain ⟨p,hp1,hp2⟩:∃p,L[n]? = some p∧p.m=q:=by
  rw[←hp.eq,List.getElem?_map] at hn
  cases e:L[n]? with
  | none=>rw[e] at hn;cases hn
  | some p=>rw[e] at hn;exact ⟨p,rfl,by simpa using hn⟩
 subst hp2
 obtain ⟨hnl,hpe⟩:=List.getElem?_eq_some_iff.1 hp1
 obtain ⟨hto,hta,htb⟩:=hp.each p (List.mem_of_getElem? hp1)
 obtain ⟨bb,off,hA,hbb,hcl⟩:=hp.row.at hnl
 subst hA
 have hcl:=hcl n hnl
 rw[hpe] at hcl
 have c0:=hcl 0 (by omega)
 have c1:=hcl 1 (by omega)
 have c2:=hcl 2 (by omega)
 have c3:=hcl 3 (by omega)
 have c4:=hcl 4 (by omega)
 have c5:=hcl 5 (by omega)
 have c6:=hcl 6 (by omega)
 have c7:=hcl 7 (by omega)
 have c8:=hcl 8 (by omega)
 have c9:=hcl 9 (by omega)
 have c10:=hcl 10 (by omega)
 have c11:=hcl 11 (by omega)
 have c12:=hcl 12 (by omega)
 simp only[eY,z0',zS,Nat.add_zero] at c0 c1 c2 c3 c4 c5 c6 c7 c8 c9 c10 c11 c12
 have h0:¬(n:Int)<0:=by omega
 have h1:¬(L.length:Int)≤(n:Int):=by omega
 have hto4:(p.tg:Int)<4:=by omega
 obtain ⟨w1,hw1⟩:∃W,w.alloc (.cells #[.int .i64 (p.tg:Int),.int .i64 p.a.c.c0,.int .i64 p.a.c.c1,.int .i64 p.a.c.c2,.int .i64 p.a.c.c3,.slice p.A p.a.c.l.length p.ca,.slice p.C p.a.e.length p.cc,.int .i64 p.b.c.c0,.int .i64 p.b.c.c1,.int .i64 p.b.c.c2,.int .i64 p.b.c.c3,.slice p.B p.b.c.l.length p.cb,.slice p.D p.b.e.length p.cd] 124)=W:=⟨_,rfl⟩
 have hg1:Gr w w1:=by rw[←hw1];exact (gR w).alloc _
 have hBx:Hid (Cls w1 w.heap.size [.int .i64 (p.tg:Int),.int .i64 p.a.c.c0,.int .i64 p.a.c.c1,.int .i64 p.a.c.c2,.int .i64 p.a.c.c3,.slice p.A p.a.c.l.length p.ca,.slice p.C p.a.e.length p.cc,.int .i64 p.b.c.c0,.int .i64 p.b.c.c1,.int .i64 p.b.c.c2,.int .i64 p.b.c.c3,.slice p.B p.b.c.l.length p.cb,.slice p.D p.b.e.length p.cd]):=by show Cls _ _ _;rw[←hw1];exact Cls.new w _ _
 obtain ⟨E,hE⟩:∃E,gw (M.s p.m.1) (M.t p.m.1) p.m.2.1 p.m.2.2=E:=⟨_,rfl⟩
 have hD:Hid (∀W,Gr w1 W→Calls Tryz.prog 54 #[.pointer (some ⟨B,p.tg*38,none⟩),.agg (T2 p.a p.A p.ca p.C p.cc p.b p.B p.cb p.D p.cd).toArray] W fun e w'=>e= .returned (.int .i64 E)∧bm w B P w' (gi M p.m.1 p.m.2.1 p.m.2.2) Q):=fun W hW=>by
  have hgW:=hg1.trans hW
  have hn:=h.below hgW.below
  have ha:=hta.below hgW.below
  have hb:=htb.below hgW.below
  have hd:=oj (hn.nd p.tg hto) p.a p.b p.A p.B p.C p.D p.ca p.cb p.cc p.cd ha.row ha.cel hb.row hb.cel ha.len.1 ha.len.2 hb.len.1 hb.len.2 ha.nr hb.nr
  rw[show tkE (M.s p.tg) (M.t p.tg) p.a p.b=E from hE] at hd
  refine hd.mono ?_
  rintro e w' ⟨rfl,f1,f2⟩
  refine ⟨rfl,bm.ahead hgW.below h.lt ?_⟩
  have hc:=hn.call hto f1 f2 (by omega)
  rw[jA] at hc
  exact hc
 rw[hE]
 clear h hg1 hE hp hn hp1 hnl hpe hto hta htb hbb hcl
 go_enter Tryz.func31,Tryz.ntmps31
 go_upto_region 4 with fail
 try rw[hw1]
 clear hw1 hc c0 c1 c2 c3 c4 c5 c6 c7 c8 c9 c10 c11 c12
 obtain ⟨b0,b1,b2,b3,b4,b5,b6,b7,b8,b9,b10,b11,b12⟩:=yX hBx.out
 go_region_with (go_at_call 54;refine cM (hD.out _ (gR _).drew) ?_;rintro e w3 ⟨rfl,f1⟩;have hF:Hid _:=f1;clear f1)
 all_goals
  go_wp2
  go_ret
  exact ⟨rfl,hF.out⟩
end Go.Proofs.YtckeonpnfankhaaGreatDoor
