import Derived.Test.YtjmmpnmgpgaagaaGreatDoorM24
import Derived.Shelf.Slices.Clone
set_option maxRecDepth 100000
set_option maxHeartbeats 8000000
open Go renaming World → K, Addr → T, Calls → M
open Go.Ending renaming returned → U
open Go.IntKind renaming i64 → I
open Go.Obj renaming cells → H
open Go.Proofs.Tryz renaming prog → X
open Go.RowKit renaming Below → Z, Hid → Y
open Go.Value renaming int → V, slice → J, agg → Q, tuple → y, pointer → x
namespace Go.Proofs.YtjmmpnmgpgaagaaGreatDoor
open Go.RowKit Go.Sort
set_option linter.unusedSimpArgs false

def im (s t:Tab) (c d:Ctx):Int:=if bE s c=0 then bE t d else bE s c
def snS (s t:Tab) (c d:Ctx):Tab:=if im s t c d=0 then bU s c else ⟨⟨0,0,0,0,[]⟩,[]⟩
def snT (s t:Tab) (c d:Ctx):Tab:=if im s t c d=0 then bU t d else ⟨⟨0,0,0,0,[]⟩,[]⟩
theorem TbW.zero (n:Nat) (w:K):TbW n w ⟨⟨0,0,0,0,[]⟩,[]⟩ none 0 none 0:=⟨oL rfl,oL rfl,fun _=>rfl,fun _=>rfl,(fun a h=>by cases h),(fun a h=>by cases h)⟩
theorem DU (a b c d e f g h i j:Value) (w:K):(Instr.index 206 (Q #[a,b,c,d,e,f,g,h,i,j]) (V I 0)).run X w= .ok (Q #[a,b,c,d,e]) w:=by kernel_rfl
theorem DV (a b c d e f g h i j:Value) (w:K):(Instr.index 206 (Q #[a,b,c,d,e,f,g,h,i,j]) (V I 1)).run X w= .ok (Q #[f,g,h,i,j]) w:=by kernel_rfl
theorem Ce {w:K} {N O:Nat} {P:Nat->Prop} {id:Int} {s t:Tab} {qs:List (List Stp)} (h:Nd w N O P id s t qs) (c d:Ctx) (PA PB:Option T) (ah an:Nat) (ra:Row w PA c.l) (rb:Row w PB d.l) (la:c.l.length<=maxLen) (lb:d.l.length<=maxLen) :
  M X 132 #[x (some ⟨N,O,none⟩),Q #[V I c.c0,V I c.c1,V I c.c2,V I c.c3,J PA c.l.length ah,V I d.c0,V I d.c1,V I d.c2,V I d.c3,J PB d.l.length an]] w fun e w'=>∃(EA:Option T) (cj:Nat) (EC:Option T) (cl:Nat) (EB:Option T) (ck:Nat) (ED:Option T) (cm:Nat),e= U (y #[Q (T2 (snS s t c d) EA cj EC cl (snT s t c d) EB ck ED cm).toArray,V I (im s t c d)])/\TbW w.heap.size w' (snS s t c d) EA cj EC cl/\TbW w.heap.size w' (snT s t c d) EB ck ED cm/\Z w.heap.size w w':=by
 have ds:Tryz.prog.follows .mixedOrders=true:=by kernel_rfl
 have en:=DU (V I c.c0) (V I c.c1) (V I c.c2) (V I c.c3) (J PA c.l.length ah) (V I d.c0) (V I d.c1) (V I d.c2) (V I d.c3) (J PB d.l.length an)
 have ep:=DV (V I c.c0) (V I c.c1) (V I c.c2) (V I c.c3) (J PA c.l.length ah) (V I d.c0) (V I d.c1) (V I d.c2) (V I d.c3) (J PB d.l.length an)
 obtain ⟨A,ca,C,cc,cp,cu⟩:=h.ts
 obtain ⟨B,cb,D,cd,cr,cv⟩:=h.tt
 have b3:=ja4 ra rb la lb
 have hH:=ja5 h cu cv cp cr
 clear h cu cv cp cr ra rb la lb
 go_enter Tryz.func132,Tryz.ntmps132
 go_wp2
 obtain ⟨w1,b0⟩:∃W,((w.alloc (H #[V I c.c0,V I c.c1,V I c.c2,V I c.c3,J PA c.l.length ah,V I d.c0,V I d.c1,V I d.c2,V I d.c3,J PB d.l.length an] 206)).alloc (H #[V I 0,V I 0,V I 0,V I 0,J none 0 0,J none 0 0,V I 0,V I 0,V I 0,V I 0,J none 0 0,J none 0 0] 144)).alloc (H #[V I 0,V I 0,V I 0,V I 0,J none 0 0,J none 0 0,V I 0,V I 0,V I 0,V I 0,J none 0 0,J none 0 0] 144)=W:=⟨_,rfl⟩
 rw[b0]
 have hI:Y (Z w.heap.size w w1/\Cls w1 (w.heap.size+1+1) Z2/\Cls w1 (w.heap.size+1) Z2):=by
  refine ⟨by rw[<-b0];exact ((((gR w).alloc _).alloc _).alloc _).below,?_,?_⟩
  ·have:=Cls.new ((w.alloc (H #[V I c.c0,V I c.c1,V I c.c2,V I c.c3,J PA c.l.length ah,V I d.c0,V I d.c1,V I d.c2,V I d.c3,J PB d.l.length an] 206)).alloc (H #[V I 0,V I 0,V I 0,V I 0,J none 0 0,J none 0 0,V I 0,V I 0,V I 0,V I 0,J none 0 0,J none 0 0] 144)) #[V I 0,V I 0,V I 0,V I 0,J none 0 0,J none 0 0,V I 0,V I 0,V I 0,V I 0,J none 0 0,J none 0 0] 144
   rw[b0,show ((w.alloc (H #[V I c.c0,V I c.c1,V I c.c2,V I c.c3,J PA c.l.length ah,V I d.c0,V I d.c1,V I d.c2,V I d.c3,J PB d.l.length an] 206)).alloc (H #[V I 0,V I 0,V I 0,V I 0,J none 0 0,J none 0 0,V I 0,V I 0,V I 0,V I 0,J none 0 0,J none 0 0] 144)).heap.size=w.heap.size+1+1 by simp] at this
   exact this
  ·have:=Cls.new (w.alloc (H #[V I c.c0,V I c.c1,V I c.c2,V I c.c3,J PA c.l.length ah,V I d.c0,V I d.c1,V I d.c2,V I d.c3,J PB d.l.length an] 206)) #[V I 0,V I 0,V I 0,V I 0,J none 0 0,J none 0 0,V I 0,V I 0,V I 0,V I 0,J none 0 0,J none 0 0] 144
   rw[show (w.alloc (H #[V I c.c0,V I c.c1,V I c.c2,V I c.c3,J PA c.l.length ah,V I d.c0,V I d.c1,V I d.c2,V I d.c3,J PB d.l.length an] 206)).heap.size=w.heap.size+1 by simp] at this
   rw[<-b0]
   exact this.gr ((gR _).alloc _)
 clear b0
 have b6:=ja1 hI.out.2.1.lt
 refine wp_loop_rounds 3 ?_
 rw[rounds_succ]
 go_upto_region 5 with fail
 obtain ⟨g,a6⟩:∃W,w1.alloc (H (ja7 c PA ah) 53)=W:=⟨_,rfl⟩
 rw[a6]
 have r:Y (Gr w1 g/\Z w.heap.size w g/\Cls g w1.heap.size [V I c.c0,V I c.c1,V I c.c2,V I c.c3,J PA c.l.length ah]/\Cls g (w.heap.size+1+1) Z2/\Cls g (w.heap.size+1) Z2/\N<g.heap.size/\TbC g N (O+1) s A ca C cc/\TbC g N (O+7) t B cb D cd):=by
  have hg:Gr w1 g:=by rw[<-a6];exact (gR _).alloc _
  have hb:=hI.out.1.trans (hg.below.mono hI.out.1.size)
  have bd:=hH.out.1.blk.lt
  exact ⟨hg,hb,by rw[<-a6];exact Cls.new w1 _ _,hI.out.2.1.gr hg,hI.out.2.2.gr hg,nL bd hb.size,hH.out.2.2.2.1.keep fun j _ _=>hb.cell (p:=⟨N,j,none⟩) bd,hH.out.2.2.2.2.keep fun j _ _=>hb.cell (p:=⟨N,j,none⟩) bd⟩
 clear a6
 obtain ⟨a2,ba⟩:∃E,bE s c=E:=⟨_,rfl⟩
 obtain ⟨f,bb⟩:∃E,bU s c=E:=⟨_,rfl⟩
 have a9:=ja2 ba bb
 have hM:Y (∀W,Z g.heap.size g W->M X 168 #[Q (T6 s A ca C cc).toArray,Q (ja7 c PA ah)] W fun e w'=>∃E ce F cf,e= U (y #[Q (T6 f E ce F cf).toArray,V I a2])/\TbW W.heap.size w' f E ce F cf/\Z W.heap.size W w'):=fun W hW=>by
  have hb:=r.out.2.1.trans (hW.mono r.out.2.1.size)
  have a5:=hH.out.2.1.below hb
  have hm:=qg s c A PA C ca ah cc W a5.len.1 b3.out.2.2.1 a5.len.2 a5.row (b3.out.1.below hb) a5.cel
  rw[ba,bb] at hm
  refine hm.mono ?_
  rintro e w' ⟨E,ce,F,cf,rfl,f1,f2,f3,f4,f5,f6,f7⟩
  exact ⟨E,ce,F,cf,rfl,⟨f1,f2,f3,f4,f6,f7⟩,f5⟩
 clear ba bb
 go_cut [9,10,12] from 12 to 35 (fun v9 v10 v12 wx=>v10= V I a2/\v12= V I 0/\∃Bm:Nat,v9= x (some ⟨Bm,0,none⟩)/\TbR g wx Bm f)
 case first =>
  have a0:=ja1 ((gR g).drew.below)
  have a4:Y (Z g.heap.size g (g.alloc (H #[V I 0,V I 0,V I 0,V I 0,J none 0 0,J none 0 0] 56)).drew):=((gR g).alloc _).drew.below
  have bC:Y (g.heap.size<=g.drew.heap.size):=nR _
  have bG:Y (g.heap.size+1<=(g.alloc (H #[V I 0,V I 0,V I 0,V I 0,J none 0 0,J none 0 0] 56)).drew.heap.size):=by show _<=(g.alloc _).heap.size;simp
  have a1:Y (∀W,Z g.heap.size g W->(fun w'=>w'.cell? ⟨w1.heap.size,0,none⟩=some (V I c.c0)/\w'.cell? ⟨w1.heap.size,1,none⟩=some (V I c.c1)/\w'.cell? ⟨w1.heap.size,2,none⟩=some (V I c.c2)/\w'.cell? ⟨w1.heap.size,3,none⟩=some (V I c.c3)/\w'.cell? ⟨w1.heap.size,4,none⟩=some (J PA c.l.length ah)/\w'.cell? ⟨N,O+1,none⟩=some (V I s.c.c0)/\w'.cell? ⟨N,O+2,none⟩=some (V I s.c.c1)/\w'.cell? ⟨N,O+3,none⟩=some (V I s.c.c2)/\w'.cell? ⟨N,O+4,none⟩=some (V I s.c.c3)/\w'.cell? ⟨N,O+5,none⟩=some (J A s.c.l.length ca)/\w'.cell? ⟨N,O+6,none⟩=some (J C s.e.length cc)) W):=fun W hW=>⟨(r.out.2.2.1.below hW).cell (j:=0) rfl,(r.out.2.2.1.below hW).cell (j:=1) rfl,(r.out.2.2.1.below hW).cell (j:=2) rfl,(r.out.2.2.1.below hW).cell (j:=3) rfl,(r.out.2.2.1.below hW).cell (j:=4) rfl,(hW.cell (p:=⟨N,O+1,none⟩) r.out.2.2.2.2.2.1).trans r.out.2.2.2.2.2.2.1.k0,(hW.cell (p:=⟨N,O+2,none⟩) r.out.2.2.2.2.2.1).trans r.out.2.2.2.2.2.2.1.k1,(hW.cell (p:=⟨N,O+3,none⟩) r.out.2.2.2.2.2.1).trans r.out.2.2.2.2.2.2.1.k2,(hW.cell (p:=⟨N,O+4,none⟩) r.out.2.2.2.2.2.1).trans r.out.2.2.2.2.2.2.1.k3,(hW.cell (p:=⟨N,O+5,none⟩) r.out.2.2.2.2.2.1).trans r.out.2.2.2.2.2.2.1.k4,(hW.cell (p:=⟨N,O+6,none⟩) r.out.2.2.2.2.2.1).trans r.out.2.2.2.2.2.2.1.k5⟩
  refine wp_region_noPanic ?_
  refine wp_region_held_drew (S:=(fun w'=>w'.cell? ⟨w1.heap.size,0,none⟩=some (V I c.c0)/\w'.cell? ⟨w1.heap.size,1,none⟩=some (V I c.c1)/\w'.cell? ⟨w1.heap.size,2,none⟩=some (V I c.c2)/\w'.cell? ⟨w1.heap.size,3,none⟩=some (V I c.c3)/\w'.cell? ⟨w1.heap.size,4,none⟩=some (J PA c.l.length ah)/\w'.cell? ⟨N,O+1,none⟩=some (V I s.c.c0)/\w'.cell? ⟨N,O+2,none⟩=some (V I s.c.c1)/\w'.cell? ⟨N,O+3,none⟩=some (V I s.c.c2)/\w'.cell? ⟨N,O+4,none⟩=some (V I s.c.c3)/\w'.cell? ⟨N,O+5,none⟩=some (J A s.c.l.length ca)/\w'.cell? ⟨N,O+6,none⟩=some (J C s.e.length cc))) (by kernel_rfl) (a1.out _ a0.out) (fun hHeld=> ?_)
  show wpAnyH _ _ _ _ _ 14 _ _ _
  repeat' first
   | with_reducible exact AllReadyH.nil
   | (
    (with_reducible refine isW ?_);refine wpAnyH_done (by decide +kernel) ?_ _
    refine NoPanic.normal ?_
    go_wp2_with fail
    go_meet
    case rel=>exact ⟨rfl,rfl,_,rfl,(by first|with_reducible exact mB (bs.out.mono bC.out) hF.out|with_reducible exact kU n.out (bs.out.mono bG.out) hF.out)⟩)
   | (
    (with_reducible refine isW ?_);first
     | refine tkk 0 [1,2,3,4,5,6] (by assumption) (v:= ?_) (by simp only[zA,z0',zS];rfl) (by decide +kernel) ?_ ?_
     | refine tkk 8 [9,10] (by assumption) (v:= ?_) (by simp only[zA,z0',zS];rfl) (by decide +kernel) ?_ ?_
     | refine tkk 13 [] (by assumption) (v:= ?_) (by simp only[zA,z0',zS];rfl) (by decide +kernel) ?_ ?_
    rotate_left
    ·(refine oL ⟨by rfl,?_⟩;intro w bc;(try dsimp only at bc);go_simp<;>with_reducible rfl)
    try simp only[Act.put,yA,aB,yS]
    repeat (refine tk (v:= ?_) (by simp only[zA,z0',zS];rfl) (by kernel_rfl) ?_ ?_;rotate_left;· (refine oL ⟨by rfl,?_⟩;intro w bc;(try dsimp only at bc);go_simp<;>with_reducible rfl);try simp only[Act.put,yA,aB,yS])
    refine tk0 ?_)
   | ((with_reducible refine isW ?_);first
     | refine wpAnyH_ready (rs:=[7,11]) (by decide +kernel) (by simp) ?_
     | refine wpAnyH_ready (rs:=[11]) (by decide +kernel) (by simp) ?_
     | refine wpAnyH_ready (rs:=[12]) (by decide +kernel) (by simp) ?_
     | refine wpAnyH_ready (rs:=[7]) (by decide +kernel) (by simp) ?_)
   | ((with_reducible refine isR ?_);refine rdc (by simp only[zA,z0',zS];rfl) ?_ fun ev hK=> ?_)
   | (
    go_simp
    first
     | ((go_at_call 168;(with_reducible refine cM (hM.out _ (by first|with_reducible exact a0.out|with_reducible exact a4.out)) ?_);rintro e w2 ⟨E,ce,F,cf,rfl,f2,f3⟩;have hF:Y (Z g.heap.size g w2):=(by first|exact a0.out.trans (f3.mono a0.out.size)|exact a4.out.trans (f3.mono a4.out.size));have bs:Y _:=f2;(first|(have n:Y (Cls w2 g.heap.size Z6):=((Cls.new g #[V I 0,V I 0,V I 0,V I 0,J none 0 0,J none 0 0] 56).gr (gR _).drew).below f3)|skip);clear f2 f3;(first|(have p0:=n.out.cell (j:=0) rfl;have z0:=n.out.fz 0;have p1:=n.out.cell (j:=1) rfl;have z1:=n.out.fz 1;have p2:=n.out.cell (j:=2) rfl;have z2:=n.out.fz 2;have p3:=n.out.cell (j:=3) rfl;have z3:=n.out.fz 3;have p4:=n.out.cell (j:=4) rfl;have z4:=n.out.fz 4;have p5:=n.out.cell (j:=5) rfl;have z5:=n.out.fz 5)|skip));first|(go_wp2_with fail)|skip)
     | skip
    refine hK.out _ _ ?_ (fun hHeld=> ?_)
    ·(try dsimp only);exact a1.out _ (by first|with_reducible exact a0.out|with_reducible exact a4.out|with_reducible exact hF.out|with_reducible exact hF.out.alloc hF.out.size _|exact ak hF.out (nR _) _ _ _ _ _ _)
    clear hK ev
    try simp only[Act.put,yA,aB,yS])
 rename K=>d0
 obtain ⟨rfl,rfl,Bm,rfl,b8⟩:=hcut
 obtain ⟨MA,a7,MC,a8,g1,g2,g3,g4⟩:=b8
 have hN:=ja6 g1 g2 (r.out.2.1.trans (g3.mono r.out.2.1.size)) (r.out.2.2.2.1.below g3) (r.out.2.2.2.2.1.below g3) g4
 have bN:=ja1 r.out.2.2.1.lt
 have bt:=ja1 g3
 clear g1 g2 g3 g4 hM
 cases hn:(a2 != 0)
 rotate_left
 focus
  have u:Y (im s t c d=a2/\¬im s t c d=0):=by
   have h0:¬a2=0:=by simpa using hn
   have h1:im s t c d=a2:=by unfold im;rw[if_neg (by rw[a9.out.1];exact h0)];exact a9.out.1
   exact ⟨h1,by rw[h1];exact h0⟩
  obtain ⟨r0,r1,r2,r3,r4,r5,r6,r7,r8,r9,b1,b2⟩:=iv hN.out.2.2.2.2.1
  obtain ⟨y0,y1,y2,y3,y4,y5,y6,y7,y8,y9,cB,c6⟩:=rN hN.out.2.2.2.2.1
  go_wp2
  exact bodyPost_ret (v:= y #[Q #[V I 0,V I 0,V I 0,V I 0,J none 0 0,J none 0 0,V I 0,V I 0,V I 0,V I 0,J none 0 0,J none 0 0],V I a2]) (by simp[results,Tryz.results132,go_sem,r0,r1,r2,r3,r4,r5,r6,r7,r8,r9,b1,b2]) rfl ⟨none,0,none,0,none,0,none,0,by rw[u.out.1];unfold snS snT;rw[if_neg u.out.2,if_neg u.out.2];rfl,by unfold snS;rw[if_neg u.out.2];exact TbW.zero _ _,by unfold snT;rw[if_neg u.out.2];exact TbW.zero _ _,((((((((((((hN.out.2.2.1.setCell (Nat.le_succ _) _).setCell (Nat.le_succ _) _).setCell (Nat.le_succ _) _).setCell (Nat.le_succ _) _).setCell (Nat.le_succ _) _).setCell (Nat.le_succ _) _).setCell (Nat.le_succ _) _).setCell (Nat.le_succ _) _).setCell (Nat.le_succ _) _).setCell (Nat.le_succ _) _).setCell (Nat.le_succ _) _).setCell (Nat.le_succ _) _)⟩
 have h0:a2=0:=by simpa using hn
 have bo:=ja1 h0
 clear hn h0
 have b7:(a2 != 0)=false:=by rw[bo.out];rfl
 obtain ⟨c0,c1,c2,c3,c4,c5⟩:=iJ hN.out.1
 obtain ⟨p0,p1,p2,p3,p4,p5⟩:=iJ hN.out.2.2.2.1
 obtain ⟨z0,z1,z2,z3,z4,z5⟩:=rO hN.out.2.2.2.1
 go_wp2
 obtain ⟨L,ad⟩:∃W,((((((d0.setCell ⟨w.heap.size+1+1,0,none⟩ (V I f.c.c0)).setCell ⟨w.heap.size+1+1,1,none⟩ (V I f.c.c1)).setCell ⟨w.heap.size+1+1,2,none⟩ (V I f.c.c2)).setCell ⟨w.heap.size+1+1,3,none⟩ (V I f.c.c3)).setCell ⟨w.heap.size+1+1,4,none⟩ (J MA f.c.l.length a7)).setCell ⟨w.heap.size+1+1,5,none⟩ (J MC f.e.length a8))=W:=⟨_,rfl⟩
 rw[ad]
 have hJ:Y (TbW g.heap.size L f MA a7 MC a8/\Z w.heap.size w L/\Cls L (w.heap.size+1+1) [V I f.c.c0,V I f.c.c1,V I f.c.c2,V I f.c.c3,J MA f.c.l.length a7,J MC f.e.length a8,V I 0,V I 0,V I 0,V I 0,J none 0 0,J none 0 0]/\Cls L (w.heap.size+1) Z2):=by
  have dp:=bN.out
  have dl:=hI.out.1.size
  have dk:=hI.out.2.1.lt
  have ap:w.heap.size+1≠w.heap.size+1+1:=by omega
  refine ⟨?_,?_,?_,?_⟩
  ·rw[<-ad];exact hN.out.2.1.agr ((((((aS _ fun h=>by omega).trans (aS _ fun h=>by omega)).trans (aS _ fun h=>by omega)).trans (aS _ fun h=>by omega)).trans (aS _ fun h=>by omega)).trans (aS _ fun h=>by omega))
  ·have ao:w.heap.size<=w.heap.size+1+1:=by omega
   rw[<-ad];exact (((((hN.out.2.2.1.setCell ao _).setCell ao _).setCell ao _).setCell ao _).setCell ao _).setCell ao _
  ·rw[<-ad];exact (((((hN.out.2.2.2.1.put 0 _).put 1 _).put 2 _).put 3 _).put 4 _).put 5 _
  ·rw[<-ad];exact (((((hN.out.2.2.2.2.1.oth ap _).oth ap _).oth ap _).oth ap _).oth ap _).oth ap _
 clear ad b7 c0 c1 c2 c3 c4 c5 p0 z0 p1 z1 p2 z2 p3 z3 p4 z4 p5 z5
 have c7:=ja1 hJ.out.1
 have b9:=ja1 r.out.2.1.size
 clear r hN hI bt
 have hI:=ja3 hJ.out.2.1 hJ.out.2.2.1 hJ.out.2.2.2
 clear hJ
 rw[rounds_succ]
 go_upto_region 5 with fail
 obtain ⟨k,a6⟩:∃W,L.alloc (H (ja7 d PB an) 53)=W:=⟨_,rfl⟩
 rw[a6]
 have r:Y (Gr L k/\Z w.heap.size w k/\Cls k L.heap.size [V I d.c0,V I d.c1,V I d.c2,V I d.c3,J PB d.l.length an]/\Cls k (w.heap.size+1+1) [V I f.c.c0,V I f.c.c1,V I f.c.c2,V I f.c.c3,J MA f.c.l.length a7,J MC f.e.length a8,V I 0,V I 0,V I 0,V I 0,J none 0 0,J none 0 0]/\Cls k (w.heap.size+1) Z2/\N<k.heap.size/\TbC k N (O+1) s A ca C cc/\TbC k N (O+7) t B cb D cd):=by
  have hg:Gr L k:=by rw[<-a6];exact (gR _).alloc _
  have hb:=hI.out.1.trans (hg.below.mono hI.out.1.size)
  have bd:=hH.out.1.blk.lt
  exact ⟨hg,hb,by rw[<-a6];exact Cls.new L _ _,hI.out.2.1.gr hg,hI.out.2.2.gr hg,nL bd hb.size,hH.out.2.2.2.1.keep fun j _ _=>hb.cell (p:=⟨N,j,none⟩) bd,hH.out.2.2.2.2.keep fun j _ _=>hb.cell (p:=⟨N,j,none⟩) bd⟩
 clear a6
 obtain ⟨a3,ba⟩:∃E,bE t d=E:=⟨_,rfl⟩
 obtain ⟨R,bb⟩:∃E,bU t d=E:=⟨_,rfl⟩
 have bp:=ja2 ba bb
 have hM:Y (∀W,Z k.heap.size k W->M X 168 #[Q (T6 t B cb D cd).toArray,Q (ja7 d PB an)] W fun e w'=>∃E ce F cf,e= U (y #[Q (T6 R E ce F cf).toArray,V I a3])/\TbW W.heap.size w' R E ce F cf/\Z W.heap.size W w'):=fun W hW=>by
  have hb:=r.out.2.1.trans (hW.mono r.out.2.1.size)
  have a5:=hH.out.2.2.1.below hb
  have hm:=qg t d B PB D cb an cd W a5.len.1 b3.out.2.2.2 a5.len.2 a5.row (b3.out.2.1.below hb) a5.cel
  rw[ba,bb] at hm
  refine hm.mono ?_
  rintro e w' ⟨E,ce,F,cf,rfl,f1,f2,f3,f4,f5,f6,f7⟩
  exact ⟨E,ce,F,cf,rfl,⟨f1,f2,f3,f4,f6,f7⟩,f5⟩
 clear ba bb
 go_cut [9,10,12] from 12 to 35 (fun v9 v10 v12 wx=>v10= V I a3/\v12= V I 1/\∃Bm:Nat,v9= x (some ⟨Bm,0,none⟩)/\TbR k wx Bm R)
 case first =>
  have a0:=ja1 ((gR k).drew.below)
  have a4:Y (Z k.heap.size k (k.alloc (H #[V I 0,V I 0,V I 0,V I 0,J none 0 0,J none 0 0] 56)).drew):=((gR k).alloc _).drew.below
  have bC:Y (k.heap.size<=k.drew.heap.size):=nR _
  have bG:Y (k.heap.size+1<=(k.alloc (H #[V I 0,V I 0,V I 0,V I 0,J none 0 0,J none 0 0] 56)).drew.heap.size):=by show _<=(k.alloc _).heap.size;simp
  have a1:Y (∀W,Z k.heap.size k W->(fun w'=>w'.cell? ⟨L.heap.size,0,none⟩=some (V I d.c0)/\w'.cell? ⟨L.heap.size,1,none⟩=some (V I d.c1)/\w'.cell? ⟨L.heap.size,2,none⟩=some (V I d.c2)/\w'.cell? ⟨L.heap.size,3,none⟩=some (V I d.c3)/\w'.cell? ⟨L.heap.size,4,none⟩=some (J PB d.l.length an)/\w'.cell? ⟨N,O+7,none⟩=some (V I t.c.c0)/\w'.cell? ⟨N,O+8,none⟩=some (V I t.c.c1)/\w'.cell? ⟨N,O+9,none⟩=some (V I t.c.c2)/\w'.cell? ⟨N,O+10,none⟩=some (V I t.c.c3)/\w'.cell? ⟨N,O+11,none⟩=some (J B t.c.l.length cb)/\w'.cell? ⟨N,O+12,none⟩=some (J D t.e.length cd)) W):=fun W hW=>⟨(r.out.2.2.1.below hW).cell (j:=0) rfl,(r.out.2.2.1.below hW).cell (j:=1) rfl,(r.out.2.2.1.below hW).cell (j:=2) rfl,(r.out.2.2.1.below hW).cell (j:=3) rfl,(r.out.2.2.1.below hW).cell (j:=4) rfl,(hW.cell (p:=⟨N,O+7,none⟩) r.out.2.2.2.2.2.1).trans r.out.2.2.2.2.2.2.2.k0,(hW.cell (p:=⟨N,O+8,none⟩) r.out.2.2.2.2.2.1).trans r.out.2.2.2.2.2.2.2.k1,(hW.cell (p:=⟨N,O+9,none⟩) r.out.2.2.2.2.2.1).trans r.out.2.2.2.2.2.2.2.k2,(hW.cell (p:=⟨N,O+10,none⟩) r.out.2.2.2.2.2.1).trans r.out.2.2.2.2.2.2.2.k3,(hW.cell (p:=⟨N,O+11,none⟩) r.out.2.2.2.2.2.1).trans r.out.2.2.2.2.2.2.2.k4,(hW.cell (p:=⟨N,O+12,none⟩) r.out.2.2.2.2.2.1).trans r.out.2.2.2.2.2.2.2.k5⟩
  refine wp_region_noPanic ?_
  refine wp_region_held_drew (S:=(fun w'=>w'.cell? ⟨L.heap.size,0,none⟩=some (V I d.c0)/\w'.cell? ⟨L.heap.size,1,none⟩=some (V I d.c1)/\w'.cell? ⟨L.heap.size,2,none⟩=some (V I d.c2)/\w'.cell? ⟨L.heap.size,3,none⟩=some (V I d.c3)/\w'.cell? ⟨L.heap.size,4,none⟩=some (J PB d.l.length an)/\w'.cell? ⟨N,O+7,none⟩=some (V I t.c.c0)/\w'.cell? ⟨N,O+8,none⟩=some (V I t.c.c1)/\w'.cell? ⟨N,O+9,none⟩=some (V I t.c.c2)/\w'.cell? ⟨N,O+10,none⟩=some (V I t.c.c3)/\w'.cell? ⟨N,O+11,none⟩=some (J B t.c.l.length cb)/\w'.cell? ⟨N,O+12,none⟩=some (J D t.e.length cd))) (by kernel_rfl) (a1.out _ a0.out) (fun hHeld=> ?_)
  show wpAnyH _ _ _ _ _ 14 _ _ _
  repeat' first
   | with_reducible exact AllReadyH.nil
   | (
    (with_reducible refine isW ?_);refine wpAnyH_done (by decide +kernel) ?_ _
    refine NoPanic.normal ?_
    go_wp2_with fail
    go_meet
    case rel=>exact ⟨rfl,rfl,_,rfl,(by first|with_reducible exact mB (bs.out.mono bC.out) hF.out|with_reducible exact kU n.out (bs.out.mono bG.out) hF.out)⟩)
   | (
    (with_reducible refine isW ?_);first
     | refine tkk 0 [1,2,3,4,5,6] (by assumption) (v:= ?_) (by simp only[zA,z0',zS];rfl) (by decide +kernel) ?_ ?_
     | refine tkk 8 [9,10] (by assumption) (v:= ?_) (by simp only[zA,z0',zS];rfl) (by decide +kernel) ?_ ?_
     | refine tkk 13 [] (by assumption) (v:= ?_) (by simp only[zA,z0',zS];rfl) (by decide +kernel) ?_ ?_
    rotate_left
    ·(refine oL ⟨by rfl,?_⟩;intro w bc;(try dsimp only at bc);go_simp<;>with_reducible rfl)
    try simp only[Act.put,yA,aB,yS]
    repeat (refine tk (v:= ?_) (by simp only[zA,z0',zS];rfl) (by kernel_rfl) ?_ ?_;rotate_left;· (refine oL ⟨by rfl,?_⟩;intro w bc;(try dsimp only at bc);go_simp<;>with_reducible rfl);try simp only[Act.put,yA,aB,yS])
    refine tk0 ?_)
   | ((with_reducible refine isW ?_);first
     | refine wpAnyH_ready (rs:=[7,11]) (by decide +kernel) (by simp) ?_
     | refine wpAnyH_ready (rs:=[11]) (by decide +kernel) (by simp) ?_
     | refine wpAnyH_ready (rs:=[12]) (by decide +kernel) (by simp) ?_
     | refine wpAnyH_ready (rs:=[7]) (by decide +kernel) (by simp) ?_)
   | ((with_reducible refine isR ?_);refine rdc (by simp only[zA,z0',zS];rfl) ?_ fun ev hK=> ?_)
   | (
    go_simp
    first
     | ((go_at_call 168;(with_reducible refine cM (hM.out _ (by first|with_reducible exact a0.out|with_reducible exact a4.out)) ?_);rintro e w2 ⟨E,ce,F,cf,rfl,f2,f3⟩;have hF:Y (Z k.heap.size k w2):=(by first|exact a0.out.trans (f3.mono a0.out.size)|exact a4.out.trans (f3.mono a4.out.size));have bs:Y _:=f2;(first|(have n:Y (Cls w2 k.heap.size Z6):=((Cls.new k #[V I 0,V I 0,V I 0,V I 0,J none 0 0,J none 0 0] 56).gr (gR _).drew).below f3)|skip);clear f2 f3;(first|(have p0:=n.out.cell (j:=0) rfl;have z0:=n.out.fz 0;have p1:=n.out.cell (j:=1) rfl;have z1:=n.out.fz 1;have p2:=n.out.cell (j:=2) rfl;have z2:=n.out.fz 2;have p3:=n.out.cell (j:=3) rfl;have z3:=n.out.fz 3;have p4:=n.out.cell (j:=4) rfl;have z4:=n.out.fz 4;have p5:=n.out.cell (j:=5) rfl;have z5:=n.out.fz 5)|skip));first|(go_wp2_with fail)|skip)
     | skip
    refine hK.out _ _ ?_ (fun hHeld=> ?_)
    ·(try dsimp only);exact a1.out _ (by first|with_reducible exact a0.out|with_reducible exact a4.out|with_reducible exact hF.out|with_reducible exact hF.out.alloc hF.out.size _|exact ak hF.out (nR _) _ _ _ _ _ _)
    clear hK ev
    try simp only[Act.put,yA,aB,yS])
 rename K=>cA
 obtain ⟨rfl,rfl,Bm,rfl,b8⟩:=hcut
 obtain ⟨MB,bh,MD,bl,g1,g2,g3,g4⟩:=b8
 have hN:=ja6 g1 g2 (r.out.2.1.trans (g3.mono r.out.2.1.size)) (r.out.2.2.2.1.below g3) (r.out.2.2.2.2.1.below g3) g4
 have b5:=ja1 r.out.2.2.1.lt
 have bt:=ja1 g3
 clear g1 g2 g3 g4 hM
 cases hn:(a3 != 0)
 rotate_left
 focus
  have u:Y (im s t c d=a3/\¬im s t c d=0):=by
   have h0:¬a3=0:=by simpa using hn
   have h1:im s t c d=a3:=by unfold im;rw[if_pos (by rw[a9.out.1];exact bo.out)];exact bp.out.1
   exact ⟨h1,by rw[h1];exact h0⟩
  obtain ⟨r0,r1,r2,r3,r4,r5,r6,r7,r8,r9,b1,b2⟩:=iv hN.out.2.2.2.2.1
  obtain ⟨y0,y1,y2,y3,y4,y5,y6,y7,y8,y9,cB,c6⟩:=rN hN.out.2.2.2.2.1
  go_wp2
  exact bodyPost_ret (v:= y #[Q #[V I 0,V I 0,V I 0,V I 0,J none 0 0,J none 0 0,V I 0,V I 0,V I 0,V I 0,J none 0 0,J none 0 0],V I a3]) (by simp[results,Tryz.results132,go_sem,r0,r1,r2,r3,r4,r5,r6,r7,r8,r9,b1,b2]) rfl ⟨none,0,none,0,none,0,none,0,by rw[u.out.1];unfold snS snT;rw[if_neg u.out.2,if_neg u.out.2];rfl,by unfold snS;rw[if_neg u.out.2];exact TbW.zero _ _,by unfold snT;rw[if_neg u.out.2];exact TbW.zero _ _,((((((((((((hN.out.2.2.1.setCell (Nat.le_succ _) _).setCell (Nat.le_succ _) _).setCell (Nat.le_succ _) _).setCell (Nat.le_succ _) _).setCell (Nat.le_succ _) _).setCell (Nat.le_succ _) _).setCell (Nat.le_succ _) _).setCell (Nat.le_succ _) _).setCell (Nat.le_succ _) _).setCell (Nat.le_succ _) _).setCell (Nat.le_succ _) _).setCell (Nat.le_succ _) _)⟩
 have h0:a3=0:=by simpa using hn
 have b4:=ja1 h0
 clear hn h0
 have b7:(a3 != 0)=false:=by rw[b4.out];rfl
 obtain ⟨c0,c1,c2,c3,c4,c5⟩:=iJ hN.out.1
 obtain ⟨p6,p7,p8,p9,dz,dG⟩:=CZ hN.out.2.2.2.1
 obtain ⟨z6,z7,z8,z9,d4,d5⟩:=DS hN.out.2.2.2.1
 go_wp2
 obtain ⟨be,ad⟩:∃W,((((((cA.setCell ⟨w.heap.size+1+1,6,none⟩ (V I R.c.c0)).setCell ⟨w.heap.size+1+1,7,none⟩ (V I R.c.c1)).setCell ⟨w.heap.size+1+1,8,none⟩ (V I R.c.c2)).setCell ⟨w.heap.size+1+1,9,none⟩ (V I R.c.c3)).setCell ⟨w.heap.size+1+1,10,none⟩ (J MB R.c.l.length bh)).setCell ⟨w.heap.size+1+1,11,none⟩ (J MD R.e.length bl))=W:=⟨_,rfl⟩
 rw[ad]
 have hJ:Y (TbW k.heap.size be R MB bh MD bl/\Z w.heap.size w be/\Cls be (w.heap.size+1+1) (T2 f MA a7 MC a8 R MB bh MD bl)/\Cls be (w.heap.size+1) Z2/\TbW g.heap.size be f MA a7 MC a8):=by
  have dp:=b5.out
  have dl:=hI.out.1.size
  have dk:=hI.out.2.1.lt
  have ap:w.heap.size+1≠w.heap.size+1+1:=by omega
  refine ⟨?_,?_,?_,?_,?_⟩
  ·rw[<-ad];exact hN.out.2.1.agr ((((((aS _ fun h=>by omega).trans (aS _ fun h=>by omega)).trans (aS _ fun h=>by omega)).trans (aS _ fun h=>by omega)).trans (aS _ fun h=>by omega)).trans (aS _ fun h=>by omega))
  ·have ao:w.heap.size<=w.heap.size+1+1:=by omega
   rw[<-ad];exact (((((hN.out.2.2.1.setCell ao _).setCell ao _).setCell ao _).setCell ao _).setCell ao _).setCell ao _
  ·rw[<-ad];exact (((((hN.out.2.2.2.1.put 6 _).put 7 _).put 8 _).put 9 _).put 10 _).put 11 _
  ·rw[<-ad];exact (((((hN.out.2.2.2.2.1.oth ap _).oth ap _).oth ap _).oth ap _).oth ap _).oth ap _
  ·have c9:Z L.heap.size L cA:=r.out.1.below.trans (bt.out.mono r.out.1.size)
   have d6:=bN.out
   have cs:=b6.out
   rw[<-ad];exact (c7.out.below c9).agr ((((((aS _ fun h=>by omega).trans (aS _ fun h=>by omega)).trans (aS _ fun h=>by omega)).trans (aS _ fun h=>by omega)).trans (aS _ fun h=>by omega)).trans (aS _ fun h=>by omega))
 clear ad b7 c0 c1 c2 c3 c4 c5 p6 z6 p7 z7 p8 z8 p9 z9 dz d4 dG d5
 rw[rounds_succ]
 obtain ⟨q0,q1,q2,q3,q4,q5,q6,q7,q8,q9,er,es⟩:=iv hJ.out.2.2.1
 obtain ⟨r0,r1,r2,r3,r4,r5,r6,r7,r8,r9,b1,b2⟩:=iv hJ.out.2.2.2.1
 obtain ⟨y0,y1,y2,y3,y4,y5,y6,y7,y8,y9,cB,c6⟩:=rN hJ.out.2.2.2.1
 have u:Y (im s t c d=0/\snS s t c d=f/\snT s t c d=R):=by
  have h1:im s t c d=0:=by unfold im;rw[if_pos (by rw[a9.out.1];exact bo.out),bp.out.1];exact b4.out
  exact ⟨h1,by unfold snS;rw[if_pos h1];exact a9.out.2,by unfold snT;rw[if_pos h1];exact bp.out.2⟩
 go_wp2
 have cs:=b6.out
 have ea:=bN.out
 have eb:=b5.out
 have eg:=r.out.2.1.size
 have ej:=hI.out.2.1.lt
 have em:=b9.out
 have cn:∀bn,w.heap.size+1<bn->Agr (fun b=>bn<=b) be ((((((((((((be.setCell ⟨w.heap.size+1,0,none⟩ (V I f.c.c0)).setCell ⟨w.heap.size+1,1,none⟩ (V I f.c.c1)).setCell ⟨w.heap.size+1,2,none⟩ (V I f.c.c2)).setCell ⟨w.heap.size+1,3,none⟩ (V I f.c.c3)).setCell ⟨w.heap.size+1,4,none⟩ (J MA f.c.l.length a7)).setCell ⟨w.heap.size+1,5,none⟩ (J MC f.e.length a8)).setCell ⟨w.heap.size+1,6,none⟩ (V I R.c.c0)).setCell ⟨w.heap.size+1,7,none⟩ (V I R.c.c1)).setCell ⟨w.heap.size+1,8,none⟩ (V I R.c.c2)).setCell ⟨w.heap.size+1,9,none⟩ (V I R.c.c3)).setCell ⟨w.heap.size+1,10,none⟩ (J MB R.c.l.length bh)).setCell ⟨w.heap.size+1,11,none⟩ (J MD R.e.length bl)):=fun bn c8=>((((((((((((aS _ fun h=>by omega).trans (aS _ fun h=>by omega)).trans (aS _ fun h=>by omega)).trans (aS _ fun h=>by omega)).trans (aS _ fun h=>by omega)).trans (aS _ fun h=>by omega)).trans (aS _ fun h=>by omega)).trans (aS _ fun h=>by omega)).trans (aS _ fun h=>by omega)).trans (aS _ fun h=>by omega)).trans (aS _ fun h=>by omega)).trans (aS _ fun h=>by omega))
 rw[u.out.1,u.out.2.1,u.out.2.2]
 exact bodyPost_ret (v:= y #[Q (T2 f MA a7 MC a8 R MB bh MD bl).toArray,V I 0]) (by simp[results,Tryz.results132,go_sem,r0,r1,r2,r3,r4,r5,r6,r7,r8,r9,b1,b2]) rfl ⟨MA,a7,MC,a8,MB,bh,MD,bl,rfl,(hJ.out.2.2.2.2.agr (cn _ (by omega))).mono (by omega),(hJ.out.1.agr (cn _ (by omega))).mono (by omega),((((((((((((hJ.out.2.1.setCell (Nat.le_succ _) _).setCell (Nat.le_succ _) _).setCell (Nat.le_succ _) _).setCell (Nat.le_succ _) _).setCell (Nat.le_succ _) _).setCell (Nat.le_succ _) _).setCell (Nat.le_succ _) _).setCell (Nat.le_succ _) _).setCell (Nat.le_succ _) _).setCell (Nat.le_succ _) _).setCell (Nat.le_succ _) _).setCell (Nat.le_succ _) _)⟩

theorem mL (q:List Cel) (A:Option T) (cap:Nat) (w:K) (hl:q.length*40<=140737488351232) (L:bF w A q) (hA:A=none->cap=0) :
  M X 116 #[J A q.length cap] w fun e w'=>∃C c,e= U (J C q.length c)/\dN w' w.heap.size (J C q.length c) q/\Z w.heap.size w w':=by
 have r:=ja1 L
 clear L
 have ah:∀(w:K) (a:Option T) (n c F u:Nat),(binOp .eql 54 (J a n c) (J none F u)).run X w= .ok (.bool a.isNone) w:=fun w a n c F u=>Lib.run_eql_slice_nil w _ _ a n c F u Tryz.underlying54
 cases A with
 | none =>
  have E:Y (q=[]):=by
   rcases r.out with h|⟨_,_,h,_⟩
   ·exact h
   ·cases h
  go_enter Tryz.func116,Tryz.ntmps116
  go_wp2
  go_ret
  rw[E.out]
  exact ⟨_,_,rfl,ae.nil _ _ _ _ _,bR _ _⟩
 | some ad =>
  go_enter Tryz.func116,Tryz.ntmps116
  have f:Y (dN (w.alloc (H #[] 187)) w.heap.size (J (some ⟨w.heap.size,0,none⟩) 0 0) []/\bF (w.alloc (H #[] 187)) (some ad) q/\([]:List Cel).length+q.length<=maxLen/\(([]:List Cel).length+q.length)*40<=140737488355328/\w.heap.size<=(w.alloc (H #[] 187)).heap.size) :=
   ⟨⟨rfl,oR ⟨w.heap.size,0,#[],rfl,nR _,(MapKept.heap_alloc _ _).1,nR _,by simp,rfl,rfl⟩⟩,r.out.gr ((gR _).alloc _),by unfold maxLen;simp;omega,by simp;omega,by simp⟩
  go_wp2_with (at_builtin;refine dS _ rfl (.tmp 5) (.tmp 6) rfl w.heap.size (J (some ⟨w.heap.size,0,none⟩) 0 0) [] q (some ad) cap rfl rfl f.out.1 f.out.2.1 (fun h=>by cases h) f.out.2.2.1 f.out.2.2.2.1 f.out.2.2.2.2 ?_;intro v1 w1 g k)
  have j:Y (dN w1 w.heap.size v1 q/\Z w.heap.size w w1):=⟨g,((gR w).alloc _).below.trans (ae.grown_below f.out.1 k f.out.2.2.2.2)⟩
  clear g k
  go_ret
  obtain ⟨C,c,R,_⟩:=ae.row dQ j.out.1
  subst R
  exact ⟨C,c,rfl,j.out⟩
theorem tB (q:List (Int×Int)) (A:Option T) (cap:Nat) (w:K) (hl:q.length*16<=140737488351232) (L:Row w A q) (hA:A=none->cap=0) :
  M X 148 #[J A q.length cap] w fun e w'=>∃C c,e= U (J C q.length c)/\Own w' w.heap.size (J C q.length c) q/\Z w.heap.size w w':=by
 have r:=ja1 L
 clear L
 have ah:∀(w:K) (a:Option T) (n c F u:Nat),(binOp .eql 51 (J a n c) (J none F u)).run X w= .ok (.bool a.isNone) w:=fun w a n c F u=>Lib.run_eql_slice_nil w _ _ a n c F u Tryz.underlying51
 cases A with
 | none =>
  have E:Y (q=[]):=by
   rcases r.out with h|⟨_,_,h,_⟩
   ·exact h
   ·cases h
  go_enter Tryz.func148,Tryz.ntmps148
  go_wp2
  go_ret
  rw[E.out]
  exact ⟨_,_,rfl,Own.nil _ _,bR _ _⟩
 | some ad =>
  go_enter Tryz.func148,Tryz.ntmps148
  have f:Y (Own (w.alloc (H #[] 185)) w.heap.size (J (some ⟨w.heap.size,0,none⟩) 0 0) []/\Row (w.alloc (H #[] 185)) (some ad) q/\(([]:List (Int×Int)).length+q.length)*16<=140737488355328/\w.heap.size<=(w.alloc (H #[] 185)).heap.size) :=
   ⟨⟨rfl,oR ⟨w.heap.size,0,#[],rfl,nR _,(MapKept.heap_alloc _ _).1,nR _,by simp,rfl,rfl⟩⟩,r.out.gr ((gR _).alloc _),by simp;omega,by simp⟩
  go_wp2_with (at_builtin;refine aF _ rfl (.tmp 5) (.tmp 6) rfl w.heap.size (J (some ⟨w.heap.size,0,none⟩) 0 0) [] q (some ad) cap rfl rfl f.out.1 f.out.2.1 (fun h=>by cases h) f.out.2.2.1 f.out.2.2.2 ?_;intro v1 w1 g k _)
  have j:Y (Own w1 w.heap.size v1 q/\Z w.heap.size w w1):=⟨g,((gR w).alloc _).below.trans (Own.grown_below f.out.1 k f.out.2.2.2)⟩
  clear g k
  go_ret
  obtain ⟨C,c,R,_⟩:=Own.row j.out.1
  subst R
  exact ⟨C,c,rfl,j.out⟩
theorem fR (c:Ctx) (A:Option T) (ca:Nat) (w:K) (hl:c.l.length<=400) (hr:Row w A c.l) (hA:A=none->ca=0) :
  M X 115 #[Q (ja7 c A ca)] w fun e w'=>∃B cb,e= U (Q (ja7 c B cb))/\Own w' w.heap.size (J B c.l.length cb) c.l/\Z w.heap.size w w':=by
 have R:Tryz.prog.follows .mixedOrders=true:=by kernel_rfl
 obtain ⟨w1,h⟩:∃W,(w.alloc (H (ja7 c A ca) 53)).alloc (H #[V I 0,V I 0,V I 0,V I 0,J none 0 0] 53)=W:=⟨_,rfl⟩
 have u:Gr w w1:=by rw[<-h];exact ((gR w).alloc _).alloc _
 have L:w1.heap.size=w.heap.size+1+1:=by rw[<-h];simp
 have s0:w1.cell? ⟨w.heap.size,0,none⟩=some (V I c.c0):=by rw[<-h];exact aa (w:=w) ((gR _).alloc _) rfl
 have s1:w1.cell? ⟨w.heap.size,1,none⟩=some (V I c.c1):=by rw[<-h];exact aa (w:=w) ((gR _).alloc _) rfl
 have s2:w1.cell? ⟨w.heap.size,2,none⟩=some (V I c.c2):=by rw[<-h];exact aa (w:=w) ((gR _).alloc _) rfl
 have s3:w1.cell? ⟨w.heap.size,3,none⟩=some (V I c.c3):=by rw[<-h];exact aa (w:=w) ((gR _).alloc _) rfl
 have s4:w1.cell? ⟨w.heap.size,4,none⟩=some (J A c.l.length ca):=by rw[<-h];exact aa (w:=w) ((gR _).alloc _) rfl
 have hC:Y (∀W,Gr w1 W->M X 148 #[J A c.l.length ca] W fun e w'=>∃C c',e= U (J C c.l.length c')/\Own w' W.heap.size (J C c.l.length c') c.l/\Z W.heap.size W w'):=fun W hg=>tB c.l A ca W (by omega) (hr.gr (u.trans hg)) hA
 clear hr hA
 go_enter Tryz.func115,Tryz.ntmps115
 go_wp2
 have E:Y (∀j,w1.frozen? ⟨w.heap.size+1,j,none⟩=false):=fun j=>by
  rw[<-h]
  exact rA (w:=w) (gR _) j
 have F:Y (∀j v,(#[V I 0,V I 0,V I 0,V I 0,J none 0 0]:Array Value)[j]? = some v->w1.cell? ⟨w.heap.size+1,j,none⟩=some v):=fun j v hv=>by
  rw[<-h]
  have:=aa (w:=w.alloc (H (ja7 c A ca) 53)) (T1:=53) (gR _) hv
  simpa using this
 clear h
 go_region_with (go_at_call 148;refine cM (hC.out _ (gR w1).drew) ?_;rintro e w2 ⟨B,cb,rfl,h1,h2⟩;have f:Y (Own w2 (w.heap.size+1+1) (J B c.l.length cb) c.l/\Z w1.heap.size w1 w2):=⟨by rw[<-L];exact h1,(gR w1).drew.below.trans h2⟩;clear h1 h2;have g:w.heap.size+1<w1.heap.size:=(by omega);have k:w.heap.size<w1.heap.size:=(by omega);have q0:=(f.out.2.cell (p:=⟨w.heap.size,0,none⟩) k).trans s0;have q1:=(f.out.2.cell (p:=⟨w.heap.size,1,none⟩) k).trans s1;have q2:=(f.out.2.cell (p:=⟨w.heap.size,2,none⟩) k).trans s2;have q3:=(f.out.2.cell (p:=⟨w.heap.size,3,none⟩) k).trans s3;have p0:=(f.out.2.cell (p:=⟨w.heap.size+1,0,none⟩) g).trans (F.out 0 _ rfl);have p1:=(f.out.2.cell (p:=⟨w.heap.size+1,1,none⟩) g).trans (F.out 1 _ rfl);have p2:=(f.out.2.cell (p:=⟨w.heap.size+1,2,none⟩) g).trans (F.out 2 _ rfl);have p3:=(f.out.2.cell (p:=⟨w.heap.size+1,3,none⟩) g).trans (F.out 3 _ rfl);have p4:=(f.out.2.cell (p:=⟨w.heap.size+1,4,none⟩) g).trans (F.out 4 _ rfl);have z0:=(f.out.2.frozen (p:=⟨w.heap.size+1,0,none⟩) g).trans (E.out 0);have z1:=(f.out.2.frozen (p:=⟨w.heap.size+1,1,none⟩) g).trans (E.out 1);have z2:=(f.out.2.frozen (p:=⟨w.heap.size+1,2,none⟩) g).trans (E.out 2);have z3:=(f.out.2.frozen (p:=⟨w.heap.size+1,3,none⟩) g).trans (E.out 3);have z4:=(f.out.2.frozen (p:=⟨w.heap.size+1,4,none⟩) g).trans (E.out 4))
 all_goals
  go_wp2
  have hB:Z w.heap.size w w2:=u.below.trans (f.out.2.mono u.size)
  have r:w.heap.size+1<w.heap.size+1+1:=by omega
  have n:w.heap.size<=w.heap.size+1:=by omega
  exact bodyPost_ret (v:= Q (ja7 c B cb)) (by simp[results,Tryz.results115,go_sem,p0,p1,p2,p3,p4]) rfl ⟨B,cb,rfl,(((((f.out.1.setCell r _).setCell r _).setCell r _).setCell r _).setCell r _).mono (by omega),((((hB.setCell n _).setCell n _).setCell n _).setCell n _).setCell n _⟩
end Go.Proofs.YtjmmpnmgpgaagaaGreatDoor
