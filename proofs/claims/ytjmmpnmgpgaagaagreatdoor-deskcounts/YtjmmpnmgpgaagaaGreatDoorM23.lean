import Derived.Test.YtjmmpnmgpgaagaaGreatDoorM21
set_option maxRecDepth 100000
set_option maxHeartbeats 8000000
open Go.IntKind renaming i64 → I
open Go.RowKit renaming Below → Z, Hid → H
open Go.Value renaming int → V, slice → J, agg → Y, pointer → X, tuple → U
namespace Go.Proofs.YtjmmpnmgpgaagaaGreatDoor
open Go.RowKit Go.Sort
set_option linter.unusedSimpArgs false

theorem Bo {w:World} {N O:Nat} {P:Nat->Prop} {id:Int} {s t:Tab} {qs:List (List Stp)} (h:Nd w N O P id s t qs) (k x3 x4 x5:Int) :
  Calls Tryz.prog 93 #[X (some ⟨N,O,none⟩),Y #[V I k,V I 1,V I x3,V I x4,V I x5]] w fun e w'=>e= .returned (V I (doE t id k x3 x4 x5))/\Nd w' N O (af P w.heap.size w'.heap.size) id s (doT t id k x3 x4 x5) qs/\Wr N (O+1) (O+37) w w':=by
 have c6:Tryz.prog.follows .mixedOrders=true:=by kernel_rfl
 obtain ⟨A,ca,C,cc,b4,cr⟩:=h.ts
 obtain ⟨B,cb,D,cd,b5,a5⟩:=h.tt
 obtain ⟨w1,bp⟩:∃W,w.alloc (.cells #[V I k,V I 1,V I x3,V I x4,V I x5] 95)=W:=⟨_,rfl⟩
 have ap:Gr w w1:=by rw[<-bp];exact (gR w).alloc _
 have cn:w1.heap.size=w.heap.size+1:=by rw[<-bp];simp
 have a2:H (Cls w1 w.heap.size [V I k,V I 1,V I x3,V I x4,V I x5]):=by show Cls _ _ _;rw[<-bp];exact Cls.new w _ _
 have a4:=ja1 (nL h.blk.lt ap.size)
 have f:=h.blk.lt
 have a3:H (w1.cell? ⟨N,O,none⟩=some (V I id)/\TbC w1 N (O+1) s A ca C cc/\TbC w1 N (O+7) t B cb D cd):=⟨(ap.below.cell (p:=⟨N,O,none⟩) f).trans h.cid,b4.keep fun j _ _=>ap.below.cell (p:=⟨N,j,none⟩) f,b5.keep fun j _ _=>ap.below.cell (p:=⟨N,j,none⟩) f⟩
 have bC:H (∀W,Z w1.heap.size w1 W->Calls Tryz.prog 131 #[Y (T6 t B cb D cd).toArray,V I id,Y #[V I k,V I 1,V I x3,V I x4,V I x5]] W fun e w'=>∃(u:Tab) (C:Option Addr) (cp:Nat) (F:Option Addr) (cf:Nat),e= .returned (U #[Y (T6 u C cp F cf).toArray,V I (edE t id k x3 x4 x5)])/\u=edT t id k x3 x4 x5/\TbW W.heap.size w' u C cp F cf/\Z W.heap.size W w'):=fun W hW=>mU t B cb D cd id k 1 x3 x4 x5 W a5.len.1 a5.len.2 ((a5.row.gr ap).below hW) ((a5.cel.gr ap).below hW)
 have L:H (Nd w N O P id s t qs/\TbP P w s A ca C cc/\TbP P w t B cb D cd/\TbC w N (O+1) s A ca C cc/\TbC w N (O+7) t B cb D cd/\Gr w w1/\w1.heap.size=w.heap.size+1):=⟨h,cr,a5,b4,b5,ap,cn⟩
 clear h cr a5 b4 b5 ap cn f
 have b1:=a2.out.cell (j:=1) rfl
 obtain ⟨EE,bt⟩:∃E,edE t id k x3 x4 x5=E:=⟨_,rfl⟩
 rw[bt] at bC
 have bd:=ja1 bt
 clear bt
 go_enter Tryz.func93,Tryz.ntmps93
 go_upto_region 3 with fail
 clear bp b1
 go_cut [5,6] from 16 (fun v5 v6 wx=>∃Bm:Nat,v5= X (some ⟨Bm,0,none⟩)/\v6= V I EE/\DoR w1 wx w1.heap.size Bm t id k x3 x4 x5)
 case first =>
  have bc:=ja1 ((gR w1).drew.below)
  have bo:H (Z w1.heap.size w1 (w1.alloc (.cells #[V I 0,V I 0,V I 0,V I 0,J none 0 0,J none 0 0] 56)).drew):=((gR w1).alloc _).drew.below
  have cl:H (w1.heap.size<=w1.drew.heap.size):=nR _
  have cm:H (w1.heap.size+1<=(w1.alloc (.cells #[V I 0,V I 0,V I 0,V I 0,J none 0 0,J none 0 0] 56)).drew.heap.size):=by show _<=(w1.alloc _).heap.size;simp
  have be:H (∀W,Z w1.heap.size w1 W->(fun w'=>w'.cell? ⟨w.heap.size,0,none⟩=some (V I k)/\w'.cell? ⟨w.heap.size,1,none⟩=some (V I 1)/\w'.cell? ⟨w.heap.size,2,none⟩=some (V I x3)/\w'.cell? ⟨w.heap.size,3,none⟩=some (V I x4)/\w'.cell? ⟨w.heap.size,4,none⟩=some (V I x5)/\w'.cell? ⟨N,O,none⟩=some (V I id)/\w'.cell? ⟨N,O+7,none⟩=some (V I t.c.c0)/\w'.cell? ⟨N,O+8,none⟩=some (V I t.c.c1)/\w'.cell? ⟨N,O+9,none⟩=some (V I t.c.c2)/\w'.cell? ⟨N,O+10,none⟩=some (V I t.c.c3)/\w'.cell? ⟨N,O+11,none⟩=some (J B t.c.l.length cb)/\w'.cell? ⟨N,O+12,none⟩=some (J D t.e.length cd)) W):=fun W hW=>⟨(a2.out.below hW).cell (j:=0) rfl,(a2.out.below hW).cell (j:=1) rfl,(a2.out.below hW).cell (j:=2) rfl,(a2.out.below hW).cell (j:=3) rfl,(a2.out.below hW).cell (j:=4) rfl,(hW.cell (p:=⟨N,O,none⟩) a4.out).trans a3.out.1,(hW.cell (p:=⟨N,O+7,none⟩) a4.out).trans a3.out.2.2.k0,(hW.cell (p:=⟨N,O+8,none⟩) a4.out).trans a3.out.2.2.k1,(hW.cell (p:=⟨N,O+9,none⟩) a4.out).trans a3.out.2.2.k2,(hW.cell (p:=⟨N,O+10,none⟩) a4.out).trans a3.out.2.2.k3,(hW.cell (p:=⟨N,O+11,none⟩) a4.out).trans a3.out.2.2.k4,(hW.cell (p:=⟨N,O+12,none⟩) a4.out).trans a3.out.2.2.k5⟩
  focus
   refine wp_region_noPanic ?_
   refine wp_region_held_drew (S:=(fun w'=>w'.cell? ⟨w.heap.size,0,none⟩=some (V I k)/\w'.cell? ⟨w.heap.size,1,none⟩=some (V I 1)/\w'.cell? ⟨w.heap.size,2,none⟩=some (V I x3)/\w'.cell? ⟨w.heap.size,3,none⟩=some (V I x4)/\w'.cell? ⟨w.heap.size,4,none⟩=some (V I x5)/\w'.cell? ⟨N,O,none⟩=some (V I id)/\w'.cell? ⟨N,O+7,none⟩=some (V I t.c.c0)/\w'.cell? ⟨N,O+8,none⟩=some (V I t.c.c1)/\w'.cell? ⟨N,O+9,none⟩=some (V I t.c.c2)/\w'.cell? ⟨N,O+10,none⟩=some (V I t.c.c3)/\w'.cell? ⟨N,O+11,none⟩=some (J B t.c.l.length cb)/\w'.cell? ⟨N,O+12,none⟩=some (J D t.e.length cd))) (by kernel_rfl) (be.out _ bc.out) (fun hHeld=> ?_)
   show wpAnyH _ _ _ _ _ 19 _ _ _
   repeat' first
    | with_reducible exact AllReadyH.nil
    | (
     (with_reducible refine isW ?_);refine wpAnyH_done (by decide +kernel) ?_ _
     refine NoPanic.normal ?_
     go_wp2_with fail
     go_meet
     case rel=>exact ⟨_,rfl,rfl,(by first|with_reducible exact vg hF.out.1 (b8.out.mono cl.out) hF.out.2|with_reducible exact rI hF.out.1 ah.out (b8.out.mono cm.out) hF.out.2)⟩)
    | (
     (with_reducible refine isW ?_);first
      | refine tkk 0 [1,2,3,4,5,6,7,8,9,10,11] (by assumption) (v:= ?_) (by simp only[zA,z0',zS];rfl) (by decide +kernel) ?_ ?_
      | refine tkk 13 [14,15] (by assumption) (v:= ?_) (by simp only[zA,z0',zS];rfl) (by decide +kernel) ?_ ?_
      | refine tkk 18 [] (by assumption) (v:= ?_) (by simp only[zA,z0',zS];rfl) (by decide +kernel) ?_ ?_
     rotate_left
     ·(refine oL ⟨by rfl,?_⟩;intro w b0;(try dsimp only at b0);go_simp<;>with_reducible rfl)
     try simp only[Act.put,yA,aB,yS]
     repeat (refine tk (v:= ?_) (by simp only[zA,z0',zS];rfl) (by kernel_rfl) ?_ ?_;rotate_left;· (refine oL ⟨by rfl,?_⟩;intro w b0;(try dsimp only at b0);go_simp<;>with_reducible rfl);try simp only[Act.put,yA,aB,yS])
     refine tk0 ?_)
    | ((with_reducible refine isW ?_);first
      | refine wpAnyH_ready (rs:=[12,16]) (by decide +kernel) (by simp) ?_
      | refine wpAnyH_ready (rs:=[16]) (by decide +kernel) (by simp) ?_
      | refine wpAnyH_ready (rs:=[17]) (by decide +kernel) (by simp) ?_
      | refine wpAnyH_ready (rs:=[12]) (by decide +kernel) (by simp) ?_)
    | ((with_reducible refine isR ?_);refine rdc (by simp only[zA,z0',zS];rfl) ?_ fun d4 hK=> ?_)
    | (
     go_simp
     first
      | ((go_at_call 131;(with_reducible refine cM (bC.out _ (by first|with_reducible exact bc.out|with_reducible exact bo.out)) ?_);rintro e w2 ⟨u,E,ce,F,cf,rfl,f1,f2,f3⟩;have hF:H (u=edT t id k x3 x4 x5/\Z w1.heap.size w1 w2):=⟨f1,(by first|exact bc.out.trans (f3.mono bc.out.size)|exact bo.out.trans (f3.mono bo.out.size))⟩;have b8:H _:=f2;(first|(have ah:H (Cls w2 w1.heap.size Z6):=((Cls.new w1 #[V I 0,V I 0,V I 0,V I 0,J none 0 0,J none 0 0] 56).gr (gR _).drew).below f3)|skip);clear f1 f2 f3;(first|(have p0:=ah.out.cell (j:=0) rfl;have z0:=ah.out.fz 0;have p1:=ah.out.cell (j:=1) rfl;have z1:=ah.out.fz 1;have p2:=ah.out.cell (j:=2) rfl;have z2:=ah.out.fz 2;have p3:=ah.out.cell (j:=3) rfl;have z3:=ah.out.fz 3;have p4:=ah.out.cell (j:=4) rfl;have z4:=ah.out.fz 4;have p5:=ah.out.cell (j:=5) rfl;have z5:=ah.out.fz 5)|skip));first|(go_wp2_with fail)|skip)
      | skip
     refine hK.out _ _ ?_ (fun hHeld=> ?_)
     ·(try dsimp only);exact be.out _ (by first|with_reducible exact bc.out|with_reducible exact bo.out|with_reducible exact hF.out.2|with_reducible exact hF.out.2.alloc hF.out.2.size _|exact ak hF.out.2 (nR _) _ _ _ _ _ _)
     clear hK d4
     try simp only[Act.put,yA,aB,yS])
 case rest =>
  rename World=>g
  obtain ⟨Bm,rfl,rfl,cv⟩:=hcut
  obtain ⟨u,UA,ba,UC,bb,hu,b7,b9,b3,ck⟩:=cv
  have ap:=L.out.2.2.2.2.2.1
  have a0:Z w.heap.size w g:=ap.below.trans (b3.mono ap.size)
  have hR:H (u=edT t id k x3 x4 x5/\Cls g Bm (T6 u UA ba UC bb)/\TbW w1.heap.size g u UA ba UC bb/\Z w.heap.size w g/\w1.heap.size<=Bm/\Cls g w.heap.size [V I k,V I 1,V I x3,V I x4,V I x5]/\Nd g N O P id s t qs):=⟨hu,b7,b9,a0,ck,a2.out.below b3,L.out.1.below a0⟩
  clear hu b7 b9 b3 ck ap a0 bC a3 a2
  cases hn:(EE != 0)
  rotate_left
  focus
   have r:H (doE t id k x3 x4 x5=EE/\doT t id k x3 x4 x5=t):=by
    have h0:¬EE=0:=by simpa using hn
    have h1:doE t id k x3 x4 x5=EE:=by unfold doE;rw[bd.out,if_neg h0]
    exact ⟨h1,by unfold doT;rw[h1,if_neg h0]⟩
   go_wp2
   go_ret
   refine ⟨by rw[r.out.1];rfl,?_,Wr.of hR.out.2.2.2.1 L.out.1.blk.lt⟩
   rw[r.out.2]
   exact hR.out.2.2.2.2.2.2.mono (fun b hb=>af.old b hb) (da L.out.1.out L.out.1.blk.lt) (fq fun b hb=>hR.out.2.2.2.2.2.2.up b hb)
  have h0:EE=0:=by simpa using hn
  subst h0
  clear hn
  have f:=L.out.1.blk.lt
  have n1:=(hR.out.2.2.2.1.cell (p:=⟨N,O+1,none⟩) f).trans L.out.2.2.2.1.k0
  have n2:=(hR.out.2.2.2.1.cell (p:=⟨N,O+2,none⟩) f).trans L.out.2.2.2.1.k1
  have n3:=(hR.out.2.2.2.1.cell (p:=⟨N,O+3,none⟩) f).trans L.out.2.2.2.1.k2
  have n4:=(hR.out.2.2.2.1.cell (p:=⟨N,O+4,none⟩) f).trans L.out.2.2.2.1.k3
  have n5:=(hR.out.2.2.2.1.cell (p:=⟨N,O+5,none⟩) f).trans L.out.2.2.2.1.k4
  have n6:=(hR.out.2.2.2.1.cell (p:=⟨N,O+6,none⟩) f).trans L.out.2.2.2.1.k5
  have n7:=(hR.out.2.2.2.1.cell (p:=⟨N,O+7,none⟩) f).trans L.out.2.2.2.2.1.k0
  have n8:=(hR.out.2.2.2.1.cell (p:=⟨N,O+8,none⟩) f).trans L.out.2.2.2.2.1.k1
  have n9:=(hR.out.2.2.2.1.cell (p:=⟨N,O+9,none⟩) f).trans L.out.2.2.2.2.1.k2
  have c7:=(hR.out.2.2.2.1.cell (p:=⟨N,O+10,none⟩) f).trans L.out.2.2.2.2.1.k3
  have c8:=(hR.out.2.2.2.1.cell (p:=⟨N,O+11,none⟩) f).trans L.out.2.2.2.2.1.k4
  have c9:=(hR.out.2.2.2.1.cell (p:=⟨N,O+12,none⟩) f).trans L.out.2.2.2.2.1.k5
  go_upto_region 7 with fail
  obtain ⟨w5,bs⟩:∃W,g.alloc (.cells #[V I s.c.c0,V I s.c.c1,V I s.c.c2,V I s.c.c3,J A s.c.l.length ca,J C s.e.length cc,V I t.c.c0,V I t.c.c1,V I t.c.c2,V I t.c.c3,J B t.c.l.length cb,J D t.e.length cd] 57)=W:=⟨_,rfl⟩
  rw[bs]
  have a1:Gr g w5:=by rw[<-bs];exact (gR _).alloc _
  have h5:H (Cls w5 g.heap.size (T2 s A ca C cc t B cb D cd)/\Cls w5 Bm (T6 u UA ba UC bb)/\TbW w1.heap.size w5 u UA ba UC bb/\Z w.heap.size w w5/\Cls w5 w.heap.size [V I k,V I 1,V I x3,V I x4,V I x5]/\Nd w5 N O P id s t qs/\TbP P w5 s A ca C cc/\TbP P w5 t B cb D cd/\Gr g w5):=by
   have b2:=hR.out.2.2.2.1.trans (a1.below.mono hR.out.2.2.2.1.size)
   exact ⟨by rw[<-bs];exact Cls.new g _ _,hR.out.2.1.gr a1,hR.out.2.2.1.below a1.below,b2,hR.out.2.2.2.2.2.1.gr a1,hR.out.2.2.2.2.2.2.below a1.below,L.out.2.1.below b2,L.out.2.2.1.below b2,a1⟩
  clear bs a1 n1 n2 n3 n4 n5 n6 n7 n8 n9 c7 c8 c9 f
  have b1:=h5.out.2.2.2.2.1.cell (j:=1) rfl
  obtain ⟨a6,a7,a8,a9,cs,cu⟩:=CZ h5.out.1
  obtain ⟨c0,c1,c2,c3,c4,c5⟩:=iJ h5.out.2.1
  obtain ⟨ME,bG⟩:∃E,au t u=E:=⟨_,rfl⟩
  obtain ⟨n,bN⟩:∃E,ag t u=E:=⟨_,rfl⟩
  have bh:=ja2 bG bN
  have hM:H (∀W,Gr w5 W->Calls Tryz.prog 129 #[Y (T6 t B cb D cd).toArray,Y (T6 u UA ba UC bb).toArray] W fun e w'=>∃E ce F cf,e= .returned (U #[Y (T6 n E ce F cf).toArray,V I ME])/\TbW W.heap.size w' n E ce F cf/\Z W.heap.size W w'):=fun W hg=>by
   have hl:u.c.l.length<=maxLen/\u.e.length<=maxLen:=by rw[hR.out.1];exact vi _ _ _ _ _ _
   have bn:TbP P w5 t B cb D cd:=h5.out.2.2.2.2.2.2.2.1
   have hm:=jq t u B UA D UC cb ba cd bb W bn.len.1 hl.1 bn.len.2 hl.2 bn.nr h5.out.2.2.1.nr (bn.row.gr hg) (h5.out.2.2.1.row.gr hg) (bn.cel.gr hg) (h5.out.2.2.1.cel.gr hg)
   rw[bG,bN] at hm
   refine hm.mono ?_
   rintro e w' ⟨E,ce,F,cf,rfl,f1,f2,f3,f4,f5,f6,f7⟩
   exact ⟨E,ce,F,cf,rfl,⟨f1,f2,f3,f4,f5,f6⟩,f7⟩
  clear bG bN
  go_cut [6] from 16 (fun v6 wx=>v6= V I ME/\∃(R:Option Addr) (an:Nat) (ad:Option Addr) (ao:Nat),H (Cls wx g.heap.size (T2 s A ca C cc n R an ad ao)/\TbW w5.heap.size wx n R an ad ao/\Z g.heap.size g wx))
  case first =>
   go_region_with (go_at_call 129;refine cM (hM.out _ (gR w5).drew) ?_;rintro e w6 ⟨R,an,ad,ao,rfl,f1,f2⟩;have hF:H (TbW w5.heap.size w6 n R an ad ao/\Z w5.heap.size w5 w6):=⟨f1,(gR w5).drew.below.trans f2⟩;clear f1 f2;have e1:=(h5.out.2.2.2.2.1.below hF.out.2).cell (j:=1) rfl;have p6:=(h5.out.1.below hF.out.2).cell (j:=6) rfl;have z6:=(h5.out.1.below hF.out.2).fz 6;have p7:=(h5.out.1.below hF.out.2).cell (j:=7) rfl;have z7:=(h5.out.1.below hF.out.2).fz 7;have p8:=(h5.out.1.below hF.out.2).cell (j:=8) rfl;have z8:=(h5.out.1.below hF.out.2).fz 8;have p9:=(h5.out.1.below hF.out.2).cell (j:=9) rfl;have z9:=(h5.out.1.below hF.out.2).fz 9;have dl:=(h5.out.1.below hF.out.2).cell (j:=10) rfl;have dG:=(h5.out.1.below hF.out.2).fz 10;have dp:=(h5.out.1.below hF.out.2).cell (j:=11) rfl;have d0:=(h5.out.1.below hF.out.2).fz 11)
   all_goals
    have r:H (Cls ((((((w6.setCell ⟨g.heap.size,6,none⟩ (V I n.c.c0)).setCell ⟨g.heap.size,7,none⟩ (V I n.c.c1)).setCell ⟨g.heap.size,8,none⟩ (V I n.c.c2)).setCell ⟨g.heap.size,9,none⟩ (V I n.c.c3)).setCell ⟨g.heap.size,10,none⟩ (J R n.c.l.length an)).setCell ⟨g.heap.size,11,none⟩ (J ad n.e.length ao)) g.heap.size [V I s.c.c0,V I s.c.c1,V I s.c.c2,V I s.c.c3,J A s.c.l.length ca,J C s.e.length cc,V I n.c.c0,V I n.c.c1,V I n.c.c2,V I n.c.c3,J R n.c.l.length an,J ad n.e.length ao]/\TbW w5.heap.size ((((((w6.setCell ⟨g.heap.size,6,none⟩ (V I n.c.c0)).setCell ⟨g.heap.size,7,none⟩ (V I n.c.c1)).setCell ⟨g.heap.size,8,none⟩ (V I n.c.c2)).setCell ⟨g.heap.size,9,none⟩ (V I n.c.c3)).setCell ⟨g.heap.size,10,none⟩ (J R n.c.l.length an)).setCell ⟨g.heap.size,11,none⟩ (J ad n.e.length ao)) n R an ad ao/\Z g.heap.size g ((((((w6.setCell ⟨g.heap.size,6,none⟩ (V I n.c.c0)).setCell ⟨g.heap.size,7,none⟩ (V I n.c.c1)).setCell ⟨g.heap.size,8,none⟩ (V I n.c.c2)).setCell ⟨g.heap.size,9,none⟩ (V I n.c.c3)).setCell ⟨g.heap.size,10,none⟩ (J R n.c.l.length an)).setCell ⟨g.heap.size,11,none⟩ (J ad n.e.length ao))):=by
     have a1:=h5.out.2.2.2.2.2.2.2.2
     have dk:=h5.out.1.lt
     have cB:Z g.heap.size g w6:=a1.below.trans (hF.out.2.mono a1.size)
     exact ⟨((((((h5.out.1.below hF.out.2).put 6 _).put 7 _).put 8 _).put 9 _).put 10 _).put 11 _,hF.out.1.agr ((((((aS _ fun h=>by omega).trans (aS _ fun h=>by omega)).trans (aS _ fun h=>by omega)).trans (aS _ fun h=>by omega)).trans (aS _ fun h=>by omega)).trans (aS _ fun h=>by omega)),((((((cB.setCell (nR _) _).setCell (nR _) _).setCell (nR _) _).setCell (nR _) _).setCell (nR _) _).setCell (nR _) _)⟩
    clear hF hM
    go_wp2_with fail
    go_meet
    case rel=>exact ⟨rfl,R,an,ad,ao,r⟩
  case rest =>
   obtain ⟨rfl,R,an,ad,ao,hQ⟩:=hcut
   clear hM b1 a6 a7 a8 a9 cs cu c0 c1 c2 c3 c4 c5
   obtain ⟨q0,q1,q2,q3,q4,q5,q6,q7,q8,q9,ds,dz⟩:=iv hQ.out.1
   have a0:H (Z w.heap.size w wc/\Nd wc N O P id s t qs/\TbP P wc s A ca C cc/\TbP P wc t B cb D cd):=by
    have cj:=hR.out.2.2.2.1
    have hb:=cj.trans (hQ.out.2.2.mono cj.size)
    exact ⟨hb,L.out.1.below hb,L.out.2.1.below hb,L.out.2.2.1.below hb⟩
   cases hn:(ME != 0)
   rotate_left
   focus
    have r:H (doE t id k x3 x4 x5=ME/\doT t id k x3 x4 x5=t):=by
     have h0:¬ME=0:=by simpa using hn
     have h1:doE t id k x3 x4 x5=ME:=by unfold doE;rw[if_pos bd.out,<-hR.out.1];exact bh.out.1
     exact ⟨h1,by unfold doT;rw[h1,if_neg h0]⟩
    go_wp2
    go_ret
    refine ⟨by rw[r.out.1];rfl,?_,Wr.of a0.out.1 L.out.1.blk.lt⟩
    rw[r.out.2]
    exact a0.out.2.1.mono (fun b hb=>af.old b hb) (da L.out.1.out L.out.1.blk.lt) (fq fun b hb=>a0.out.2.1.up b hb)
   have h0:ME=0:=by simpa using hn
   have r:H (doE t id k x3 x4 x5=0/\doT t id k x3 x4 x5=n/\aw n=0):=by
    have h1:doE t id k x3 x4 x5=0:=by unfold doE;rw[if_pos bd.out,<-hR.out.1,bh.out.1];exact h0
    exact ⟨h1,by unfold doT;rw[h1,if_pos rfl,<-hR.out.1];exact bh.out.2,by rw[<-bh.out.2];exact dv (by rw[bh.out.1];exact h0)⟩
   subst h0
   clear hn
   have b6:H (Calls Tryz.prog 130 #[X (some ⟨N,O,none⟩),Y (T2 s A ca C cc n R an ad ao).toArray] wc fun e w'=>e= .returned (U #[])/\Nd w' N O (af P w.heap.size w'.heap.size) id s n qs/\Wr N (O+1) (O+37) wc w') :=
    have cA:TbP (af P w.heap.size wc.heap.size) wc n R an ad ao:=(hQ.out.2.1.p r.out.2.2).mono fun b hb=>af.new (nT hR.out.2.2.2.1.size h5.out.2.2.2.2.2.2.2.2.size) (nR _) b hb
    jR a0.out.2.1 L.out.1.blk.lt a0.out.1.size (a0.out.2.2.1.mono fun b hb=>af.old b hb) cA
   go_wp2_with fail
   refine ja0 b6 ?_
   rintro e w8 ⟨rfl,f1,f2⟩
   have bl:=ja2 f1 ((Wr.of a0.out.1 L.out.1.blk.lt).trans f2)
   clear f1 f2 b6
   go_wp2
   go_ret
   refine ⟨by rw[r.out.1];rfl,?_,bl.out.2⟩
   rw[r.out.2.1]
   exact bl.out.1
end Go.Proofs.YtjmmpnmgpgaagaaGreatDoor
