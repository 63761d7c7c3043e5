import Derived.Test.YtjmmpnmgpgaagaaGreatDoorM21
set_option maxRecDepth 100000
set_option maxHeartbeats 8000000
open Go.IntKind renaming i64 → I
open Go.RowKit renaming Below → Z, Hid → H
open Go.Value renaming int → V, slice → J, agg → Y, pointer → X, tuple → U
namespace Go.Proofs.YtjmmpnmgpgaagaaGreatDoor
open Go.RowKit Go.Sort
set_option linter.unusedSimpArgs false

theorem Bn {w:World} {N O:Nat} {P:Nat->Prop} {id:Int} {s t:Tab} {qs:List (List Stp)} (h:Nd w N O P id s t qs) (k x3 x4 x5:Int) :
  Calls Tryz.prog 93 #[X (some ⟨N,O,none⟩),Y #[V I k,V I 0,V I x3,V I x4,V I x5]] w fun e w'=>e= .returned (V I (doE s id k x3 x4 x5))/\Nd w' N O (af P w.heap.size w'.heap.size) id (doT s id k x3 x4 x5) t qs/\Wr N (O+1) (O+37) w w':=by
 have c6:Tryz.prog.follows .mixedOrders=true:=by kernel_rfl
 obtain ⟨A,ca,C,cc,b6,bb⟩:=h.ts
 obtain ⟨B,cb,D,cd,b7,cu⟩:=h.tt
 obtain ⟨w1,bt⟩:∃W,w.alloc (.cells #[V I k,V I 0,V I x3,V I x4,V I x5] 95)=W:=⟨_,rfl⟩
 have ap:Gr w w1:=by rw[<-bt];exact (gR w).alloc _
 have cs:w1.heap.size=w.heap.size+1:=by rw[<-bt];simp
 have a8:H (Cls w1 w.heap.size [V I k,V I 0,V I x3,V I x4,V I x5]):=by show Cls _ _ _;rw[<-bt];exact Cls.new w _ _
 have ba:=ja1 (nL h.blk.lt ap.size)
 have f:=h.blk.lt
 have a9:H (w1.cell? ⟨N,O,none⟩=some (V I id)/\TbC w1 N (O+1) s A ca C cc/\TbC w1 N (O+7) t B cb D cd):=⟨(ap.below.cell (p:=⟨N,O,none⟩) f).trans h.cid,b6.keep fun j _ _=>ap.below.cell (p:=⟨N,j,none⟩) f,b7.keep fun j _ _=>ap.below.cell (p:=⟨N,j,none⟩) f⟩
 have bN:H (∀W,Z w1.heap.size w1 W->Calls Tryz.prog 131 #[Y (T6 s A ca C cc).toArray,V I id,Y #[V I k,V I 0,V I x3,V I x4,V I x5]] W fun e w'=>∃(u:Tab) (C:Option Addr) (cp:Nat) (F:Option Addr) (cf:Nat),e= .returned (U #[Y (T6 u C cp F cf).toArray,V I (edE s id k x3 x4 x5)])/\u=edT s id k x3 x4 x5/\TbW W.heap.size w' u C cp F cf/\Z W.heap.size W w'):=fun W hW=>mU s A ca C cc id k 0 x3 x4 x5 W bb.len.1 bb.len.2 ((bb.row.gr ap).below hW) ((bb.cel.gr ap).below hW)
 have L:H (Nd w N O P id s t qs/\TbP P w s A ca C cc/\TbP P w t B cb D cd/\TbC w N (O+1) s A ca C cc/\TbC w N (O+7) t B cb D cd/\Gr w w1/\w1.heap.size=w.heap.size+1):=⟨h,bb,cu,b6,b7,ap,cs⟩
 clear h bb cu b6 b7 ap cs f
 have b1:=a8.out.cell (j:=1) rfl
 obtain ⟨EE,bG⟩:∃E,edE s id k x3 x4 x5=E:=⟨_,rfl⟩
 rw[bG] at bN
 have bh:=ja1 bG
 clear bG
 go_enter Tryz.func93,Tryz.ntmps93
 go_upto_region 3 with fail
 clear bt b1
 go_cut [5,6] from 16 (fun v5 v6 wx=>∃Bm:Nat,v5= X (some ⟨Bm,0,none⟩)/\v6= V I EE/\DoR w1 wx w1.heap.size Bm s id k x3 x4 x5)
 case first =>
  have be:=ja1 ((gR w1).drew.below)
  have bs:H (Z w1.heap.size w1 (w1.alloc (.cells #[V I 0,V I 0,V I 0,V I 0,J none 0 0,J none 0 0] 56)).drew):=((gR w1).alloc _).drew.below
  have cn:H (w1.heap.size<=w1.drew.heap.size):=nR _
  have cr:H (w1.heap.size+1<=(w1.alloc (.cells #[V I 0,V I 0,V I 0,V I 0,J none 0 0,J none 0 0] 56)).drew.heap.size):=by show _<=(w1.alloc _).heap.size;simp
  have bl:H (∀W,Z w1.heap.size w1 W->(fun w'=>w'.cell? ⟨w.heap.size,0,none⟩=some (V I k)/\w'.cell? ⟨w.heap.size,1,none⟩=some (V I 0)/\w'.cell? ⟨w.heap.size,2,none⟩=some (V I x3)/\w'.cell? ⟨w.heap.size,3,none⟩=some (V I x4)/\w'.cell? ⟨w.heap.size,4,none⟩=some (V I x5)/\w'.cell? ⟨N,O,none⟩=some (V I id)/\w'.cell? ⟨N,O+1,none⟩=some (V I s.c.c0)/\w'.cell? ⟨N,O+2,none⟩=some (V I s.c.c1)/\w'.cell? ⟨N,O+3,none⟩=some (V I s.c.c2)/\w'.cell? ⟨N,O+4,none⟩=some (V I s.c.c3)/\w'.cell? ⟨N,O+5,none⟩=some (J A s.c.l.length ca)/\w'.cell? ⟨N,O+6,none⟩=some (J C s.e.length cc)) W):=fun W hW=>⟨(a8.out.below hW).cell (j:=0) rfl,(a8.out.below hW).cell (j:=1) rfl,(a8.out.below hW).cell (j:=2) rfl,(a8.out.below hW).cell (j:=3) rfl,(a8.out.below hW).cell (j:=4) rfl,(hW.cell (p:=⟨N,O,none⟩) ba.out).trans a9.out.1,(hW.cell (p:=⟨N,O+1,none⟩) ba.out).trans a9.out.2.1.k0,(hW.cell (p:=⟨N,O+2,none⟩) ba.out).trans a9.out.2.1.k1,(hW.cell (p:=⟨N,O+3,none⟩) ba.out).trans a9.out.2.1.k2,(hW.cell (p:=⟨N,O+4,none⟩) ba.out).trans a9.out.2.1.k3,(hW.cell (p:=⟨N,O+5,none⟩) ba.out).trans a9.out.2.1.k4,(hW.cell (p:=⟨N,O+6,none⟩) ba.out).trans a9.out.2.1.k5⟩
  focus
   refine wp_region_noPanic ?_
   refine wp_region_held_drew (S:=(fun w'=>w'.cell? ⟨w.heap.size,0,none⟩=some (V I k)/\w'.cell? ⟨w.heap.size,1,none⟩=some (V I 0)/\w'.cell? ⟨w.heap.size,2,none⟩=some (V I x3)/\w'.cell? ⟨w.heap.size,3,none⟩=some (V I x4)/\w'.cell? ⟨w.heap.size,4,none⟩=some (V I x5)/\w'.cell? ⟨N,O,none⟩=some (V I id)/\w'.cell? ⟨N,O+1,none⟩=some (V I s.c.c0)/\w'.cell? ⟨N,O+2,none⟩=some (V I s.c.c1)/\w'.cell? ⟨N,O+3,none⟩=some (V I s.c.c2)/\w'.cell? ⟨N,O+4,none⟩=some (V I s.c.c3)/\w'.cell? ⟨N,O+5,none⟩=some (J A s.c.l.length ca)/\w'.cell? ⟨N,O+6,none⟩=some (J C s.e.length cc))) (by kernel_rfl) (bl.out _ be.out) (fun hHeld=> ?_)
   show wpAnyH _ _ _ _ _ 19 _ _ _
   repeat' first
    | with_reducible exact AllReadyH.nil
    | (
     (with_reducible refine isW ?_);refine wpAnyH_done (by decide +kernel) ?_ _
     refine NoPanic.normal ?_
     go_wp2_with fail
     go_meet
     case rel=>exact ⟨_,rfl,rfl,(by first|with_reducible exact vg hF.out.1 (cj.out.mono cn.out) hF.out.2|with_reducible exact rI hF.out.1 ah.out (cj.out.mono cr.out) hF.out.2)⟩)
    | (
     (with_reducible refine isW ?_);first
      | refine tkk 0 [1,2,3,4,5,6,7,8,9,10,11] (by assumption) (v:= ?_) (by simp only[zA,z0',zS];rfl) (by decide +kernel) ?_ ?_
      | refine tkk 13 [14,15] (by assumption) (v:= ?_) (by simp only[zA,z0',zS];rfl) (by decide +kernel) ?_ ?_
      | refine tkk 18 [] (by assumption) (v:= ?_) (by simp only[zA,z0',zS];rfl) (by decide +kernel) ?_ ?_
     rotate_left
     ·(refine oL ⟨by rfl,?_⟩;intro w b3;(try dsimp only at b3);go_simp<;>with_reducible rfl)
     try simp only[Act.put,yA,aB,yS]
     repeat (refine tk (v:= ?_) (by simp only[zA,z0',zS];rfl) (by kernel_rfl) ?_ ?_;rotate_left;· (refine oL ⟨by rfl,?_⟩;intro w b3;(try dsimp only at b3);go_simp<;>with_reducible rfl);try simp only[Act.put,yA,aB,yS])
     refine tk0 ?_)
    | ((with_reducible refine isW ?_);first
      | refine wpAnyH_ready (rs:=[12,16]) (by decide +kernel) (by simp) ?_
      | refine wpAnyH_ready (rs:=[16]) (by decide +kernel) (by simp) ?_
      | refine wpAnyH_ready (rs:=[17]) (by decide +kernel) (by simp) ?_
      | refine wpAnyH_ready (rs:=[12]) (by decide +kernel) (by simp) ?_)
    | ((with_reducible refine isR ?_);refine rdc (by simp only[zA,z0',zS];rfl) ?_ fun ds hK=> ?_)
    | (
     go_simp
     first
      | ((go_at_call 131;(with_reducible refine cM (bN.out _ (by first|with_reducible exact be.out|with_reducible exact bs.out)) ?_);rintro e w2 ⟨u,E,ce,F,cf,rfl,f1,f2,f3⟩;have hF:H (u=edT s id k x3 x4 x5/\Z w1.heap.size w1 w2):=⟨f1,(by first|exact be.out.trans (f3.mono be.out.size)|exact bs.out.trans (f3.mono bs.out.size))⟩;have cj:H _:=f2;(first|(have ah:H (Cls w2 w1.heap.size Z6):=((Cls.new w1 #[V I 0,V I 0,V I 0,V I 0,J none 0 0,J none 0 0] 56).gr (gR _).drew).below f3)|skip);clear f1 f2 f3;(first|(have p0:=ah.out.cell (j:=0) rfl;have z0:=ah.out.fz 0;have p1:=ah.out.cell (j:=1) rfl;have z1:=ah.out.fz 1;have p2:=ah.out.cell (j:=2) rfl;have z2:=ah.out.fz 2;have p3:=ah.out.cell (j:=3) rfl;have z3:=ah.out.fz 3;have p4:=ah.out.cell (j:=4) rfl;have z4:=ah.out.fz 4;have p5:=ah.out.cell (j:=5) rfl;have z5:=ah.out.fz 5)|skip));first|(go_wp2_with fail)|skip)
      | skip
     refine hK.out _ _ ?_ (fun hHeld=> ?_)
     ·(try dsimp only);exact bl.out _ (by first|with_reducible exact be.out|with_reducible exact bs.out|with_reducible exact hF.out.2|with_reducible exact hF.out.2.alloc hF.out.2.size _|exact ak hF.out.2 (nR _) _ _ _ _ _ _)
     clear hK ds
     try simp only[Act.put,yA,aB,yS])
 case rest =>
  rename World=>g
  obtain ⟨Bm,rfl,rfl,cv⟩:=hcut
  obtain ⟨u,UA,bc,UC,bd,hu,b9,ck,b5,cm⟩:=cv
  have ap:=L.out.2.2.2.2.2.1
  have a6:Z w.heap.size w g:=ap.below.trans (b5.mono ap.size)
  have hR:H (u=edT s id k x3 x4 x5/\Cls g Bm (T6 u UA bc UC bd)/\TbW w1.heap.size g u UA bc UC bd/\Z w.heap.size w g/\w1.heap.size<=Bm/\Cls g w.heap.size [V I k,V I 0,V I x3,V I x4,V I x5]/\Nd g N O P id s t qs):=⟨hu,b9,ck,a6,cm,a8.out.below b5,L.out.1.below a6⟩
  clear hu b9 ck b5 cm ap a6 bN a9 a8
  cases hn:(EE != 0)
  rotate_left
  focus
   have r:H (doE s id k x3 x4 x5=EE/\doT s id k x3 x4 x5=s):=by
    have h0:¬EE=0:=by simpa using hn
    have h1:doE s id k x3 x4 x5=EE:=by unfold doE;rw[bh.out,if_neg h0]
    exact ⟨h1,by unfold doT;rw[h1,if_neg h0]⟩
   go_wp2
   go_ret
   refine ⟨by rw[r.out.1];rfl,?_,Wr.of hR.out.2.2.2.1 L.out.1.blk.lt⟩
   rw[r.out.2]
   exact hR.out.2.2.2.2.2.2.mono (fun b hb=>af.old b hb) (da L.out.1.out L.out.1.blk.lt) (fq fun b hb=>hR.out.2.2.2.2.2.2.up b hb)
  have h0:EE=0:=by simpa using hn
  subst h0
  clear hn
  have f:=L.out.1.blk.lt
  have n1:=(hR.out.2.2.2.1.cell (p:=⟨N,O+1,none⟩) f).trans L.out.2.2.2.1.k0
  have n2:=(hR.out.2.2.2.1.cell (p:=⟨N,O+2,none⟩) f).trans L.out.2.2.2.1.k1
  have n3:=(hR.out.2.2.2.1.cell (p:=⟨N,O+3,none⟩) f).trans L.out.2.2.2.1.k2
  have n4:=(hR.out.2.2.2.1.cell (p:=⟨N,O+4,none⟩) f).trans L.out.2.2.2.1.k3
  have n5:=(hR.out.2.2.2.1.cell (p:=⟨N,O+5,none⟩) f).trans L.out.2.2.2.1.k4
  have n6:=(hR.out.2.2.2.1.cell (p:=⟨N,O+6,none⟩) f).trans L.out.2.2.2.1.k5
  have n7:=(hR.out.2.2.2.1.cell (p:=⟨N,O+7,none⟩) f).trans L.out.2.2.2.2.1.k0
  have n8:=(hR.out.2.2.2.1.cell (p:=⟨N,O+8,none⟩) f).trans L.out.2.2.2.2.1.k1
  have n9:=(hR.out.2.2.2.1.cell (p:=⟨N,O+9,none⟩) f).trans L.out.2.2.2.2.1.k2
  have c7:=(hR.out.2.2.2.1.cell (p:=⟨N,O+10,none⟩) f).trans L.out.2.2.2.2.1.k3
  have c8:=(hR.out.2.2.2.1.cell (p:=⟨N,O+11,none⟩) f).trans L.out.2.2.2.2.1.k4
  have c9:=(hR.out.2.2.2.1.cell (p:=⟨N,O+12,none⟩) f).trans L.out.2.2.2.2.1.k5
  go_upto_region 7 with fail
  obtain ⟨w5,bC⟩:∃W,g.alloc (.cells #[V I s.c.c0,V I s.c.c1,V I s.c.c2,V I s.c.c3,J A s.c.l.length ca,J C s.e.length cc,V I t.c.c0,V I t.c.c1,V I t.c.c2,V I t.c.c3,J B t.c.l.length cb,J D t.e.length cd] 57)=W:=⟨_,rfl⟩
  rw[bC]
  have a7:Gr g w5:=by rw[<-bC];exact (gR _).alloc _
  have h5:H (Cls w5 g.heap.size (T2 s A ca C cc t B cb D cd)/\Cls w5 Bm (T6 u UA bc UC bd)/\TbW w1.heap.size w5 u UA bc UC bd/\Z w.heap.size w w5/\Cls w5 w.heap.size [V I k,V I 0,V I x3,V I x4,V I x5]/\Nd w5 N O P id s t qs/\TbP P w5 s A ca C cc/\TbP P w5 t B cb D cd/\Gr g w5):=by
   have b4:=hR.out.2.2.2.1.trans (a7.below.mono hR.out.2.2.2.1.size)
   exact ⟨by rw[<-bC];exact Cls.new g _ _,hR.out.2.1.gr a7,hR.out.2.2.1.below a7.below,b4,hR.out.2.2.2.2.2.1.gr a7,hR.out.2.2.2.2.2.2.below a7.below,L.out.2.1.below b4,L.out.2.2.1.below b4,a7⟩
  clear bC a7 n1 n2 n3 n4 n5 n6 n7 n8 n9 c7 c8 c9 f
  have b1:=h5.out.2.2.2.2.1.cell (j:=1) rfl
  obtain ⟨a0,a1,a2,a3,a4,a5⟩:=iJ h5.out.1
  obtain ⟨c0,c1,c2,c3,c4,c5⟩:=iJ h5.out.2.1
  obtain ⟨ME,b0⟩:∃E,au s u=E:=⟨_,rfl⟩
  obtain ⟨n,b2⟩:∃E,ag s u=E:=⟨_,rfl⟩
  have bn:=ja2 b0 b2
  have hM:H (∀W,Gr w5 W->Calls Tryz.prog 129 #[Y (T6 s A ca C cc).toArray,Y (T6 u UA bc UC bd).toArray] W fun e w'=>∃E ce F cf,e= .returned (U #[Y (T6 n E ce F cf).toArray,V I ME])/\TbW W.heap.size w' n E ce F cf/\Z W.heap.size W w'):=fun W hg=>by
   have hl:u.c.l.length<=maxLen/\u.e.length<=maxLen:=by rw[hR.out.1];exact vi _ _ _ _ _ _
   have bp:TbP P w5 s A ca C cc:=h5.out.2.2.2.2.2.2.1
   have hm:=jq s u A UA C UC ca bc cc bd W bp.len.1 hl.1 bp.len.2 hl.2 bp.nr h5.out.2.2.1.nr (bp.row.gr hg) (h5.out.2.2.1.row.gr hg) (bp.cel.gr hg) (h5.out.2.2.1.cel.gr hg)
   rw[b0,b2] at hm
   refine hm.mono ?_
   rintro e w' ⟨E,ce,F,cf,rfl,f1,f2,f3,f4,f5,f6,f7⟩
   exact ⟨E,ce,F,cf,rfl,⟨f1,f2,f3,f4,f5,f6⟩,f7⟩
  clear b0 b2
  go_cut [6] from 16 (fun v6 wx=>v6= V I ME/\∃(R:Option Addr) (an:Nat) (ad:Option Addr) (ao:Nat),H (Cls wx g.heap.size (T2 n R an ad ao t B cb D cd)/\TbW w5.heap.size wx n R an ad ao/\Z g.heap.size g wx))
  case first =>
   go_region_with (go_at_call 129;refine cM (hM.out _ (gR w5).drew) ?_;rintro e w6 ⟨R,an,ad,ao,rfl,f1,f2⟩;have hF:H (TbW w5.heap.size w6 n R an ad ao/\Z w5.heap.size w5 w6):=⟨f1,(gR w5).drew.below.trans f2⟩;clear f1 f2;have e1:=(h5.out.2.2.2.2.1.below hF.out.2).cell (j:=1) rfl;have p0:=(h5.out.1.below hF.out.2).cell (j:=0) rfl;have z0:=(h5.out.1.below hF.out.2).fz 0;have p1:=(h5.out.1.below hF.out.2).cell (j:=1) rfl;have z1:=(h5.out.1.below hF.out.2).fz 1;have p2:=(h5.out.1.below hF.out.2).cell (j:=2) rfl;have z2:=(h5.out.1.below hF.out.2).fz 2;have p3:=(h5.out.1.below hF.out.2).cell (j:=3) rfl;have z3:=(h5.out.1.below hF.out.2).fz 3;have p4:=(h5.out.1.below hF.out.2).cell (j:=4) rfl;have z4:=(h5.out.1.below hF.out.2).fz 4;have p5:=(h5.out.1.below hF.out.2).cell (j:=5) rfl;have z5:=(h5.out.1.below hF.out.2).fz 5)
   all_goals
    have r:H (Cls ((((((w6.setCell ⟨g.heap.size,0,none⟩ (V I n.c.c0)).setCell ⟨g.heap.size,1,none⟩ (V I n.c.c1)).setCell ⟨g.heap.size,2,none⟩ (V I n.c.c2)).setCell ⟨g.heap.size,3,none⟩ (V I n.c.c3)).setCell ⟨g.heap.size,4,none⟩ (J R n.c.l.length an)).setCell ⟨g.heap.size,5,none⟩ (J ad n.e.length ao)) g.heap.size [V I n.c.c0,V I n.c.c1,V I n.c.c2,V I n.c.c3,J R n.c.l.length an,J ad n.e.length ao,V I t.c.c0,V I t.c.c1,V I t.c.c2,V I t.c.c3,J B t.c.l.length cb,J D t.e.length cd]/\TbW w5.heap.size ((((((w6.setCell ⟨g.heap.size,0,none⟩ (V I n.c.c0)).setCell ⟨g.heap.size,1,none⟩ (V I n.c.c1)).setCell ⟨g.heap.size,2,none⟩ (V I n.c.c2)).setCell ⟨g.heap.size,3,none⟩ (V I n.c.c3)).setCell ⟨g.heap.size,4,none⟩ (J R n.c.l.length an)).setCell ⟨g.heap.size,5,none⟩ (J ad n.e.length ao)) n R an ad ao/\Z g.heap.size g ((((((w6.setCell ⟨g.heap.size,0,none⟩ (V I n.c.c0)).setCell ⟨g.heap.size,1,none⟩ (V I n.c.c1)).setCell ⟨g.heap.size,2,none⟩ (V I n.c.c2)).setCell ⟨g.heap.size,3,none⟩ (V I n.c.c3)).setCell ⟨g.heap.size,4,none⟩ (J R n.c.l.length an)).setCell ⟨g.heap.size,5,none⟩ (J ad n.e.length ao))):=by
     have a7:=h5.out.2.2.2.2.2.2.2.2
     have dk:=h5.out.1.lt
     have cB:Z g.heap.size g w6:=a7.below.trans (hF.out.2.mono a7.size)
     exact ⟨((((((h5.out.1.below hF.out.2).put 0 _).put 1 _).put 2 _).put 3 _).put 4 _).put 5 _,hF.out.1.agr ((((((aS _ fun h=>by omega).trans (aS _ fun h=>by omega)).trans (aS _ fun h=>by omega)).trans (aS _ fun h=>by omega)).trans (aS _ fun h=>by omega)).trans (aS _ fun h=>by omega)),((((((cB.setCell (nR _) _).setCell (nR _) _).setCell (nR _) _).setCell (nR _) _).setCell (nR _) _).setCell (nR _) _)⟩
    clear hF hM
    go_wp2_with fail
    go_meet
    case rel=>exact ⟨rfl,R,an,ad,ao,r⟩
  case rest =>
   obtain ⟨rfl,R,an,ad,ao,hQ⟩:=hcut
   clear hM b1 a0 a1 a2 a3 a4 a5 c0 c1 c2 c3 c4 c5
   obtain ⟨q0,q1,q2,q3,q4,q5,q6,q7,q8,q9,dl,dp⟩:=iv hQ.out.1
   have a6:H (Z w.heap.size w wc/\Nd wc N O P id s t qs/\TbP P wc s A ca C cc/\TbP P wc t B cb D cd):=by
    have cl:=hR.out.2.2.2.1
    have hb:=cl.trans (hQ.out.2.2.mono cl.size)
    exact ⟨hb,L.out.1.below hb,L.out.2.1.below hb,L.out.2.2.1.below hb⟩
   cases hn:(ME != 0)
   rotate_left
   focus
    have r:H (doE s id k x3 x4 x5=ME/\doT s id k x3 x4 x5=s):=by
     have h0:¬ME=0:=by simpa using hn
     have h1:doE s id k x3 x4 x5=ME:=by unfold doE;rw[if_pos bh.out,<-hR.out.1];exact bn.out.1
     exact ⟨h1,by unfold doT;rw[h1,if_neg h0]⟩
    go_wp2
    go_ret
    refine ⟨by rw[r.out.1];rfl,?_,Wr.of a6.out.1 L.out.1.blk.lt⟩
    rw[r.out.2]
    exact a6.out.2.1.mono (fun b hb=>af.old b hb) (da L.out.1.out L.out.1.blk.lt) (fq fun b hb=>a6.out.2.1.up b hb)
   have h0:ME=0:=by simpa using hn
   have r:H (doE s id k x3 x4 x5=0/\doT s id k x3 x4 x5=n/\aw n=0):=by
    have h1:doE s id k x3 x4 x5=0:=by unfold doE;rw[if_pos bh.out,<-hR.out.1,bn.out.1];exact h0
    exact ⟨h1,by unfold doT;rw[h1,if_pos rfl,<-hR.out.1];exact bn.out.2,by rw[<-bn.out.2];exact dv (by rw[bn.out.1];exact h0)⟩
   subst h0
   clear hn
   have b8:H (Calls Tryz.prog 130 #[X (some ⟨N,O,none⟩),Y (T2 n R an ad ao t B cb D cd).toArray] wc fun e w'=>e= .returned (U #[])/\Nd w' N O (af P w.heap.size w'.heap.size) id n t qs/\Wr N (O+1) (O+37) wc w') :=
    have cA:TbP (af P w.heap.size wc.heap.size) wc n R an ad ao:=(hQ.out.2.1.p r.out.2.2).mono fun b hb=>af.new (nT hR.out.2.2.2.1.size h5.out.2.2.2.2.2.2.2.2.size) (nR _) b hb
    jR a6.out.2.1 L.out.1.blk.lt a6.out.1.size cA (a6.out.2.2.2.mono fun b hb=>af.old b hb)
   go_wp2_with fail
   refine ja0 b8 ?_
   rintro e w8 ⟨rfl,f1,f2⟩
   have bo:=ja2 f1 ((Wr.of a6.out.1 L.out.1.blk.lt).trans f2)
   clear f1 f2 b8
   go_wp2
   go_ret
   refine ⟨by rw[r.out.1];rfl,?_,bo.out.2⟩
   rw[r.out.2.1]
   exact bo.out.1
end Go.Proofs.YtjmmpnmgpgaagaaGreatDoor
