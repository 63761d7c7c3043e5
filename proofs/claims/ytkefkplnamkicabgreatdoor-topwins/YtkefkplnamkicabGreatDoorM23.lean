import Derived.Test.YtkefkplnamkicabGreatDoorM21
set_option maxRecDepth 100000
set_option maxHeartbeats 8000000
open Go.IntKind renaming i64 → I
open Go.Value renaming int → V, slice → J, agg → Z, pointer → H, tuple → Y
namespace Go.Proofs.YtkefkplnamkicabGreatDoor
open Go.RowKit Go.Sort
set_option linter.unusedSimpArgs false

theorem wQ {w:World} {N O:Nat} {P:Nat→Prop} {id:Int} {s t:Tab} {qs:List (List Stp)} (h:Nd w N O P id s t qs) (k x3 x4 x5:Int) :
  Calls Tryz.prog 35 #[H (some ⟨N,O,none⟩),Z #[V I k,V I 1,V I x3,V I x4,V I x5]] w fun e w'=>e= .returned (V I (doE t id k x3 x4 x5))∧Nd w' N O (ag P w.heap.size w'.heap.size) id s (doT t id k x3 x4 x5) qs∧Wr N (O+1) (O+37) w w':=by
 have mixed:Tryz.prog.follows .mixedOrders=true:=by kernel_rfl
 obtain ⟨A,ca,C,cc,hcs,hts⟩:=h.ts
 obtain ⟨B,cb,D,cd,hct,htt⟩:=h.tt
 obtain ⟨w1,hw1⟩:∃W,w.alloc (.cells #[V I k,V I 1,V I x3,V I x4,V I x5] 30)=W:=⟨_,rfl⟩
 have hg1:Gr w w1:=by rw[←hw1];exact (gR w).alloc _
 have hs1:w1.heap.size=w.heap.size+1:=by rw[←hw1];simp
 have hBx:Hid (Cls w1 w.heap.size [V I k,V I 1,V I x3,V I x4,V I x5]):=by show Cls _ _ _;rw[←hw1];exact Cls.new w _ _
 have hHl:Hid (N<w1.heap.size):=nL h.blk.lt hg1.size
 have hlt0:=h.blk.lt
 have hHn:Hid (w1.cell? ⟨N,O,none⟩=some (V I id)∧TbC w1 N (O+1) s A ca C cc∧TbC w1 N (O+7) t B cb D cd):=⟨(hg1.below.cell (p:=⟨N,O,none⟩) hlt0).trans h.cid,hcs.keep fun j _ _=>hg1.below.cell (p:=⟨N,j,none⟩) hlt0,hct.keep fun j _ _=>hg1.below.cell (p:=⟨N,j,none⟩) hlt0⟩
 have hEd:Hid (∀W,Below w1.heap.size w1 W→Calls Tryz.prog 50 #[Z (T6 t B cb D cd).toArray,V I id,Z #[V I k,V I 1,V I x3,V I x4,V I x5]] W fun e w'=>∃(u:Tab) (C:Option Addr) (cp:Nat) (F:Option Addr) (cf:Nat),e= .returned (Y #[Z (T6 u C cp F cf).toArray,V I (edE t id k x3 x4 x5)])∧u=edT t id k x3 x4 x5∧TbW W.heap.size w' u C cp F cf∧Below W.heap.size W w'):=fun W hW=>kU t B cb D cd id k 1 x3 x4 x5 W htt.len.1 htt.len.2 ((htt.row.gr hg1).below hW) ((htt.cel.gr hg1).below hW)
 have hH:Hid (Nd w N O P id s t qs∧TbP P w s A ca C cc∧TbP P w t B cb D cd∧TbC w N (O+1) s A ca C cc∧TbC w N (O+7) t B cb D cd∧Gr w w1∧w1.heap.size=w.heap.size+1):=⟨h,hts,htt,hcs,hct,hg1,hs1⟩
 clear h hts htt hcs hct hg1 hs1 hlt0
 have b1:=hBx.out.cell (j:=1) rfl
 obtain ⟨EE,hEE⟩:∃E,edE t id k x3 x4 x5=E:=⟨_,rfl⟩
 rw[hEE] at hEd
 have hEEH:Hid (edE t id k x3 x4 x5=EE):=hEE
 clear hEE
 go_enter Tryz.func35,Tryz.ntmps35
 go_upto_region 3 with fail
 clear hw1 b1
 go_cut [5,6] from 16 (fun v5 v6 wx=>∃Bm:Nat,v5= H (some ⟨Bm,0,none⟩)∧v6= V I EE∧DoR w1 wx w1.heap.size Bm t id k x3 x4 x5)
 case first =>
  have hD0:Hid (Below w1.heap.size w1 w1.drew):=(gR w1).drew.below
  have hD1:Hid (Below w1.heap.size w1 (w1.alloc (.cells #[V I 0,V I 0,V I 0,V I 0,J none 0 0,J none 0 0] 42)).drew):=((gR w1).alloc _).drew.below
  have hle0:Hid (w1.heap.size≤w1.drew.heap.size):=nR _
  have hle1:Hid (w1.heap.size+1≤(w1.alloc (.cells #[V I 0,V I 0,V I 0,V I 0,J none 0 0,J none 0 0] 42)).drew.heap.size):=by show _≤(w1.alloc _).heap.size;simp
  have hKeep:Hid (∀W,Below w1.heap.size w1 W→(fun w'=>w'.cell? ⟨w.heap.size,0,none⟩=some (V I k)∧w'.cell? ⟨w.heap.size,1,none⟩=some (V I 1)∧w'.cell? ⟨w.heap.size,2,none⟩=some (V I x3)∧w'.cell? ⟨w.heap.size,3,none⟩=some (V I x4)∧w'.cell? ⟨w.heap.size,4,none⟩=some (V I x5)∧w'.cell? ⟨N,O,none⟩=some (V I id)∧w'.cell? ⟨N,O+7,none⟩=some (V I t.c.c0)∧w'.cell? ⟨N,O+8,none⟩=some (V I t.c.c1)∧w'.cell? ⟨N,O+9,none⟩=some (V I t.c.c2)∧w'.cell? ⟨N,O+10,none⟩=some (V I t.c.c3)∧w'.cell? ⟨N,O+11,none⟩=some (J B t.c.l.length cb)∧w'.cell? ⟨N,O+12,none⟩=some (J D t.e.length cd)) W):=fun W hW=>⟨(hBx.out.below hW).cell (j:=0) rfl,(hBx.out.below hW).cell (j:=1) rfl,(hBx.out.below hW).cell (j:=2) rfl,(hBx.out.below hW).cell (j:=3) rfl,(hBx.out.below hW).cell (j:=4) rfl,(hW.cell (p:=⟨N,O,none⟩) hHl.out).trans hHn.out.1,(hW.cell (p:=⟨N,O+7,none⟩) hHl.out).trans hHn.out.2.2.k0,(hW.cell (p:=⟨N,O+8,none⟩) hHl.out).trans hHn.out.2.2.k1,(hW.cell (p:=⟨N,O+9,none⟩) hHl.out).trans hHn.out.2.2.k2,(hW.cell (p:=⟨N,O+10,none⟩) hHl.out).trans hHn.out.2.2.k3,(hW.cell (p:=⟨N,O+11,none⟩) hHl.out).trans hHn.out.2.2.k4,(hW.cell (p:=⟨N,O+12,none⟩) hHl.out).trans hHn.out.2.2.k5⟩
  focus
   refine wp_region_noPanic ?_
   refine wp_region_held_drew (S:=(fun w'=>w'.cell? ⟨w.heap.size,0,none⟩=some (V I k)∧w'.cell? ⟨w.heap.size,1,none⟩=some (V I 1)∧w'.cell? ⟨w.heap.size,2,none⟩=some (V I x3)∧w'.cell? ⟨w.heap.size,3,none⟩=some (V I x4)∧w'.cell? ⟨w.heap.size,4,none⟩=some (V I x5)∧w'.cell? ⟨N,O,none⟩=some (V I id)∧w'.cell? ⟨N,O+7,none⟩=some (V I t.c.c0)∧w'.cell? ⟨N,O+8,none⟩=some (V I t.c.c1)∧w'.cell? ⟨N,O+9,none⟩=some (V I t.c.c2)∧w'.cell? ⟨N,O+10,none⟩=some (V I t.c.c3)∧w'.cell? ⟨N,O+11,none⟩=some (J B t.c.l.length cb)∧w'.cell? ⟨N,O+12,none⟩=some (J D t.e.length cd))) (by kernel_rfl) (hKeep.out _ hD0.out) (fun hHeld=> ?_)
   show wpAnyH _ _ _ _ _ 19 _ _ _
   repeat' first
    | with_reducible exact AllReadyH.nil
    | (
     (with_reducible refine isW ?_);refine wpAnyH_done (by decide +kernel) ?_ _
     refine NoPanic.normal ?_
     go_wp2_with fail
     go_meet
     case rel=>exact ⟨_,rfl,rfl,(by first|with_reducible exact ry hF.out.1 (hT2.out.mono hle0.out) hF.out.2|with_reducible exact oF hF.out.1 hB2.out (hT2.out.mono hle1.out) hF.out.2)⟩)
    | (
     (with_reducible refine isW ?_);first
      | refine tkk 0 [1,2,3,4,5,6,7,8,9,10,11] (by assumption) (v:= ?_) (by simp only[zA,z0',zS];rfl) (by decide +kernel) ?_ ?_
      | refine tkk 13 [14,15] (by assumption) (v:= ?_) (by simp only[zA,z0',zS];rfl) (by decide +kernel) ?_ ?_
      | refine tkk 18 [] (by assumption) (v:= ?_) (by simp only[zA,z0',zS];rfl) (by decide +kernel) ?_ ?_
     rotate_left
     ·(refine oL ⟨by rfl,?_⟩;intro w hSw;(try dsimp only at hSw);go_simp<;>with_reducible rfl)
     try simp only[Act.put,yA,aE,yS]
     repeat (refine tk (v:= ?_) (by simp only[zA,z0',zS];rfl) (by kernel_rfl) ?_ ?_;rotate_left;· (refine oL ⟨by rfl,?_⟩;intro w hSw;(try dsimp only at hSw);go_simp<;>with_reducible rfl);try simp only[Act.put,yA,aE,yS])
     refine tk0 ?_)
    | ((with_reducible refine isW ?_);first
      | refine wpAnyH_ready (rs:=[12,16]) (by decide +kernel) (by simp) ?_
      | refine wpAnyH_ready (rs:=[16]) (by decide +kernel) (by simp) ?_
      | refine wpAnyH_ready (rs:=[17]) (by decide +kernel) (by simp) ?_
      | refine wpAnyH_ready (rs:=[12]) (by decide +kernel) (by simp) ?_)
    | ((with_reducible refine isR ?_);refine rdc (by simp only[zA,z0',zS];rfl) ?_ fun K hK=> ?_)
    | (
     go_simp
     first
      | ((go_at_call 50;(with_reducible refine cM (hEd.out _ (by first|with_reducible exact hD0.out|with_reducible exact hD1.out)) ?_);rintro e w2 ⟨u,E,ce,F,cf,rfl,f1,f2,f3⟩;have hF:Hid (u=edT t id k x3 x4 x5∧Below w1.heap.size w1 w2):=⟨f1,(by first|exact hD0.out.trans (f3.mono hD0.out.size)|exact hD1.out.trans (f3.mono hD1.out.size))⟩;have hT2:Hid _:=f2;(first|(have hB2:Hid (Cls w2 w1.heap.size Z6):=((Cls.new w1 #[V I 0,V I 0,V I 0,V I 0,J none 0 0,J none 0 0] 42).gr (gR _).drew).below f3)|skip);clear f1 f2 f3;(first|(have p0:=hB2.out.cell (j:=0) rfl;have z0:=hB2.out.fz 0;have p1:=hB2.out.cell (j:=1) rfl;have z1:=hB2.out.fz 1;have p2:=hB2.out.cell (j:=2) rfl;have z2:=hB2.out.fz 2;have p3:=hB2.out.cell (j:=3) rfl;have z3:=hB2.out.fz 3;have p4:=hB2.out.cell (j:=4) rfl;have z4:=hB2.out.fz 4;have p5:=hB2.out.cell (j:=5) rfl;have z5:=hB2.out.fz 5)|skip));first|(go_wp2_with fail)|skip)
      | skip
     refine hK.out _ _ ?_ (fun hHeld=> ?_)
     ·(try dsimp only);exact hKeep.out _ (by first|with_reducible exact hD0.out|with_reducible exact hD1.out|with_reducible exact hF.out.2|with_reducible exact hF.out.2.alloc hF.out.2.size _|exact aj hF.out.2 (nR _) _ _ _ _ _ _)
     clear hK K
     try simp only[Act.put,yA,aE,yS])
 case rest =>
  rename World=>wz
  obtain ⟨Bm,rfl,rfl,hDR⟩:=hcut
  obtain ⟨u,UA,uca,UC,ucc,hu,hCu,hTu,hbc,hge⟩:=hDR
  have hg1:=hH.out.2.2.2.2.2.1
  have hbw:Below w.heap.size w wz:=hg1.below.trans (hbc.mono hg1.size)
  have hR:Hid (u=edT t id k x3 x4 x5∧Cls wz Bm (T6 u UA uca UC ucc)∧TbW w1.heap.size wz u UA uca UC ucc∧Below w.heap.size w wz∧w1.heap.size≤Bm∧Cls wz w.heap.size [V I k,V I 1,V I x3,V I x4,V I x5]∧Nd wz N O P id s t qs):=⟨hu,hCu,hTu,hbw,hge,hBx.out.below hbc,hH.out.1.below hbw⟩
  clear hu hCu hTu hbc hge hg1 hbw hEd hHn hBx
  cases hn:(EE != 0)
  rotate_left
  focus
   have hfin:Hid (doE t id k x3 x4 x5=EE∧doT t id k x3 x4 x5=t):=by
    have h0:¬EE=0:=by simpa using hn
    have h1:doE t id k x3 x4 x5=EE:=by unfold doE;rw[hEEH.out,if_neg h0]
    exact ⟨h1,by unfold doT;rw[h1,if_neg h0]⟩
   go_wp2
   go_ret
   refine ⟨by rw[hfin.out.1];rfl,?_,Wr.of hR.out.2.2.2.1 hH.out.1.blk.lt⟩
   rw[hfin.out.2]
   exact hR.out.2.2.2.2.2.2.mono (fun b hb=>ag.old b hb) (cX hH.out.1.out hH.out.1.blk.lt) (eN fun b hb=>hR.out.2.2.2.2.2.2.up b hb)
  have h0:EE=0:=by simpa using hn
  subst h0
  clear hn
  have hlt0:=hH.out.1.blk.lt
  have n1:=(hR.out.2.2.2.1.cell (p:=⟨N,O+1,none⟩) hlt0).trans hH.out.2.2.2.1.k0
  have n2:=(hR.out.2.2.2.1.cell (p:=⟨N,O+2,none⟩) hlt0).trans hH.out.2.2.2.1.k1
  have n3:=(hR.out.2.2.2.1.cell (p:=⟨N,O+3,none⟩) hlt0).trans hH.out.2.2.2.1.k2
  have n4:=(hR.out.2.2.2.1.cell (p:=⟨N,O+4,none⟩) hlt0).trans hH.out.2.2.2.1.k3
  have n5:=(hR.out.2.2.2.1.cell (p:=⟨N,O+5,none⟩) hlt0).trans hH.out.2.2.2.1.k4
  have n6:=(hR.out.2.2.2.1.cell (p:=⟨N,O+6,none⟩) hlt0).trans hH.out.2.2.2.1.k5
  have n7:=(hR.out.2.2.2.1.cell (p:=⟨N,O+7,none⟩) hlt0).trans hH.out.2.2.2.2.1.k0
  have n8:=(hR.out.2.2.2.1.cell (p:=⟨N,O+8,none⟩) hlt0).trans hH.out.2.2.2.2.1.k1
  have n9:=(hR.out.2.2.2.1.cell (p:=⟨N,O+9,none⟩) hlt0).trans hH.out.2.2.2.2.1.k2
  have n10:=(hR.out.2.2.2.1.cell (p:=⟨N,O+10,none⟩) hlt0).trans hH.out.2.2.2.2.1.k3
  have n11:=(hR.out.2.2.2.1.cell (p:=⟨N,O+11,none⟩) hlt0).trans hH.out.2.2.2.2.1.k4
  have n12:=(hR.out.2.2.2.1.cell (p:=⟨N,O+12,none⟩) hlt0).trans hH.out.2.2.2.2.1.k5
  go_upto_region 7 with fail
  obtain ⟨w5,hw5⟩:∃W,wz.alloc (.cells #[V I s.c.c0,V I s.c.c1,V I s.c.c2,V I s.c.c3,J A s.c.l.length ca,J C s.e.length cc,V I t.c.c0,V I t.c.c1,V I t.c.c2,V I t.c.c3,J B t.c.l.length cb,J D t.e.length cd] 64)=W:=⟨_,rfl⟩
  rw[hw5]
  have hg5:Gr wz w5:=by rw[←hw5];exact (gR _).alloc _
  have h5:Hid (Cls w5 wz.heap.size (T2 s A ca C cc t B cb D cd)∧Cls w5 Bm (T6 u UA uca UC ucc)∧TbW w1.heap.size w5 u UA uca UC ucc∧Below w.heap.size w w5∧Cls w5 w.heap.size [V I k,V I 1,V I x3,V I x4,V I x5]∧Nd w5 N O P id s t qs∧TbP P w5 s A ca C cc∧TbP P w5 t B cb D cd∧Gr wz w5):=by
   have hb5:=hR.out.2.2.2.1.trans (hg5.below.mono hR.out.2.2.2.1.size)
   exact ⟨by rw[←hw5];exact Cls.new wz _ _,hR.out.2.1.gr hg5,hR.out.2.2.1.below hg5.below,hb5,hR.out.2.2.2.2.2.1.gr hg5,hR.out.2.2.2.2.2.2.below hg5.below,hH.out.2.1.below hb5,hH.out.2.2.1.below hb5,hg5⟩
  clear hw5 hg5 n1 n2 n3 n4 n5 n6 n7 n8 n9 n10 n11 n12 hlt0
  have b1:=h5.out.2.2.2.2.1.cell (j:=1) rfl
  obtain ⟨a6,a7,a8,a9,a10,a11⟩:=yj h5.out.1
  obtain ⟨c0,c1,c2,c3,c4,c5⟩:=fQ h5.out.2.1
  obtain ⟨ME,hME⟩:∃E,ak t u=E:=⟨_,rfl⟩
  obtain ⟨MT,hMT⟩:∃E,ac t u=E:=⟨_,rfl⟩
  have hMH:Hid (ak t u=ME∧ac t u=MT):=⟨hME,hMT⟩
  have hM:Hid (∀W,Gr w5 W→Calls Tryz.prog 48 #[Z (T6 t B cb D cd).toArray,Z (T6 u UA uca UC ucc).toArray] W fun e w'=>∃E ce F cf,e= .returned (Y #[Z (T6 MT E ce F cf).toArray,V I ME])∧TbW W.heap.size w' MT E ce F cf∧Below W.heap.size W w'):=fun W hg=>by
   have hl:u.c.l.length≤maxLen∧u.e.length≤maxLen:=by rw[hR.out.1];exact rA _ _ _ _ _ _
   have hr5:TbP P w5 t B cb D cd:=h5.out.2.2.2.2.2.2.2.1
   have hm:=ij t u B UA D UC cb uca cd ucc W hr5.len.1 hl.1 hr5.len.2 hl.2 hr5.nr h5.out.2.2.1.nr (hr5.row.gr hg) (h5.out.2.2.1.row.gr hg) (hr5.cel.gr hg) (h5.out.2.2.1.cel.gr hg)
   rw[hME,hMT] at hm
   refine hm.mono ?_
   rintro e w' ⟨E,ce,F,cf,rfl,f1,f2,f3,f4,f5,f6,f7⟩
   exact ⟨E,ce,F,cf,rfl,⟨f1,f2,f3,f4,f5,f6⟩,f7⟩
  clear hME hMT
  go_cut [6] from 16 (fun v6 wx=>v6= V I ME∧∃(ME1:Option Addr) (mce:Nat) (MF1:Option Addr) (mcf:Nat),Hid (Cls wx wz.heap.size (T2 s A ca C cc MT ME1 mce MF1 mcf)∧TbW w5.heap.size wx MT ME1 mce MF1 mcf∧Below wz.heap.size wz wx))
  case first =>
   go_region_with (go_at_call 48;refine cM (hM.out _ (gR w5).drew) ?_;rintro e w6 ⟨ME1,mce,MF1,mcf,rfl,f1,f2⟩;have hF:Hid (TbW w5.heap.size w6 MT ME1 mce MF1 mcf∧Below w5.heap.size w5 w6):=⟨f1,(gR w5).drew.below.trans f2⟩;clear f1 f2;have e1:=(h5.out.2.2.2.2.1.below hF.out.2).cell (j:=1) rfl;have p6:=(h5.out.1.below hF.out.2).cell (j:=6) rfl;have z6:=(h5.out.1.below hF.out.2).fz 6;have p7:=(h5.out.1.below hF.out.2).cell (j:=7) rfl;have z7:=(h5.out.1.below hF.out.2).fz 7;have p8:=(h5.out.1.below hF.out.2).cell (j:=8) rfl;have z8:=(h5.out.1.below hF.out.2).fz 8;have p9:=(h5.out.1.below hF.out.2).cell (j:=9) rfl;have z9:=(h5.out.1.below hF.out.2).fz 9;have p10:=(h5.out.1.below hF.out.2).cell (j:=10) rfl;have z10:=(h5.out.1.below hF.out.2).fz 10;have p11:=(h5.out.1.below hF.out.2).cell (j:=11) rfl;have z11:=(h5.out.1.below hF.out.2).fz 11)
   all_goals
    have hfin:Hid (Cls ((((((w6.setCell ⟨wz.heap.size,6,none⟩ (V I MT.c.c0)).setCell ⟨wz.heap.size,7,none⟩ (V I MT.c.c1)).setCell ⟨wz.heap.size,8,none⟩ (V I MT.c.c2)).setCell ⟨wz.heap.size,9,none⟩ (V I MT.c.c3)).setCell ⟨wz.heap.size,10,none⟩ (J ME1 MT.c.l.length mce)).setCell ⟨wz.heap.size,11,none⟩ (J MF1 MT.e.length mcf)) wz.heap.size [V I s.c.c0,V I s.c.c1,V I s.c.c2,V I s.c.c3,J A s.c.l.length ca,J C s.e.length cc,V I MT.c.c0,V I MT.c.c1,V I MT.c.c2,V I MT.c.c3,J ME1 MT.c.l.length mce,J MF1 MT.e.length mcf]∧TbW w5.heap.size ((((((w6.setCell ⟨wz.heap.size,6,none⟩ (V I MT.c.c0)).setCell ⟨wz.heap.size,7,none⟩ (V I MT.c.c1)).setCell ⟨wz.heap.size,8,none⟩ (V I MT.c.c2)).setCell ⟨wz.heap.size,9,none⟩ (V I MT.c.c3)).setCell ⟨wz.heap.size,10,none⟩ (J ME1 MT.c.l.length mce)).setCell ⟨wz.heap.size,11,none⟩ (J MF1 MT.e.length mcf)) MT ME1 mce MF1 mcf∧Below wz.heap.size wz ((((((w6.setCell ⟨wz.heap.size,6,none⟩ (V I MT.c.c0)).setCell ⟨wz.heap.size,7,none⟩ (V I MT.c.c1)).setCell ⟨wz.heap.size,8,none⟩ (V I MT.c.c2)).setCell ⟨wz.heap.size,9,none⟩ (V I MT.c.c3)).setCell ⟨wz.heap.size,10,none⟩ (J ME1 MT.c.l.length mce)).setCell ⟨wz.heap.size,11,none⟩ (J MF1 MT.e.length mcf))):=by
     have hg5:=h5.out.2.2.2.2.2.2.2.2
     have hlt5:=h5.out.1.lt
     have hb6:Below wz.heap.size wz w6:=hg5.below.trans (hF.out.2.mono hg5.size)
     exact ⟨((((((h5.out.1.below hF.out.2).put 6 _).put 7 _).put 8 _).put 9 _).put 10 _).put 11 _,hF.out.1.agr ((((((aS _ fun h=>by omega).trans (aS _ fun h=>by omega)).trans (aS _ fun h=>by omega)).trans (aS _ fun h=>by omega)).trans (aS _ fun h=>by omega)).trans (aS _ fun h=>by omega)),((((((hb6.setCell (nR _) _).setCell (nR _) _).setCell (nR _) _).setCell (nR _) _).setCell (nR _) _).setCell (nR _) _)⟩
    clear hF hM
    go_wp2_with fail
    go_meet
    case rel=>exact ⟨rfl,ME1,mce,MF1,mcf,hfin⟩
  case rest =>
   obtain ⟨rfl,ME1,mce,MF1,mcf,hQ⟩:=hcut
   clear hM b1 a6 a7 a8 a9 a10 a11 c0 c1 c2 c3 c4 c5
   obtain ⟨q0,q1,q2,q3,q4,q5,q6,q7,q8,q9,q10,q11⟩:=gl hQ.out.1
   have hbw:Hid (Below w.heap.size w wc∧Nd wc N O P id s t qs∧TbP P wc s A ca C cc∧TbP P wc t B cb D cd):=by
    have hbz:=hR.out.2.2.2.1
    have hb:=hbz.trans (hQ.out.2.2.mono hbz.size)
    exact ⟨hb,hH.out.1.below hb,hH.out.2.1.below hb,hH.out.2.2.1.below hb⟩
   cases hn:(ME != 0)
   rotate_left
   focus
    have hfin:Hid (doE t id k x3 x4 x5=ME∧doT t id k x3 x4 x5=t):=by
     have h0:¬ME=0:=by simpa using hn
     have h1:doE t id k x3 x4 x5=ME:=by unfold doE;rw[if_pos hEEH.out,←hR.out.1];exact hMH.out.1
     exact ⟨h1,by unfold doT;rw[h1,if_neg h0]⟩
    go_wp2
    go_ret
    refine ⟨by rw[hfin.out.1];rfl,?_,Wr.of hbw.out.1 hH.out.1.blk.lt⟩
    rw[hfin.out.2]
    exact hbw.out.2.1.mono (fun b hb=>ag.old b hb) (cX hH.out.1.out hH.out.1.blk.lt) (eN fun b hb=>hbw.out.2.1.up b hb)
   have h0:ME=0:=by simpa using hn
   have hfin:Hid (doE t id k x3 x4 x5=0∧doT t id k x3 x4 x5=MT∧am MT=0):=by
    have h1:doE t id k x3 x4 x5=0:=by unfold doE;rw[if_pos hEEH.out,←hR.out.1,hMH.out.1];exact h0
    exact ⟨h1,by unfold doT;rw[h1,if_pos rfl,←hR.out.1];exact hMH.out.2,by rw[←hMH.out.2];exact cP (by rw[hMH.out.1];exact h0)⟩
   subst h0
   clear hn
   have hBc:Hid (Calls Tryz.prog 49 #[H (some ⟨N,O,none⟩),Z (T2 s A ca C cc MT ME1 mce MF1 mcf).toArray] wc fun e w'=>e= .returned (Y #[])∧Nd w' N O (ag P w.heap.size w'.heap.size) id s MT qs∧Wr N (O+1) (O+37) wc w') :=
    have hMP:TbP (ag P w.heap.size wc.heap.size) wc MT ME1 mce MF1 mcf:=(hQ.out.2.1.p hfin.out.2.2).mono fun b hb=>ag.new (nT hR.out.2.2.2.1.size h5.out.2.2.2.2.2.2.2.2.size) (nR _) b hb
    iG hbw.out.2.1 hH.out.1.blk.lt hbw.out.1.size (hbw.out.2.2.1.mono fun b hb=>ag.old b hb) hMP
   go_wp2_with fail
   refine cM (show Calls _ _ _ _ _ from hBc.out) ?_
   rintro e w8 ⟨rfl,f1,f2⟩
   have hfin2:Hid (Nd w8 N O (ag P w.heap.size w8.heap.size) id s MT qs∧Wr N (O+1) (O+37) w w8):=⟨f1,(Wr.of hbw.out.1 hH.out.1.blk.lt).trans f2⟩
   clear f1 f2 hBc
   go_wp2
   go_ret
   refine ⟨by rw[hfin.out.1];rfl,?_,hfin2.out.2⟩
   rw[hfin.out.2.1]
   exact hfin2.out.1
end Go.Proofs.YtkefkplnamkicabGreatDoor
