import Derived.Test.YtkefkplnamkicabGreatDoorM25
set_option maxRecDepth 100000
set_option maxHeartbeats 8000000
open Go.Ending renaming returned → H
open Go.IntKind renaming i64 → I
open Go.Obj renaming cells → Y
open Go.Proofs.Tryz renaming prog → Z
open Go.Value renaming int → V, slice → J, agg → X
namespace Go.Proofs.YtkefkplnamkicabGreatDoor
open Go.RowKit Go.Sort

theorem cS {w w':World} {base:Nat} {e:TypeId} {k:Nat} {v:Value} {n:Nat} {l:List Value} (h:w.ownsRow base e k v n l) (hA:Agr (fun b=>base≤b) w w'):w'.ownsRow base e k v n l:=by
 refine ⟨h.1,?_⟩
 rcases h.2 with h1|⟨g,cap,cur,hv,hb,hc,rest⟩
 ·exact oL h1
 ·exact oR ⟨g,cap,cur,hv,hb,(hA.block g hb (Array.getElem?_eq_some_iff.1 hc).1).trans hc,rest⟩
theorem jW {w:World} {N O:Nat} {P:Nat→Prop} {id:Int} {s t:Tab} {qs:List (List Stp)} (h:Nd w N O P id s t qs) :
  Calls Z 26 #[.pointer (some ⟨N,O,none⟩)] w fun e w'=>∃(EA:Option Addr) (eca:Nat) (EC:Option Addr) (ecc:Nat) (EB:Option Addr) (ecb:Nat) (ED:Option Addr) (ecd:Nat),e= H (X (T2 s EA eca EC ecc t EB ecb ED ecd).toArray)∧(Own w' w.heap.size (J EA s.c.l.length eca) s.c.l∧dv w' w.heap.size (J EC s.e.length ecc) s.e)∧(Own w' w.heap.size (J EB t.c.l.length ecb) t.c.l∧dv w' w.heap.size (J ED t.e.length ecd) t.e)∧Below w.heap.size w w':=by
 have mixed:Tryz.prog.follows .mixedOrders=true:=by kernel_rfl
 obtain ⟨A,ca,C,cc,hcs,hts⟩:=h.ts
 obtain ⟨B,cb,D,cd,hct,htt⟩:=h.tt
 have hx0:=oU (V I s.c.c0) (V I s.c.c1) (V I s.c.c2) (V I s.c.c3) (J A s.c.l.length ca) (J C s.e.length cc) (V I t.c.c0) (V I t.c.c1) (V I t.c.c2) (V I t.c.c3) (J B t.c.l.length cb) (J D t.e.length cd)
 have hx1:=rH (V I s.c.c0) (V I s.c.c1) (V I s.c.c2) (V I s.c.c3) (J A s.c.l.length ca) (J C s.e.length cc) (V I t.c.c0) (V I t.c.c1) (V I t.c.c2) (V I t.c.c3) (J B t.c.l.length cb) (J D t.e.length cd)
 have n1:=hcs.k0
 have n2:=hcs.k1
 have n3:=hcs.k2
 have n4:=hcs.k3
 have n5:=hcs.k4
 have n6:=hcs.k5
 have n7:=hct.k0
 have n8:=hct.k1
 have n9:=hct.k2
 have n10:=hct.k3
 have n11:=hct.k4
 have n12:=hct.k5
 have hH:Hid (TbP P w s A ca C cc∧TbP P w t B cb D cd∧True):=⟨hts,htt,trivial⟩
 have hltN:N<w.heap.size:=h.blk.lt
 have hltM:N<w.heap.size+1:=by omega
 clear h hts htt hcs hct
 go_enter Tryz.func26,Tryz.ntmps26
 go_wp2
 obtain ⟨w1,hw1⟩:∃W,(w.alloc (Y #[V I 0,V I 0,V I 0,V I 0,J none 0 0,J none 0 0,V I 0,V I 0,V I 0,V I 0,J none 0 0,J none 0 0] 66)).alloc (Y #[V I 0,V I 0,V I 0,V I 0,J none 0 0,J none 0 0,V I 0,V I 0,V I 0,V I 0,J none 0 0,J none 0 0] 66)=W:=⟨_,rfl⟩
 rw[hw1]
 have hI:Hid (Below w.heap.size w w1∧Cls w1 (w.heap.size+1) Z2∧Cls w1 w.heap.size Z2):=by
  refine ⟨by rw[←hw1];exact (((gR w).alloc _).alloc _).below,?_,by rw[←hw1];exact (Cls.new w _ _).gr ((gR _).alloc _)⟩
  have:=Cls.new (w.alloc (Y #[V I 0,V I 0,V I 0,V I 0,J none 0 0,J none 0 0,V I 0,V I 0,V I 0,V I 0,J none 0 0,J none 0 0] 66)) #[V I 0,V I 0,V I 0,V I 0,J none 0 0,J none 0 0,V I 0,V I 0,V I 0,V I 0,J none 0 0,J none 0 0] 66
  rw[hw1,show (w.alloc (Y #[V I 0,V I 0,V I 0,V I 0,J none 0 0,J none 0 0,V I 0,V I 0,V I 0,V I 0,J none 0 0,J none 0 0] 66)).heap.size=w.heap.size+1 by simp] at this
  exact this
 clear hw1 n1 n2 n3 n4 n5 n6 n7 n8 n9 n10 n11 n12
 refine wp_loop_rounds 3 ?_
 rw[rounds_succ]
 go_upto_region 5 with fail
 obtain ⟨wb0,hwb⟩:∃W,w1.alloc (Y #[V I s.c.c0,V I s.c.c1,V I s.c.c2,V I s.c.c3,J A s.c.l.length ca,J C s.e.length cc] 42)=W:=⟨_,rfl⟩
 rw[hwb]
 have hA:Hid (Gr w1 wb0∧Below w.heap.size w wb0∧Cls wb0 w1.heap.size (T6 s A ca C cc)∧Cls wb0 (w.heap.size+1) Z2∧Cls wb0 w.heap.size Z2∧w.heap.size+1<w1.heap.size∧w1.heap.size<wb0.heap.size):=by
  have hg:Gr w1 wb0:=by rw[←hwb];exact (gR _).alloc _
  exact ⟨hg,hI.out.1.trans (hg.below.mono hI.out.1.size),by rw[←hwb];exact Cls.new w1 _ _,hI.out.2.1.gr hg,hI.out.2.2.gr hg,hI.out.2.1.lt,by rw[←hwb];simp⟩
 clear hwb
 have hD0:Hid (Below wb0.heap.size wb0 wb0.drew):=(gR wb0).drew.below
 have hCc:Hid (∀W,Below wb0.heap.size wb0 W→Calls Z 40 #[X #[V I s.c.c0,V I s.c.c1,V I s.c.c2,V I s.c.c3,J A s.c.l.length ca]] W fun e w'=>∃B cb,e= H (X #[V I s.c.c0,V I s.c.c1,V I s.c.c2,V I s.c.c3,J B s.c.l.length cb])∧Own w' W.heap.size (J B s.c.l.length cb) s.c.l∧Below W.heap.size W w'):=fun W hW=>by
  have hb:=hA.out.2.1.trans (hW.mono hA.out.2.1.size)
  have hr:=hH.out.1.below hb
  exact fg s.c A ca W (bE (af hr.ok).1).2.1 hr.row hr.nr
 have hCl:Hid (∀W,Below wb0.heap.size wb0 W→Calls Z 41 #[J C s.e.length cc] W fun e w'=>∃C c,e= H (J C s.e.length c)∧dv w' W.heap.size (J C s.e.length c) s.e∧Below W.heap.size W w'):=fun W hW=>by
  have hb:=hA.out.2.1.trans (hW.mono hA.out.2.1.size)
  have hr:=hH.out.1.below hb
  have:=(af hr.ok).2.1
  exact kO s.e C cc W (by omega) hr.cel hr.nc
 have hKc:Hid (∀W,Cls W w1.heap.size (T6 s A ca C cc)→(fun w'=>w'.cell? ⟨w1.heap.size,0,none⟩=some (V I s.c.c0)∧w'.cell? ⟨w1.heap.size,1,none⟩=some (V I s.c.c1)∧w'.cell? ⟨w1.heap.size,2,none⟩=some (V I s.c.c2)∧w'.cell? ⟨w1.heap.size,3,none⟩=some (V I s.c.c3)∧w'.cell? ⟨w1.heap.size,4,none⟩=some (J A s.c.l.length ca)∧w'.cell? ⟨w1.heap.size,5,none⟩=some (J C s.e.length cc)) W):=fun W hW=>⟨hW.cell (j:=0) rfl,hW.cell (j:=1) rfl,hW.cell (j:=2) rfl,hW.cell (j:=3) rfl,hW.cell (j:=4) rfl,hW.cell (j:=5) rfl⟩
 have hne:Hid (w1.heap.size≠w.heap.size+1):=by have:=hA.out.2.2.2.2.2.1;show _≠_;omega
 refine wp_region_noPanic ?_
 refine wp_region_held_drew (S:=(fun w'=>w'.cell? ⟨w1.heap.size,0,none⟩=some (V I s.c.c0)∧w'.cell? ⟨w1.heap.size,1,none⟩=some (V I s.c.c1)∧w'.cell? ⟨w1.heap.size,2,none⟩=some (V I s.c.c2)∧w'.cell? ⟨w1.heap.size,3,none⟩=some (V I s.c.c3)∧w'.cell? ⟨w1.heap.size,4,none⟩=some (J A s.c.l.length ca)∧w'.cell? ⟨w1.heap.size,5,none⟩=some (J C s.e.length cc))) (by kernel_rfl) (hKc.out _ (hA.out.2.2.1.below hD0.out)) (fun hHeld=> ?_)
 refine tks [0,1,2,4,5,8] (by assumption) ?_
 iterate 6 (refine tk (v:= ?_) (by rfl) (by kernel_rfl) ?_ ?_;rotate_left;· (refine oL ⟨by rfl,?_⟩;intro w hSw;(try dsimp only at hSw);go_simp<;>with_reducible rfl);try simp only[Act.put,yA,aE,yS])
 refine tk0 ?_
 refine rdy 3 (by kernel_rfl) (by rfl) fun K hK=> ?_
 go_simp
 (go_at_call 40;(with_reducible refine cM (hCc.out _ hD0.out) ?_);rintro e w2 ⟨EA,eca,rfl,f1,f2⟩;have hF:Hid (Below wb0.heap.size wb0 w2∧Own w2 wb0.heap.size (J EA s.c.l.length eca) s.c.l):=⟨hD0.out.trans (f2.mono hD0.out.size),f1⟩;clear f1 f2)
 first|(go_wp2_with fail)|skip
 refine hK.out _ _ ?_ (fun hHeld=> ?_)
 ·(try dsimp only);first|with_reducible exact hKc.out _ (hA.out.2.2.1.below hG.out.1)|with_reducible exact hKc.out _ (hA.out.2.2.1.below hF.out.1)|exact hKc.out _ (((((((hA.out.2.2.1.below hG.out.1).oth hne.out _).oth hne.out _).oth hne.out _).oth hne.out _).oth hne.out _).oth hne.out _)
 clear hK K
 try simp only[Act.put,yA,aE,yS]
 refine rdy 6 (by kernel_rfl) (by rfl) fun K hK=> ?_
 go_simp
 (go_at_call 41;(with_reducible refine cM (hCl.out _ hF.out.1) ?_);rintro e w3 ⟨EC,ecc,rfl,f1,f2⟩;have hG:Hid (Below wb0.heap.size wb0 w3∧Own w3 wb0.heap.size (J EA s.c.l.length eca) s.c.l∧dv w3 wb0.heap.size (J EC s.e.length ecc) s.e):=⟨hF.out.1.trans (f2.mono hF.out.1.size),hF.out.2.below f2,f1.mono hF.out.1.size⟩;clear f1 f2;have p0:=(hA.out.2.2.2.1.below hG.out.1).cell (j:=0) rfl;have z0:=(hA.out.2.2.2.1.below hG.out.1).fz 0;have p1:=(hA.out.2.2.2.1.below hG.out.1).cell (j:=1) rfl;have z1:=(hA.out.2.2.2.1.below hG.out.1).fz 1;have p2:=(hA.out.2.2.2.1.below hG.out.1).cell (j:=2) rfl;have z2:=(hA.out.2.2.2.1.below hG.out.1).fz 2;have p3:=(hA.out.2.2.2.1.below hG.out.1).cell (j:=3) rfl;have z3:=(hA.out.2.2.2.1.below hG.out.1).fz 3;have p4:=(hA.out.2.2.2.1.below hG.out.1).cell (j:=4) rfl;have z4:=(hA.out.2.2.2.1.below hG.out.1).fz 4;have p5:=(hA.out.2.2.2.1.below hG.out.1).cell (j:=5) rfl;have z5:=(hA.out.2.2.2.1.below hG.out.1).fz 5)
 first|(go_wp2_with fail)|skip
 refine hK.out _ _ ?_ (fun hHeld=> ?_)
 ·(try dsimp only);first|with_reducible exact hKc.out _ (hA.out.2.2.1.below hG.out.1)|with_reducible exact hKc.out _ (hA.out.2.2.1.below hF.out.1)|exact hKc.out _ (((((((hA.out.2.2.1.below hG.out.1).oth hne.out _).oth hne.out _).oth hne.out _).oth hne.out _).oth hne.out _).oth hne.out _)
 clear hK K
 try simp only[Act.put,yA,aE,yS]
 refine tks [7,9] (by assumption) ?_
 iterate 2 (refine tk (v:= ?_) (by rfl) (by kernel_rfl) ?_ ?_;rotate_left;· (refine oL ⟨by rfl,?_⟩;intro w hSw;(try dsimp only at hSw);go_simp<;>with_reducible rfl);try simp only[Act.put,yA,aE,yS])
 refine tk0 ?_
 refine rdy 10 (by kernel_rfl) (by rfl) fun K hK=> ?_
 go_simp
 refine hK.out _ _ ?_ (fun hHeld=> ?_)
 ·(try dsimp only);first|with_reducible exact hKc.out _ (hA.out.2.2.1.below hG.out.1)|with_reducible exact hKc.out _ (hA.out.2.2.1.below hF.out.1)|exact hKc.out _ (((((((hA.out.2.2.1.below hG.out.1).oth hne.out _).oth hne.out _).oth hne.out _).oth hne.out _).oth hne.out _).oth hne.out _)
 clear hK K
 try simp only[Act.put,yA,aE,yS]
 refine wpAnyH_done (by kernel_rfl) ?_ _
 refine NoPanic.normal ?_
 go_wp2_with fail
 obtain ⟨wd0,hwd⟩:∃W,((((((w3.setCell ⟨w.heap.size+1,0,none⟩ (V I s.c.c0)).setCell ⟨w.heap.size+1,1,none⟩ (V I s.c.c1)).setCell ⟨w.heap.size+1,2,none⟩ (V I s.c.c2)).setCell ⟨w.heap.size+1,3,none⟩ (V I s.c.c3)).setCell ⟨w.heap.size+1,4,none⟩ (J EA s.c.l.length eca)).setCell ⟨w.heap.size+1,5,none⟩ (J EC s.e.length ecc))=W:=⟨_,rfl⟩
 rw[hwd]
 have hJ:Hid (Below w.heap.size w wd0∧Cls wd0 (w.heap.size+1) [V I s.c.c0,V I s.c.c1,V I s.c.c2,V I s.c.c3,J EA s.c.l.length eca,J EC s.e.length ecc,V I 0,V I 0,V I 0,V I 0,J none 0 0,J none 0 0]∧Cls wd0 w.heap.size Z2∧Own wd0 wb0.heap.size (J EA s.c.l.length eca) s.c.l∧dv wd0 wb0.heap.size (J EC s.e.length ecc) s.e):=by
  have hs1:=hA.out.2.2.2.2.2.1
  have hs2:=hA.out.2.2.2.2.2.2
  have hb3:=hA.out.2.1.trans (hG.out.1.mono hA.out.2.1.size)
  have hge:w.heap.size≤w.heap.size+1:=by omega
  have hnw:w.heap.size≠w.heap.size+1:=by omega
  refine ⟨?_,?_,?_,?_,?_⟩
  ·rw[←hwd];exact (((((hb3.setCell hge _).setCell hge _).setCell hge _).setCell hge _).setCell hge _).setCell hge _
  ·rw[←hwd];exact ((((((hA.out.2.2.2.1.below hG.out.1).put 0 _).put 1 _).put 2 _).put 3 _).put 4 _).put 5 _
  ·rw[←hwd];exact ((((((hA.out.2.2.2.2.1.below hG.out.1).oth hnw _).oth hnw _).oth hnw _).oth hnw _).oth hnw _).oth hnw _
  ·rw[←hwd];exact cS hG.out.2.1 ((((((aS _ fun h=>by omega).trans (aS _ fun h=>by omega)).trans (aS _ fun h=>by omega)).trans (aS _ fun h=>by omega)).trans (aS _ fun h=>by omega)).trans (aS _ fun h=>by omega))
  ·rw[←hwd];exact cS hG.out.2.2 ((((((aS _ fun h=>by omega).trans (aS _ fun h=>by omega)).trans (aS _ fun h=>by omega)).trans (aS _ fun h=>by omega)).trans (aS _ fun h=>by omega)).trans (aS _ fun h=>by omega))
 clear hwd hG hF hCc hCl hKc hne hD0 hHeld p0 z0 p1 z1 p2 z2 p3 z3 p4 z4 p5 z5
 have hI0:Hid (Own wd0 wb0.heap.size (J EA s.c.l.length eca) s.c.l∧dv wd0 wb0.heap.size (J EC s.e.length ecc) s.e):=⟨hJ.out.2.2.2.1,hJ.out.2.2.2.2⟩
 have hs0H:Hid (w.heap.size+1<wb0.heap.size):=by have h1:=hA.out.2.2.2.2.2.1;have h2:=hA.out.2.2.2.2.2.2;show _<_;omega
 have hI2:Hid (Below w.heap.size w wd0∧Cls wd0 (w.heap.size+1) [V I s.c.c0,V I s.c.c1,V I s.c.c2,V I s.c.c3,J EA s.c.l.length eca,J EC s.e.length ecc,V I 0,V I 0,V I 0,V I 0,J none 0 0,J none 0 0]∧Cls wd0 w.heap.size Z2):=⟨hJ.out.1,hJ.out.2.1,hJ.out.2.2.1⟩
 clear hA hI hJ
 have hI:=hI2
 clear hI2
 rw[rounds_succ]
 go_upto_region 5 with fail
 obtain ⟨wb1,hwb⟩:∃W,wd0.alloc (Y #[V I t.c.c0,V I t.c.c1,V I t.c.c2,V I t.c.c3,J B t.c.l.length cb,J D t.e.length cd] 42)=W:=⟨_,rfl⟩
 rw[hwb]
 have hA:Hid (Gr wd0 wb1∧Below w.heap.size w wb1∧Cls wb1 wd0.heap.size (T6 t B cb D cd)∧Cls wb1 (w.heap.size+1) [V I s.c.c0,V I s.c.c1,V I s.c.c2,V I s.c.c3,J EA s.c.l.length eca,J EC s.e.length ecc,V I 0,V I 0,V I 0,V I 0,J none 0 0,J none 0 0]∧Cls wb1 w.heap.size Z2∧w.heap.size+1<wd0.heap.size∧wd0.heap.size<wb1.heap.size):=by
  have hg:Gr wd0 wb1:=by rw[←hwb];exact (gR _).alloc _
  exact ⟨hg,hI.out.1.trans (hg.below.mono hI.out.1.size),by rw[←hwb];exact Cls.new wd0 _ _,hI.out.2.1.gr hg,hI.out.2.2.gr hg,hI.out.2.1.lt,by rw[←hwb];simp⟩
 clear hwb
 have hD0:Hid (Below wb1.heap.size wb1 wb1.drew):=(gR wb1).drew.below
 have hCc:Hid (∀W,Below wb1.heap.size wb1 W→Calls Z 40 #[X #[V I t.c.c0,V I t.c.c1,V I t.c.c2,V I t.c.c3,J B t.c.l.length cb]] W fun e w'=>∃B cb,e= H (X #[V I t.c.c0,V I t.c.c1,V I t.c.c2,V I t.c.c3,J B t.c.l.length cb])∧Own w' W.heap.size (J B t.c.l.length cb) t.c.l∧Below W.heap.size W w'):=fun W hW=>by
  have hb:=hA.out.2.1.trans (hW.mono hA.out.2.1.size)
  have hr:=hH.out.2.1.below hb
  exact fg t.c B cb W (bE (af hr.ok).1).2.1 hr.row hr.nr
 have hCl:Hid (∀W,Below wb1.heap.size wb1 W→Calls Z 41 #[J D t.e.length cd] W fun e w'=>∃C c,e= H (J C t.e.length c)∧dv w' W.heap.size (J C t.e.length c) t.e∧Below W.heap.size W w'):=fun W hW=>by
  have hb:=hA.out.2.1.trans (hW.mono hA.out.2.1.size)
  have hr:=hH.out.2.1.below hb
  have:=(af hr.ok).2.1
  exact kO t.e D cd W (by omega) hr.cel hr.nc
 have hKc:Hid (∀W,Cls W wd0.heap.size (T6 t B cb D cd)→(fun w'=>w'.cell? ⟨wd0.heap.size,0,none⟩=some (V I t.c.c0)∧w'.cell? ⟨wd0.heap.size,1,none⟩=some (V I t.c.c1)∧w'.cell? ⟨wd0.heap.size,2,none⟩=some (V I t.c.c2)∧w'.cell? ⟨wd0.heap.size,3,none⟩=some (V I t.c.c3)∧w'.cell? ⟨wd0.heap.size,4,none⟩=some (J B t.c.l.length cb)∧w'.cell? ⟨wd0.heap.size,5,none⟩=some (J D t.e.length cd)) W):=fun W hW=>⟨hW.cell (j:=0) rfl,hW.cell (j:=1) rfl,hW.cell (j:=2) rfl,hW.cell (j:=3) rfl,hW.cell (j:=4) rfl,hW.cell (j:=5) rfl⟩
 have hne:Hid (wd0.heap.size≠w.heap.size+1):=by have:=hA.out.2.2.2.2.2.1;show _≠_;omega
 refine wp_region_noPanic ?_
 refine wp_region_held_drew (S:=(fun w'=>w'.cell? ⟨wd0.heap.size,0,none⟩=some (V I t.c.c0)∧w'.cell? ⟨wd0.heap.size,1,none⟩=some (V I t.c.c1)∧w'.cell? ⟨wd0.heap.size,2,none⟩=some (V I t.c.c2)∧w'.cell? ⟨wd0.heap.size,3,none⟩=some (V I t.c.c3)∧w'.cell? ⟨wd0.heap.size,4,none⟩=some (J B t.c.l.length cb)∧w'.cell? ⟨wd0.heap.size,5,none⟩=some (J D t.e.length cd))) (by kernel_rfl) (hKc.out _ (hA.out.2.2.1.below hD0.out)) (fun hHeld=> ?_)
 refine tks [0,1,2,4,5,8] (by assumption) ?_
 iterate 6 (refine tk (v:= ?_) (by rfl) (by kernel_rfl) ?_ ?_;rotate_left;· (refine oL ⟨by rfl,?_⟩;intro w hSw;(try dsimp only at hSw);go_simp<;>with_reducible rfl);try simp only[Act.put,yA,aE,yS])
 refine tk0 ?_
 refine rdy 3 (by kernel_rfl) (by rfl) fun K hK=> ?_
 go_simp
 (go_at_call 40;(with_reducible refine cM (hCc.out _ hD0.out) ?_);rintro e w2 ⟨EB,ecb,rfl,f1,f2⟩;have hF:Hid (Below wb1.heap.size wb1 w2∧Own w2 wb1.heap.size (J EB t.c.l.length ecb) t.c.l):=⟨hD0.out.trans (f2.mono hD0.out.size),f1⟩;clear f1 f2)
 first|(go_wp2_with fail)|skip
 refine hK.out _ _ ?_ (fun hHeld=> ?_)
 ·(try dsimp only);first|with_reducible exact hKc.out _ (hA.out.2.2.1.below hG.out.1)|with_reducible exact hKc.out _ (hA.out.2.2.1.below hF.out.1)|exact hKc.out _ (((((((hA.out.2.2.1.below hG.out.1).oth hne.out _).oth hne.out _).oth hne.out _).oth hne.out _).oth hne.out _).oth hne.out _)
 clear hK K
 try simp only[Act.put,yA,aE,yS]
 refine rdy 6 (by kernel_rfl) (by rfl) fun K hK=> ?_
 go_simp
 (go_at_call 41;(with_reducible refine cM (hCl.out _ hF.out.1) ?_);rintro e w3 ⟨ED,ecd,rfl,f1,f2⟩;have hG:Hid (Below wb1.heap.size wb1 w3∧Own w3 wb1.heap.size (J EB t.c.l.length ecb) t.c.l∧dv w3 wb1.heap.size (J ED t.e.length ecd) t.e):=⟨hF.out.1.trans (f2.mono hF.out.1.size),hF.out.2.below f2,f1.mono hF.out.1.size⟩;clear f1 f2;have p6:=(hA.out.2.2.2.1.below hG.out.1).cell (j:=6) rfl;have z6:=(hA.out.2.2.2.1.below hG.out.1).fz 6;have p7:=(hA.out.2.2.2.1.below hG.out.1).cell (j:=7) rfl;have z7:=(hA.out.2.2.2.1.below hG.out.1).fz 7;have p8:=(hA.out.2.2.2.1.below hG.out.1).cell (j:=8) rfl;have z8:=(hA.out.2.2.2.1.below hG.out.1).fz 8;have p9:=(hA.out.2.2.2.1.below hG.out.1).cell (j:=9) rfl;have z9:=(hA.out.2.2.2.1.below hG.out.1).fz 9;have p10:=(hA.out.2.2.2.1.below hG.out.1).cell (j:=10) rfl;have z10:=(hA.out.2.2.2.1.below hG.out.1).fz 10;have p11:=(hA.out.2.2.2.1.below hG.out.1).cell (j:=11) rfl;have z11:=(hA.out.2.2.2.1.below hG.out.1).fz 11)
 first|(go_wp2_with fail)|skip
 refine hK.out _ _ ?_ (fun hHeld=> ?_)
 ·(try dsimp only);first|with_reducible exact hKc.out _ (hA.out.2.2.1.below hG.out.1)|with_reducible exact hKc.out _ (hA.out.2.2.1.below hF.out.1)|exact hKc.out _ (((((((hA.out.2.2.1.below hG.out.1).oth hne.out _).oth hne.out _).oth hne.out _).oth hne.out _).oth hne.out _).oth hne.out _)
 clear hK K
 try simp only[Act.put,yA,aE,yS]
 refine tks [7,9] (by assumption) ?_
 iterate 2 (refine tk (v:= ?_) (by rfl) (by kernel_rfl) ?_ ?_;rotate_left;· (refine oL ⟨by rfl,?_⟩;intro w hSw;(try dsimp only at hSw);go_simp<;>with_reducible rfl);try simp only[Act.put,yA,aE,yS])
 refine tk0 ?_
 refine rdy 10 (by kernel_rfl) (by rfl) fun K hK=> ?_
 go_simp
 refine hK.out _ _ ?_ (fun hHeld=> ?_)
 ·(try dsimp only);first|with_reducible exact hKc.out _ (hA.out.2.2.1.below hG.out.1)|with_reducible exact hKc.out _ (hA.out.2.2.1.below hF.out.1)|exact hKc.out _ (((((((hA.out.2.2.1.below hG.out.1).oth hne.out _).oth hne.out _).oth hne.out _).oth hne.out _).oth hne.out _).oth hne.out _)
 clear hK K
 try simp only[Act.put,yA,aE,yS]
 refine wpAnyH_done (by kernel_rfl) ?_ _
 refine NoPanic.normal ?_
 go_wp2_with fail
 obtain ⟨wd1,hwd⟩:∃W,((((((w3.setCell ⟨w.heap.size+1,6,none⟩ (V I t.c.c0)).setCell ⟨w.heap.size+1,7,none⟩ (V I t.c.c1)).setCell ⟨w.heap.size+1,8,none⟩ (V I t.c.c2)).setCell ⟨w.heap.size+1,9,none⟩ (V I t.c.c3)).setCell ⟨w.heap.size+1,10,none⟩ (J EB t.c.l.length ecb)).setCell ⟨w.heap.size+1,11,none⟩ (J ED t.e.length ecd))=W:=⟨_,rfl⟩
 rw[hwd]
 have hJ:Hid (Below w.heap.size w wd1∧Cls wd1 (w.heap.size+1) (T2 s EA eca EC ecc t EB ecb ED ecd)∧Cls wd1 w.heap.size Z2∧Own wd1 wb1.heap.size (J EB t.c.l.length ecb) t.c.l∧dv wd1 wb1.heap.size (J ED t.e.length ecd) t.e∧Own wd1 wb0.heap.size (J EA s.c.l.length eca) s.c.l∧dv wd1 wb0.heap.size (J EC s.e.length ecc) s.e):=by
  have hs1:=hA.out.2.2.2.2.2.1
  have hs2:=hA.out.2.2.2.2.2.2
  have hb3:=hA.out.2.1.trans (hG.out.1.mono hA.out.2.1.size)
  have hge:w.heap.size≤w.heap.size+1:=by omega
  have hnw:w.heap.size≠w.heap.size+1:=by omega
  refine ⟨?_,?_,?_,?_,?_,?_,?_⟩
  ·rw[←hwd];exact (((((hb3.setCell hge _).setCell hge _).setCell hge _).setCell hge _).setCell hge _).setCell hge _
  ·rw[←hwd];exact ((((((hA.out.2.2.2.1.below hG.out.1).put 6 _).put 7 _).put 8 _).put 9 _).put 10 _).put 11 _
  ·rw[←hwd];exact ((((((hA.out.2.2.2.2.1.below hG.out.1).oth hnw _).oth hnw _).oth hnw _).oth hnw _).oth hnw _).oth hnw _
  ·rw[←hwd];exact cS hG.out.2.1 ((((((aS _ fun h=>by omega).trans (aS _ fun h=>by omega)).trans (aS _ fun h=>by omega)).trans (aS _ fun h=>by omega)).trans (aS _ fun h=>by omega)).trans (aS _ fun h=>by omega))
  ·rw[←hwd];exact cS hG.out.2.2 ((((((aS _ fun h=>by omega).trans (aS _ fun h=>by omega)).trans (aS _ fun h=>by omega)).trans (aS _ fun h=>by omega)).trans (aS _ fun h=>by omega)).trans (aS _ fun h=>by omega))
  ·have hbx:Below wd0.heap.size wd0 w3:=hA.out.1.below.trans (hG.out.1.mono hA.out.1.size)
   have hs00:=hs0H.out
   rw[←hwd];exact cS (hI0.out.1.below hbx) ((((((aS _ fun h=>by omega).trans (aS _ fun h=>by omega)).trans (aS _ fun h=>by omega)).trans (aS _ fun h=>by omega)).trans (aS _ fun h=>by omega)).trans (aS _ fun h=>by omega))
  ·have hbx:Below wd0.heap.size wd0 w3:=hA.out.1.below.trans (hG.out.1.mono hA.out.1.size)
   have hs00:=hs0H.out
   rw[←hwd];exact cS (ai.below hI0.out.2 hbx) ((((((aS _ fun h=>by omega).trans (aS _ fun h=>by omega)).trans (aS _ fun h=>by omega)).trans (aS _ fun h=>by omega)).trans (aS _ fun h=>by omega)).trans (aS _ fun h=>by omega))
 clear hwd hG hF hCc hCl hKc hne hD0 hHeld p6 z6 p7 z7 p8 z8 p9 z9 p10 z10 p11 z11
 rw[rounds_succ]
 obtain ⟨q0,q1,q2,q3,q4,q5,q6,q7,q8,q9,q10,q11⟩:=gl hJ.out.2.1
 obtain ⟨r0,r1,r2,r3,r4,r5,r6,r7,r8,r9,r10,r11⟩:=gl hJ.out.2.2.1
 obtain ⟨z0,z1,z2,z3,z4,z5,z6,z7,z8,z9,z10,z11⟩:=oI hJ.out.2.2.1
 go_wp2
 have hs00:=hs0H.out
 have hs1:=hA.out.2.2.2.2.2.1
 have hs2:=hA.out.2.2.2.2.2.2
 have hAg:∀base,w.heap.size<base→Agr (fun b=>base≤b) wd1 ((((((((((((wd1.setCell ⟨w.heap.size,0,none⟩ (V I s.c.c0)).setCell ⟨w.heap.size,1,none⟩ (V I s.c.c1)).setCell ⟨w.heap.size,2,none⟩ (V I s.c.c2)).setCell ⟨w.heap.size,3,none⟩ (V I s.c.c3)).setCell ⟨w.heap.size,4,none⟩ (J EA s.c.l.length eca)).setCell ⟨w.heap.size,5,none⟩ (J EC s.e.length ecc)).setCell ⟨w.heap.size,6,none⟩ (V I t.c.c0)).setCell ⟨w.heap.size,7,none⟩ (V I t.c.c1)).setCell ⟨w.heap.size,8,none⟩ (V I t.c.c2)).setCell ⟨w.heap.size,9,none⟩ (V I t.c.c3)).setCell ⟨w.heap.size,10,none⟩ (J EB t.c.l.length ecb)).setCell ⟨w.heap.size,11,none⟩ (J ED t.e.length ecd)):=fun base hbase=>((((((((((((aS _ fun h=>by omega).trans (aS _ fun h=>by omega)).trans (aS _ fun h=>by omega)).trans (aS _ fun h=>by omega)).trans (aS _ fun h=>by omega)).trans (aS _ fun h=>by omega)).trans (aS _ fun h=>by omega)).trans (aS _ fun h=>by omega)).trans (aS _ fun h=>by omega)).trans (aS _ fun h=>by omega)).trans (aS _ fun h=>by omega)).trans (aS _ fun h=>by omega))
 have hl0:w.heap.size≤wb0.heap.size:=by omega
 have hl1:w.heap.size≤wb1.heap.size:=by have:=hA.out.2.1.size;omega
 exact bodyPost_ret (v:= X (T2 s EA eca EC ecc t EB ecb ED ecd).toArray) (by simp[results,Tryz.results26,go_sem,r0,r1,r2,r3,r4,r5,r6,r7,r8,r9,r10,r11]) rfl ⟨EA,eca,EC,ecc,EB,ecb,ED,ecd,rfl,⟨Own.mono (cS hJ.out.2.2.2.2.2.1 (hAg _ (by omega))) hl0,ai.mono (cS hJ.out.2.2.2.2.2.2 (hAg _ (by omega))) hl0⟩,⟨Own.mono (cS hJ.out.2.2.2.1 (hAg _ (by omega))) hl1,ai.mono (cS hJ.out.2.2.2.2.1 (hAg _ (by omega))) hl1⟩,((((((((((((hJ.out.1.setCell (nR _) _).setCell (nR _) _).setCell (nR _) _).setCell (nR _) _).setCell (nR _) _).setCell (nR _) _).setCell (nR _) _).setCell (nR _) _).setCell (nR _) _).setCell (nR _) _).setCell (nR _) _).setCell (nR _) _)⟩

theorem vL {w:World} {N O:Nat} {P:Nat→Prop} {id:Int} {s t:Tab} {qs:List (List Stp)} (h:Nd w N O P id s t qs) :
  Calls Z 52 #[.pointer (some ⟨N,O,none⟩)] w fun e w'=>∃(EA:Option Addr) (eca:Nat) (EB:Option Addr) (ecb:Nat),e= H (X #[V I s.c.c0,V I s.c.c1,V I s.c.c2,V I s.c.c3,J EA s.c.l.length eca,V I t.c.c0,V I t.c.c1,V I t.c.c2,V I t.c.c3,J EB t.c.l.length ecb])∧Own w' w.heap.size (J EA s.c.l.length eca) s.c.l∧Own w' w.heap.size (J EB t.c.l.length ecb) t.c.l∧Below w.heap.size w w':=by
 obtain ⟨A,ca,C,cc,hcs,hts⟩:=h.ts
 obtain ⟨B,cb,D,cd,hct,htt⟩:=h.tt
 have hx0:=oU (V I s.c.c0) (V I s.c.c1) (V I s.c.c2) (V I s.c.c3) (J A s.c.l.length ca) (J C s.e.length cc) (V I t.c.c0) (V I t.c.c1) (V I t.c.c2) (V I t.c.c3) (J B t.c.l.length cb) (J D t.e.length cd)
 have hx1:=rH (V I s.c.c0) (V I s.c.c1) (V I s.c.c2) (V I s.c.c3) (J A s.c.l.length ca) (J C s.e.length cc) (V I t.c.c0) (V I t.c.c1) (V I t.c.c2) (V I t.c.c3) (J B t.c.l.length cb) (J D t.e.length cd)
 have n1:=hcs.k0
 have n2:=hcs.k1
 have n3:=hcs.k2
 have n4:=hcs.k3
 have n5:=hcs.k4
 have n6:=hcs.k5
 have n7:=hct.k0
 have n8:=hct.k1
 have n9:=hct.k2
 have n10:=hct.k3
 have n11:=hct.k4
 have n12:=hct.k5
 have hH:Hid (TbP P w s A ca C cc∧TbP P w t B cb D cd∧True):=⟨hts,htt,trivial⟩
 have hltN:N<w.heap.size:=h.blk.lt
 have hltM:N<w.heap.size+1:=by omega
 clear h hts htt hcs hct
 go_enter Tryz.func52,Tryz.ntmps52
 go_wp2
 obtain ⟨w1,hw1⟩:∃W,(w.alloc (Y #[V I 0,V I 0,V I 0,V I 0,J none 0 0,V I 0,V I 0,V I 0,V I 0,J none 0 0] 116)).alloc (Y #[V I 0,V I 0,V I 0,V I 0,J none 0 0,V I 0,V I 0,V I 0,V I 0,J none 0 0] 116)=W:=⟨_,rfl⟩
 rw[hw1]
 have hI:Hid (Below w.heap.size w w1∧Cls w1 (w.heap.size+1) [V I 0,V I 0,V I 0,V I 0,J none 0 0,V I 0,V I 0,V I 0,V I 0,J none 0 0]∧Cls w1 w.heap.size [V I 0,V I 0,V I 0,V I 0,J none 0 0,V I 0,V I 0,V I 0,V I 0,J none 0 0]):=by
  refine ⟨by rw[←hw1];exact (((gR w).alloc _).alloc _).below,?_,by rw[←hw1];exact (Cls.new w _ _).gr ((gR _).alloc _)⟩
  have:=Cls.new (w.alloc (Y #[V I 0,V I 0,V I 0,V I 0,J none 0 0,V I 0,V I 0,V I 0,V I 0,J none 0 0] 116)) #[V I 0,V I 0,V I 0,V I 0,J none 0 0,V I 0,V I 0,V I 0,V I 0,J none 0 0] 116
  rw[hw1,show (w.alloc (Y #[V I 0,V I 0,V I 0,V I 0,J none 0 0,V I 0,V I 0,V I 0,V I 0,J none 0 0] 116)).heap.size=w.heap.size+1 by simp] at this
  exact this
 clear hw1 n1 n2 n3 n4 n5 n6 n7 n8 n9 n10 n11 n12
 refine wp_loop_rounds 3 ?_
 rw[rounds_succ]
 go_upto_region 5 with fail
 obtain ⟨wb0,hwb⟩:∃W,w1.alloc (Y #[V I s.c.c0,V I s.c.c1,V I s.c.c2,V I s.c.c3,J A s.c.l.length ca,J C s.e.length cc] 42)=W:=⟨_,rfl⟩
 rw[hwb]
 have hA:Hid (Gr w1 wb0∧Below w.heap.size w wb0∧Cls wb0 w1.heap.size (T6 s A ca C cc)∧Cls wb0 (w.heap.size+1) [V I 0,V I 0,V I 0,V I 0,J none 0 0,V I 0,V I 0,V I 0,V I 0,J none 0 0]∧Cls wb0 w.heap.size [V I 0,V I 0,V I 0,V I 0,J none 0 0,V I 0,V I 0,V I 0,V I 0,J none 0 0]∧w.heap.size+1<w1.heap.size∧w1.heap.size<wb0.heap.size):=by
  have hg:Gr w1 wb0:=by rw[←hwb];exact (gR _).alloc _
  exact ⟨hg,hI.out.1.trans (hg.below.mono hI.out.1.size),by rw[←hwb];exact Cls.new w1 _ _,hI.out.2.1.gr hg,hI.out.2.2.gr hg,hI.out.2.1.lt,by rw[←hwb];simp⟩
 clear hwb
 have hC:Hid (Calls Z 40 #[X #[V I s.c.c0,V I s.c.c1,V I s.c.c2,V I s.c.c3,J A s.c.l.length ca]] wb0 fun e w'=>∃B cb,e= H (X #[V I s.c.c0,V I s.c.c1,V I s.c.c2,V I s.c.c3,J B s.c.l.length cb])∧Own w' wb0.heap.size (J B s.c.l.length cb) s.c.l∧Below wb0.heap.size wb0 w'):=by
  have hr:=hH.out.1.below hA.out.2.1
  exact fg s.c A ca wb0 (bE (af hr.ok).1).2.1 hr.row hr.nr
 obtain ⟨a0,a1,a2,a3,a4⟩:=ud hA.out.2.2.1
 go_wp2_with fail
 refine cM (show Calls _ _ _ _ _ from hC.out) ?_
 rintro e w2 ⟨EA,eca,rfl,f1,f2⟩
 have hG:Hid (Below wb0.heap.size wb0 w2∧Own w2 wb0.heap.size (J EA s.c.l.length eca) s.c.l):=⟨f2,f1⟩
 clear f1 f2 hC a0 a1 a2 a3 a4
 obtain ⟨p0,p1,p2,p3,p4⟩:=ud (hA.out.2.2.2.1.below hG.out.1)
 obtain ⟨z0,z1,z2,z3,z4⟩:=A3 (hA.out.2.2.2.1.below hG.out.1)
 go_wp2
 obtain ⟨wd0,hwd⟩:∃W,(((((w2.setCell ⟨w.heap.size+1,0,none⟩ (V I s.c.c0)).setCell ⟨w.heap.size+1,1,none⟩ (V I s.c.c1)).setCell ⟨w.heap.size+1,2,none⟩ (V I s.c.c2)).setCell ⟨w.heap.size+1,3,none⟩ (V I s.c.c3)).setCell ⟨w.heap.size+1,4,none⟩ (J EA s.c.l.length eca))=W:=⟨_,rfl⟩
 rw[hwd]
 have hJ:Hid (Below w.heap.size w wd0∧Cls wd0 (w.heap.size+1) [V I s.c.c0,V I s.c.c1,V I s.c.c2,V I s.c.c3,J EA s.c.l.length eca,V I 0,V I 0,V I 0,V I 0,J none 0 0]∧Cls wd0 w.heap.size [V I 0,V I 0,V I 0,V I 0,J none 0 0,V I 0,V I 0,V I 0,V I 0,J none 0 0]∧Own wd0 wb0.heap.size (J EA s.c.l.length eca) s.c.l):=by
  have hs1:=hA.out.2.2.2.2.2.1
  have hs2:=hA.out.2.2.2.2.2.2
  have hb3:=hA.out.2.1.trans (hG.out.1.mono hA.out.2.1.size)
  have hge:w.heap.size≤w.heap.size+1:=by omega
  have hnw:w.heap.size≠w.heap.size+1:=by omega
  refine ⟨?_,?_,?_,?_⟩
  ·rw[←hwd];exact ((((hb3.setCell hge _).setCell hge _).setCell hge _).setCell hge _).setCell hge _
  ·rw[←hwd];exact (((((hA.out.2.2.2.1.below hG.out.1).put 0 _).put 1 _).put 2 _).put 3 _).put 4 _
  ·rw[←hwd];exact (((((hA.out.2.2.2.2.1.below hG.out.1).oth hnw _).oth hnw _).oth hnw _).oth hnw _).oth hnw _
  ·rw[←hwd];exact cS hG.out.2 (((((aS _ fun h=>by omega).trans (aS _ fun h=>by omega)).trans (aS _ fun h=>by omega)).trans (aS _ fun h=>by omega)).trans (aS _ fun h=>by omega))
 clear hwd hG p0 z0 p1 z1 p2 z2 p3 z3 p4 z4
 have hI0:Hid (Own wd0 wb0.heap.size (J EA s.c.l.length eca) s.c.l):=hJ.out.2.2.2
 have hs0H:Hid (w.heap.size+1<wb0.heap.size):=by have h1:=hA.out.2.2.2.2.2.1;have h2:=hA.out.2.2.2.2.2.2;show _<_;omega
 have hI2:Hid (Below w.heap.size w wd0∧Cls wd0 (w.heap.size+1) [V I s.c.c0,V I s.c.c1,V I s.c.c2,V I s.c.c3,J EA s.c.l.length eca,V I 0,V I 0,V I 0,V I 0,J none 0 0]∧Cls wd0 w.heap.size [V I 0,V I 0,V I 0,V I 0,J none 0 0,V I 0,V I 0,V I 0,V I 0,J none 0 0]):=⟨hJ.out.1,hJ.out.2.1,hJ.out.2.2.1⟩
 clear hA hI hJ
 have hI:=hI2
 clear hI2
 rw[rounds_succ]
 go_upto_region 5 with fail
 obtain ⟨wb1,hwb⟩:∃W,wd0.alloc (Y #[V I t.c.c0,V I t.c.c1,V I t.c.c2,V I t.c.c3,J B t.c.l.length cb,J D t.e.length cd] 42)=W:=⟨_,rfl⟩
 rw[hwb]
 have hA:Hid (Gr wd0 wb1∧Below w.heap.size w wb1∧Cls wb1 wd0.heap.size (T6 t B cb D cd)∧Cls wb1 (w.heap.size+1) [V I s.c.c0,V I s.c.c1,V I s.c.c2,V I s.c.c3,J EA s.c.l.length eca,V I 0,V I 0,V I 0,V I 0,J none 0 0]∧Cls wb1 w.heap.size [V I 0,V I 0,V I 0,V I 0,J none 0 0,V I 0,V I 0,V I 0,V I 0,J none 0 0]∧w.heap.size+1<wd0.heap.size∧wd0.heap.size<wb1.heap.size):=by
  have hg:Gr wd0 wb1:=by rw[←hwb];exact (gR _).alloc _
  exact ⟨hg,hI.out.1.trans (hg.below.mono hI.out.1.size),by rw[←hwb];exact Cls.new wd0 _ _,hI.out.2.1.gr hg,hI.out.2.2.gr hg,hI.out.2.1.lt,by rw[←hwb];simp⟩
 clear hwb
 have hC:Hid (Calls Z 40 #[X #[V I t.c.c0,V I t.c.c1,V I t.c.c2,V I t.c.c3,J B t.c.l.length cb]] wb1 fun e w'=>∃B cb,e= H (X #[V I t.c.c0,V I t.c.c1,V I t.c.c2,V I t.c.c3,J B t.c.l.length cb])∧Own w' wb1.heap.size (J B t.c.l.length cb) t.c.l∧Below wb1.heap.size wb1 w'):=by
  have hr:=hH.out.2.1.below hA.out.2.1
  exact fg t.c B cb wb1 (bE (af hr.ok).1).2.1 hr.row hr.nr
 obtain ⟨a0,a1,a2,a3,a4⟩:=ud hA.out.2.2.1
 go_wp2_with fail
 refine cM (show Calls _ _ _ _ _ from hC.out) ?_
 rintro e w2 ⟨EB,ecb,rfl,f1,f2⟩
 have hG:Hid (Below wb1.heap.size wb1 w2∧Own w2 wb1.heap.size (J EB t.c.l.length ecb) t.c.l):=⟨f2,f1⟩
 clear f1 f2 hC a0 a1 a2 a3 a4
 obtain ⟨p5,p6,p7,p8,p9⟩:=zY (hA.out.2.2.2.1.below hG.out.1)
 obtain ⟨z5,z6,z7,z8,z9⟩:=A4 (hA.out.2.2.2.1.below hG.out.1)
 go_wp2
 obtain ⟨wd1,hwd⟩:∃W,(((((w2.setCell ⟨w.heap.size+1,5,none⟩ (V I t.c.c0)).setCell ⟨w.heap.size+1,6,none⟩ (V I t.c.c1)).setCell ⟨w.heap.size+1,7,none⟩ (V I t.c.c2)).setCell ⟨w.heap.size+1,8,none⟩ (V I t.c.c3)).setCell ⟨w.heap.size+1,9,none⟩ (J EB t.c.l.length ecb))=W:=⟨_,rfl⟩
 rw[hwd]
 have hJ:Hid (Below w.heap.size w wd1∧Cls wd1 (w.heap.size+1) [V I s.c.c0,V I s.c.c1,V I s.c.c2,V I s.c.c3,J EA s.c.l.length eca,V I t.c.c0,V I t.c.c1,V I t.c.c2,V I t.c.c3,J EB t.c.l.length ecb]∧Cls wd1 w.heap.size [V I 0,V I 0,V I 0,V I 0,J none 0 0,V I 0,V I 0,V I 0,V I 0,J none 0 0]∧Own wd1 wb1.heap.size (J EB t.c.l.length ecb) t.c.l∧Own wd1 wb0.heap.size (J EA s.c.l.length eca) s.c.l):=by
  have hs1:=hA.out.2.2.2.2.2.1
  have hs2:=hA.out.2.2.2.2.2.2
  have hb3:=hA.out.2.1.trans (hG.out.1.mono hA.out.2.1.size)
  have hge:w.heap.size≤w.heap.size+1:=by omega
  have hnw:w.heap.size≠w.heap.size+1:=by omega
  refine ⟨?_,?_,?_,?_,?_⟩
  ·rw[←hwd];exact ((((hb3.setCell hge _).setCell hge _).setCell hge _).setCell hge _).setCell hge _
  ·rw[←hwd];exact (((((hA.out.2.2.2.1.below hG.out.1).put 5 _).put 6 _).put 7 _).put 8 _).put 9 _
  ·rw[←hwd];exact (((((hA.out.2.2.2.2.1.below hG.out.1).oth hnw _).oth hnw _).oth hnw _).oth hnw _).oth hnw _
  ·rw[←hwd];exact cS hG.out.2 (((((aS _ fun h=>by omega).trans (aS _ fun h=>by omega)).trans (aS _ fun h=>by omega)).trans (aS _ fun h=>by omega)).trans (aS _ fun h=>by omega))
  ·have hbx:Below wd0.heap.size wd0 w2:=hA.out.1.below.trans (hG.out.1.mono hA.out.1.size)
   have hs00:=hs0H.out
   rw[←hwd];exact cS (hI0.out.below hbx) (((((aS _ fun h=>by omega).trans (aS _ fun h=>by omega)).trans (aS _ fun h=>by omega)).trans (aS _ fun h=>by omega)).trans (aS _ fun h=>by omega))
 clear hwd hG p5 z5 p6 z6 p7 z7 p8 z8 p9 z9
 rw[rounds_succ]
 obtain ⟨q0,q1,q2,q3,q4,q5,q6,q7,q8,q9⟩:=oz hJ.out.2.1
 obtain ⟨r0,r1,r2,r3,r4,r5,r6,r7,r8,r9⟩:=oz hJ.out.2.2.1
 obtain ⟨z0,z1,z2,z3,z4,z5,z6,z7,z8,z9⟩:=yX hJ.out.2.2.1
 go_wp2
 have hs00:=hs0H.out
 have hs1:=hA.out.2.2.2.2.2.1
 have hs2:=hA.out.2.2.2.2.2.2
 have hAg:∀base,w.heap.size<base→Agr (fun b=>base≤b) wd1 ((((((((((wd1.setCell ⟨w.heap.size,0,none⟩ (V I s.c.c0)).setCell ⟨w.heap.size,1,none⟩ (V I s.c.c1)).setCell ⟨w.heap.size,2,none⟩ (V I s.c.c2)).setCell ⟨w.heap.size,3,none⟩ (V I s.c.c3)).setCell ⟨w.heap.size,4,none⟩ (J EA s.c.l.length eca)).setCell ⟨w.heap.size,5,none⟩ (V I t.c.c0)).setCell ⟨w.heap.size,6,none⟩ (V I t.c.c1)).setCell ⟨w.heap.size,7,none⟩ (V I t.c.c2)).setCell ⟨w.heap.size,8,none⟩ (V I t.c.c3)).setCell ⟨w.heap.size,9,none⟩ (J EB t.c.l.length ecb)):=fun base hbase=>((((((((((aS _ fun h=>by omega).trans (aS _ fun h=>by omega)).trans (aS _ fun h=>by omega)).trans (aS _ fun h=>by omega)).trans (aS _ fun h=>by omega)).trans (aS _ fun h=>by omega)).trans (aS _ fun h=>by omega)).trans (aS _ fun h=>by omega)).trans (aS _ fun h=>by omega)).trans (aS _ fun h=>by omega))
 have hl0:w.heap.size≤wb0.heap.size:=by omega
 have hl1:w.heap.size≤wb1.heap.size:=by have:=hA.out.2.1.size;omega
 exact bodyPost_ret (v:= X #[V I s.c.c0,V I s.c.c1,V I s.c.c2,V I s.c.c3,J EA s.c.l.length eca,V I t.c.c0,V I t.c.c1,V I t.c.c2,V I t.c.c3,J EB t.c.l.length ecb]) (by simp[results,Tryz.results52,go_sem,r0,r1,r2,r3,r4,r5,r6,r7,r8,r9]) rfl ⟨EA,eca,EB,ecb,rfl,Own.mono (cS hJ.out.2.2.2.2 (hAg _ (by omega))) hl0,Own.mono (cS hJ.out.2.2.2.1 (hAg _ (by omega))) hl1,((((((((((hJ.out.1.setCell (nR _) _).setCell (nR _) _).setCell (nR _) _).setCell (nR _) _).setCell (nR _) _).setCell (nR _) _).setCell (nR _) _).setCell (nR _) _).setCell (nR _) _).setCell (nR _) _)⟩
end Go.Proofs.YtkefkplnamkicabGreatDoor
