/-
  (*Node).Seen: the contexts of both tables, in memory of their own.
-/
import Derived.Test.YtkefkplnamkicaaGreatDoorM37
set_option maxRecDepth 100000
set_option maxHeartbeats 8000000
open Go.IntKind renaming i64 → I
open Go.Value renaming int → V, slice → S, agg → J
namespace Go.Proofs.YtkefkplnamkicaaGreatDoor
open Go.RowKit Go.Sort

theorem xX {w:World} {N O:Nat} {P:Nat→Prop} {id:Int} {s t:Tab} {qs:List (List Stp)} (h:Nd w N O P id s t qs) :
  Calls Tryz.prog 78 #[.pointer (some ⟨N,O,none⟩)] w fun e w'=>∃(EA:Option Addr) (eca:Nat) (EB:Option Addr) (ecb:Nat),e= .returned (J #[V I s.c.c0,V I s.c.c1,V I s.c.c2,V I s.c.c3,S EA s.c.l.length eca,V I t.c.c0,V I t.c.c1,V I t.c.c2,V I t.c.c3,S EB t.c.l.length ecb])∧Own w' w.heap.size (S EA s.c.l.length eca) s.c.l∧Own w' w.heap.size (S EB t.c.l.length ecb) t.c.l∧Below w.heap.size w w':=by
 obtain ⟨A,ca,C,cc,hcs,hts⟩:=h.ts
 obtain ⟨B,cb,D,cd,hct,htt⟩:=h.tt
 have hx0:=qR (V I s.c.c0) (V I s.c.c1) (V I s.c.c2) (V I s.c.c3) (S A s.c.l.length ca) (S C s.e.length cc) (V I t.c.c0) (V I t.c.c1) (V I t.c.c2) (V I t.c.c3) (S B t.c.l.length cb) (S D t.e.length cd)
 have hx1:=qS (V I s.c.c0) (V I s.c.c1) (V I s.c.c2) (V I s.c.c3) (S A s.c.l.length ca) (S C s.e.length cc) (V I t.c.c0) (V I t.c.c1) (V I t.c.c2) (V I t.c.c3) (S B t.c.l.length cb) (S D t.e.length cd)
 have n1:=hcs.k0
 have n2:=hcs.k1
 have n3:=hcs.k2
 have n4:=hcs.k3
 have n5:=hcs.k4
 have n6:=hcs.k5
 have n7:=hct.k0
 have n8:=hct.k1
 have n9:=hct.k2
 have n10:=hct.k3
 have n11:=hct.k4
 have n12:=hct.k5
 have hH:Hid (TbP P w s A ca C cc∧TbP P w t B cb D cd∧True):=⟨hts,htt,trivial⟩
 have hltN:N<w.heap.size:=h.blk.lt
 have hltM:N<w.heap.size+1:=by omega
 clear h hts htt hcs hct
 go_enter Tryz.func78,Tryz.ntmps78
 go_wp2
 obtain ⟨w1,hw1⟩:∃W,(w.alloc (.cells #[V I 0,V I 0,V I 0,V I 0,S none 0 0,V I 0,V I 0,V I 0,V I 0,S none 0 0] 150)).alloc (.cells #[V I 0,V I 0,V I 0,V I 0,S none 0 0,V I 0,V I 0,V I 0,V I 0,S none 0 0] 150)=W:=⟨_,rfl⟩
 rw[hw1]
 have hI:Hid (Below w.heap.size w w1∧Cls w1 (w.heap.size+1) [V I 0,V I 0,V I 0,V I 0,S none 0 0,V I 0,V I 0,V I 0,V I 0,S none 0 0]∧Cls w1 w.heap.size [V I 0,V I 0,V I 0,V I 0,S none 0 0,V I 0,V I 0,V I 0,V I 0,S none 0 0]):=by
  refine ⟨by rw[←hw1];exact (((gR w).alloc _).alloc _).below,?_,by rw[←hw1];exact (Cls.new w _ _).gr ((gR _).alloc _)⟩
  have:=Cls.new (w.alloc (.cells #[V I 0,V I 0,V I 0,V I 0,S none 0 0,V I 0,V I 0,V I 0,V I 0,S none 0 0] 150)) #[V I 0,V I 0,V I 0,V I 0,S none 0 0,V I 0,V I 0,V I 0,V I 0,S none 0 0] 150
  rw[hw1,show (w.alloc (.cells #[V I 0,V I 0,V I 0,V I 0,S none 0 0,V I 0,V I 0,V I 0,V I 0,S none 0 0] 150)).heap.size=w.heap.size+1 by simp] at this
  exact this
 clear hw1 n1 n2 n3 n4 n5 n6 n7 n8 n9 n10 n11 n12
 refine wp_loop_rounds 3 ?_
 rw[rounds_succ]
 go_upto_region 5 with fail
 obtain ⟨wb0,hwb⟩:∃W,w1.alloc (.cells #[V I s.c.c0,V I s.c.c1,V I s.c.c2,V I s.c.c3,S A s.c.l.length ca,S C s.e.length cc] 41)=W:=⟨_,rfl⟩
 rw[hwb]
 have hA:Hid (Gr w1 wb0∧Below w.heap.size w wb0∧Cls wb0 w1.heap.size (T6 s A ca C cc)∧Cls wb0 (w.heap.size+1) [V I 0,V I 0,V I 0,V I 0,S none 0 0,V I 0,V I 0,V I 0,V I 0,S none 0 0]∧Cls wb0 w.heap.size [V I 0,V I 0,V I 0,V I 0,S none 0 0,V I 0,V I 0,V I 0,V I 0,S none 0 0]∧w.heap.size+1<w1.heap.size∧w1.heap.size<wb0.heap.size):=by
  have hg:Gr w1 wb0:=by rw[←hwb];exact (gR _).alloc _
  exact ⟨hg,hI.out.1.trans (hg.below.mono hI.out.1.size),by rw[←hwb];exact Cls.new w1 _ _,hI.out.2.1.gr hg,hI.out.2.2.gr hg,hI.out.2.1.lt,by rw[←hwb];simp⟩
 clear hwb
 have hC:Hid (Calls Tryz.prog 56 #[J #[V I s.c.c0,V I s.c.c1,V I s.c.c2,V I s.c.c3,S A s.c.l.length ca]] wb0 fun e w'=>∃B cb,e= .returned (J #[V I s.c.c0,V I s.c.c1,V I s.c.c2,V I s.c.c3,S B s.c.l.length cb])∧Own w' wb0.heap.size (S B s.c.l.length cb) s.c.l∧Below wb0.heap.size wb0 w'):=by
  have hr:=hH.out.1.below hA.out.2.1
  exact fy s.c A ca wb0 (aY (ae hr.ok).1).2.1 hr.row hr.nr
 obtain ⟨a0,a1,a2,a3,a4⟩:=wg hA.out.2.2.1
 go_wp2_with fail
 refine cM (show Calls _ _ _ _ _ from hC.out) ?_
 rintro e w2 ⟨EA,eca,rfl,f1,f2⟩
 have hG:Hid (Below wb0.heap.size wb0 w2∧Own w2 wb0.heap.size (S EA s.c.l.length eca) s.c.l):=⟨f2,f1⟩
 clear f1 f2 hC a0 a1 a2 a3 a4
 obtain ⟨p0,p1,p2,p3,p4⟩:=wg (hA.out.2.2.2.1.below hG.out.1)
 obtain ⟨z0,z1,z2,z3,z4⟩:=BM (hA.out.2.2.2.1.below hG.out.1)
 go_wp2
 obtain ⟨wd0,hwd⟩:∃W,(((((w2.setCell ⟨w.heap.size+1,0,none⟩ (V I s.c.c0)).setCell ⟨w.heap.size+1,1,none⟩ (V I s.c.c1)).setCell ⟨w.heap.size+1,2,none⟩ (V I s.c.c2)).setCell ⟨w.heap.size+1,3,none⟩ (V I s.c.c3)).setCell ⟨w.heap.size+1,4,none⟩ (S EA s.c.l.length eca))=W:=⟨_,rfl⟩
 rw[hwd]
 have hJ:Hid (Below w.heap.size w wd0∧Cls wd0 (w.heap.size+1) [V I s.c.c0,V I s.c.c1,V I s.c.c2,V I s.c.c3,S EA s.c.l.length eca,V I 0,V I 0,V I 0,V I 0,S none 0 0]∧Cls wd0 w.heap.size [V I 0,V I 0,V I 0,V I 0,S none 0 0,V I 0,V I 0,V I 0,V I 0,S none 0 0]∧Own wd0 wb0.heap.size (S EA s.c.l.length eca) s.c.l):=by
  have hs1:=hA.out.2.2.2.2.2.1
  have hs2:=hA.out.2.2.2.2.2.2
  have hb3:=hA.out.2.1.trans (hG.out.1.mono hA.out.2.1.size)
  have hge:w.heap.size≤w.heap.size+1:=by omega
  have hnw:w.heap.size≠w.heap.size+1:=by omega
  refine ⟨?_,?_,?_,?_⟩
  ·rw[←hwd];exact ((((hb3.setCell hge _).setCell hge _).setCell hge _).setCell hge _).setCell hge _
  ·rw[←hwd];exact (((((hA.out.2.2.2.1.below hG.out.1).put 0 _).put 1 _).put 2 _).put 3 _).put 4 _
  ·rw[←hwd];exact (((((hA.out.2.2.2.2.1.below hG.out.1).oth hnw _).oth hnw _).oth hnw _).oth hnw _).oth hnw _
  ·rw[←hwd];exact cV hG.out.2 (((((aS _ fun h=>by omega).trans (aS _ fun h=>by omega)).trans (aS _ fun h=>by omega)).trans (aS _ fun h=>by omega)).trans (aS _ fun h=>by omega))
 clear hwd hG p0 z0 p1 z1 p2 z2 p3 z3 p4 z4
 have hI0:Hid (Own wd0 wb0.heap.size (S EA s.c.l.length eca) s.c.l):=hJ.out.2.2.2
 have hs0H:Hid (w.heap.size+1<wb0.heap.size):=by have h1:=hA.out.2.2.2.2.2.1;have h2:=hA.out.2.2.2.2.2.2;show _<_;omega
 have hI2:Hid (Below w.heap.size w wd0∧Cls wd0 (w.heap.size+1) [V I s.c.c0,V I s.c.c1,V I s.c.c2,V I s.c.c3,S EA s.c.l.length eca,V I 0,V I 0,V I 0,V I 0,S none 0 0]∧Cls wd0 w.heap.size [V I 0,V I 0,V I 0,V I 0,S none 0 0,V I 0,V I 0,V I 0,V I 0,S none 0 0]):=⟨hJ.out.1,hJ.out.2.1,hJ.out.2.2.1⟩
 clear hA hI hJ
 have hI:=hI2
 clear hI2
 rw[rounds_succ]
 go_upto_region 5 with fail
 obtain ⟨wb1,hwb⟩:∃W,wd0.alloc (.cells #[V I t.c.c0,V I t.c.c1,V I t.c.c2,V I t.c.c3,S B t.c.l.length cb,S D t.e.length cd] 41)=W:=⟨_,rfl⟩
 rw[hwb]
 have hA:Hid (Gr wd0 wb1∧Below w.heap.size w wb1∧Cls wb1 wd0.heap.size (T6 t B cb D cd)∧Cls wb1 (w.heap.size+1) [V I s.c.c0,V I s.c.c1,V I s.c.c2,V I s.c.c3,S EA s.c.l.length eca,V I 0,V I 0,V I 0,V I 0,S none 0 0]∧Cls wb1 w.heap.size [V I 0,V I 0,V I 0,V I 0,S none 0 0,V I 0,V I 0,V I 0,V I 0,S none 0 0]∧w.heap.size+1<wd0.heap.size∧wd0.heap.size<wb1.heap.size):=by
  have hg:Gr wd0 wb1:=by rw[←hwb];exact (gR _).alloc _
  exact ⟨hg,hI.out.1.trans (hg.below.mono hI.out.1.size),by rw[←hwb];exact Cls.new wd0 _ _,hI.out.2.1.gr hg,hI.out.2.2.gr hg,hI.out.2.1.lt,by rw[←hwb];simp⟩
 clear hwb
 have hC:Hid (Calls Tryz.prog 56 #[J #[V I t.c.c0,V I t.c.c1,V I t.c.c2,V I t.c.c3,S B t.c.l.length cb]] wb1 fun e w'=>∃B cb,e= .returned (J #[V I t.c.c0,V I t.c.c1,V I t.c.c2,V I t.c.c3,S B t.c.l.length cb])∧Own w' wb1.heap.size (S B t.c.l.length cb) t.c.l∧Below wb1.heap.size wb1 w'):=by
  have hr:=hH.out.2.1.below hA.out.2.1
  exact fy t.c B cb wb1 (aY (ae hr.ok).1).2.1 hr.row hr.nr
 obtain ⟨a0,a1,a2,a3,a4⟩:=wg hA.out.2.2.1
 go_wp2_with fail
 refine cM (show Calls _ _ _ _ _ from hC.out) ?_
 rintro e w2 ⟨EB,ecb,rfl,f1,f2⟩
 have hG:Hid (Below wb1.heap.size wb1 w2∧Own w2 wb1.heap.size (S EB t.c.l.length ecb) t.c.l):=⟨f2,f1⟩
 clear f1 f2 hC a0 a1 a2 a3 a4
 obtain ⟨p5,p6,p7,p8,p9⟩:=BK (hA.out.2.2.2.1.below hG.out.1)
 obtain ⟨z5,z6,z7,z8,z9⟩:=BN (hA.out.2.2.2.1.below hG.out.1)
 go_wp2
 obtain ⟨wd1,hwd⟩:∃W,(((((w2.setCell ⟨w.heap.size+1,5,none⟩ (V I t.c.c0)).setCell ⟨w.heap.size+1,6,none⟩ (V I t.c.c1)).setCell ⟨w.heap.size+1,7,none⟩ (V I t.c.c2)).setCell ⟨w.heap.size+1,8,none⟩ (V I t.c.c3)).setCell ⟨w.heap.size+1,9,none⟩ (S EB t.c.l.length ecb))=W:=⟨_,rfl⟩
 rw[hwd]
 have hJ:Hid (Below w.heap.size w wd1∧Cls wd1 (w.heap.size+1) [V I s.c.c0,V I s.c.c1,V I s.c.c2,V I s.c.c3,S EA s.c.l.length eca,V I t.c.c0,V I t.c.c1,V I t.c.c2,V I t.c.c3,S EB t.c.l.length ecb]∧Cls wd1 w.heap.size [V I 0,V I 0,V I 0,V I 0,S none 0 0,V I 0,V I 0,V I 0,V I 0,S none 0 0]∧Own wd1 wb1.heap.size (S EB t.c.l.length ecb) t.c.l∧Own wd1 wb0.heap.size (S EA s.c.l.length eca) s.c.l):=by
  have hs1:=hA.out.2.2.2.2.2.1
  have hs2:=hA.out.2.2.2.2.2.2
  have hb3:=hA.out.2.1.trans (hG.out.1.mono hA.out.2.1.size)
  have hge:w.heap.size≤w.heap.size+1:=by omega
  have hnw:w.heap.size≠w.heap.size+1:=by omega
  refine ⟨?_,?_,?_,?_,?_⟩
  ·rw[←hwd];exact ((((hb3.setCell hge _).setCell hge _).setCell hge _).setCell hge _).setCell hge _
  ·rw[←hwd];exact (((((hA.out.2.2.2.1.below hG.out.1).put 5 _).put 6 _).put 7 _).put 8 _).put 9 _
  ·rw[←hwd];exact (((((hA.out.2.2.2.2.1.below hG.out.1).oth hnw _).oth hnw _).oth hnw _).oth hnw _).oth hnw _
  ·rw[←hwd];exact cV hG.out.2 (((((aS _ fun h=>by omega).trans (aS _ fun h=>by omega)).trans (aS _ fun h=>by omega)).trans (aS _ fun h=>by omega)).trans (aS _ fun h=>by omega))
  ·have hbx:Below wd0.heap.size wd0 w2:=hA.out.1.below.trans (hG.out.1.mono hA.out.1.size)
   have hs00:=hs0H.out
   rw[←hwd];exact cV (hI0.out.below hbx) (((((aS _ fun h=>by omega).trans (aS _ fun h=>by omega)).trans (aS _ fun h=>by omega)).trans (aS _ fun h=>by omega)).trans (aS _ fun h=>by omega))
 clear hwd hG p5 z5 p6 z6 p7 z7 p8 z8 p9 z9
 rw[rounds_succ]
 obtain ⟨q0,q1,q2,q3,q4,q5,q6,q7,q8,q9⟩:=fP hJ.out.2.1
 obtain ⟨r0,r1,r2,r3,r4,r5,r6,r7,r8,r9⟩:=fP hJ.out.2.2.1
 obtain ⟨z0,z1,z2,z3,z4,z5,z6,z7,z8,z9⟩:=AV hJ.out.2.2.1
 go_wp2
 have hs00:=hs0H.out
 have hs1:=hA.out.2.2.2.2.2.1
 have hs2:=hA.out.2.2.2.2.2.2
 have hAg:∀base,w.heap.size<base→Agr (fun b=>base≤b) wd1 ((((((((((wd1.setCell ⟨w.heap.size,0,none⟩ (V I s.c.c0)).setCell ⟨w.heap.size,1,none⟩ (V I s.c.c1)).setCell ⟨w.heap.size,2,none⟩ (V I s.c.c2)).setCell ⟨w.heap.size,3,none⟩ (V I s.c.c3)).setCell ⟨w.heap.size,4,none⟩ (S EA s.c.l.length eca)).setCell ⟨w.heap.size,5,none⟩ (V I t.c.c0)).setCell ⟨w.heap.size,6,none⟩ (V I t.c.c1)).setCell ⟨w.heap.size,7,none⟩ (V I t.c.c2)).setCell ⟨w.heap.size,8,none⟩ (V I t.c.c3)).setCell ⟨w.heap.size,9,none⟩ (S EB t.c.l.length ecb)):=fun base hbase=>((((((((((aS _ fun h=>by omega).trans (aS _ fun h=>by omega)).trans (aS _ fun h=>by omega)).trans (aS _ fun h=>by omega)).trans (aS _ fun h=>by omega)).trans (aS _ fun h=>by omega)).trans (aS _ fun h=>by omega)).trans (aS _ fun h=>by omega)).trans (aS _ fun h=>by omega)).trans (aS _ fun h=>by omega))
 have hl0:w.heap.size≤wb0.heap.size:=by omega
 have hl1:w.heap.size≤wb1.heap.size:=by have:=hA.out.2.1.size;omega
 exact bodyPost_ret (v:= J #[V I s.c.c0,V I s.c.c1,V I s.c.c2,V I s.c.c3,S EA s.c.l.length eca,V I t.c.c0,V I t.c.c1,V I t.c.c2,V I t.c.c3,S EB t.c.l.length ecb]) (by simp[results,Tryz.results78,go_sem,r0,r1,r2,r3,r4,r5,r6,r7,r8,r9]) rfl ⟨EA,eca,EB,ecb,rfl,Own.mono (cV hJ.out.2.2.2.2 (hAg _ (by omega))) hl0,Own.mono (cV hJ.out.2.2.2.1 (hAg _ (by omega))) hl1,((((((((((hJ.out.1.setCell (nR _) _).setCell (nR _) _).setCell (nR _) _).setCell (nR _) _).setCell (nR _) _).setCell (nR _) _).setCell (nR _) _).setCell (nR _) _).setCell (nR _) _).setCell (nR _) _)⟩
end Go.Proofs.YtkefkplnamkicaaGreatDoor
