/-
  slices.Clone at cells and at dots; node.copyContext.
  (*Node).Whole: the packet of both tables, in memory of its own.
-/
import Derived.Shelf.Slices.Clone
import Derived.Test.YtkefkplnamkicaaGreatDoorM28
set_option maxRecDepth 100000
set_option maxHeartbeats 8000000
open Go.Ending renaming returned → Y
open Go.IntKind renaming i64 → V
open Go.Obj renaming cells → H
open Go.Proofs.Tryz renaming prog → Z
open Go.Value renaming slice → I, int → J, agg → X
namespace Go.Proofs.YtkefkplnamkicaaGreatDoor
open Go.RowKit Go.Sort

theorem lU (q:List Cel) (A:Option Addr) (cap:Nat) (w:World) (hl:q.length*40≤140737488351232) (hr:bw w A q) (hA:A=none→cap=0) :
  Calls Z 57 #[I A q.length cap] w fun e w'=>∃C c,e= Y (I C q.length c)∧dB w' w.heap.size (I C q.length c) q∧Below w.heap.size w w':=by
 have hrH:Hid (bw w A q):=hr
 clear hr
 have q22:∀(w:World) (a:Option Addr) (n c n' c':Nat),(binOp .eql 39 (I a n c) (I none n' c')).run Z w= .ok (.bool a.isNone) w:=fun w a n c n' c'=>Lib.run_eql_slice_nil w _ _ a n c n' c' Tryz.underlying39
 cases A with
 | none =>
  have hq0:Hid (q=[]):=by
   rcases hrH.out with h|⟨_,_,h,_⟩
   ·exact h
   ·cases h
  go_enter Tryz.func57,Tryz.ntmps57
  go_wp2
  go_ret
  rw[hq0.out]
  exact ⟨_,_,rfl,af.nil _ _ _ _ _,bR _ _⟩
 | some ad =>
  go_enter Tryz.func57,Tryz.ntmps57
  have hoX:Hid (dB (w.alloc (H #[] 97)) w.heap.size (I (some ⟨w.heap.size,0,none⟩) 0 0) []∧bw (w.alloc (H #[] 97)) (some ad) q∧([]:List Cel).length+q.length≤maxLen∧(([]:List Cel).length+q.length)*40≤140737488355328∧w.heap.size≤(w.alloc (H #[] 97)).heap.size) :=
   ⟨⟨rfl,oR ⟨w.heap.size,0,#[],rfl,nR _,(MapKept.heap_alloc _ _).1,nR _,by simp,rfl,rfl⟩⟩,hrH.out.gr ((gR _).alloc _),by unfold maxLen;simp;omega,by simp;omega,by simp⟩
  go_wp2_with (at_builtin;refine dI _ rfl (.tmp 5) (.tmp 6) rfl w.heap.size (I (some ⟨w.heap.size,0,none⟩) 0 0) [] q (some ad) cap rfl rfl hoX.out.1 hoX.out.2.1 (fun h=>by cases h) hoX.out.2.2.1 hoX.out.2.2.2.1 hoX.out.2.2.2.2 ?_;intro v1 w1 hown1 hgr1)
  have hfin:Hid (dB w1 w.heap.size v1 q∧Below w.heap.size w w1):=⟨hown1,((gR w).alloc _).below.trans (af.grown_below hoX.out.1 hgr1 hoX.out.2.2.2.2)⟩
  clear hown1 hgr1
  go_ret
  obtain ⟨C,c,hv,_⟩:=af.row dD hfin.out.1
  subst hv
  exact ⟨C,c,rfl,hfin.out⟩
theorem rX (q:List (Int×Int)) (A:Option Addr) (cap:Nat) (w:World) (hl:q.length*16≤140737488351232) (hr:Row w A q) (hA:A=none→cap=0) :
  Calls Z 82 #[I A q.length cap] w fun e w'=>∃C c,e= Y (I C q.length c)∧Own w' w.heap.size (I C q.length c) q∧Below w.heap.size w w':=by
 have hrH:Hid (Row w A q):=hr
 clear hr
 have q22:∀(w:World) (a:Option Addr) (n c n' c':Nat),(binOp .eql 36 (I a n c) (I none n' c')).run Z w= .ok (.bool a.isNone) w:=fun w a n c n' c'=>Lib.run_eql_slice_nil w _ _ a n c n' c' Tryz.underlying36
 cases A with
 | none =>
  have hq0:Hid (q=[]):=by
   rcases hrH.out with h|⟨_,_,h,_⟩
   ·exact h
   ·cases h
  go_enter Tryz.func82,Tryz.ntmps82
  go_wp2
  go_ret
  rw[hq0.out]
  exact ⟨_,_,rfl,Own.nil _ _,bR _ _⟩
 | some ad =>
  go_enter Tryz.func82,Tryz.ntmps82
  have hoX:Hid (Own (w.alloc (H #[] 95)) w.heap.size (I (some ⟨w.heap.size,0,none⟩) 0 0) []∧Row (w.alloc (H #[] 95)) (some ad) q∧(([]:List (Int×Int)).length+q.length)*16≤140737488355328∧w.heap.size≤(w.alloc (H #[] 95)).heap.size) :=
   ⟨⟨rfl,oR ⟨w.heap.size,0,#[],rfl,nR _,(MapKept.heap_alloc _ _).1,nR _,by simp,rfl,rfl⟩⟩,hrH.out.gr ((gR _).alloc _),by simp;omega,by simp⟩
  go_wp2_with (at_builtin;refine aJ _ rfl (.tmp 5) (.tmp 6) rfl w.heap.size (I (some ⟨w.heap.size,0,none⟩) 0 0) [] q (some ad) cap rfl rfl hoX.out.1 hoX.out.2.1 (fun h=>by cases h) hoX.out.2.2.1 hoX.out.2.2.2 ?_;intro v1 w1 hown1 hgr1 _)
  have hfin:Hid (Own w1 w.heap.size v1 q∧Below w.heap.size w w1):=⟨hown1,((gR w).alloc _).below.trans (Own.grown_below hoX.out.1 hgr1 hoX.out.2.2.2)⟩
  clear hown1 hgr1
  go_ret
  obtain ⟨C,c,hv,_⟩:=Own.row hfin.out.1
  subst hv
  exact ⟨C,c,rfl,hfin.out⟩
theorem fy (c:Ctx) (A:Option Addr) (ca:Nat) (w:World) (hl:c.l.length≤400) (hr:Row w A c.l) (hA:A=none→ca=0) :
  Calls Z 56 #[X #[J V c.c0,J V c.c1,J V c.c2,J V c.c3,I A c.l.length ca]] w fun e w'=>∃B cb,e= Y (X #[J V c.c0,J V c.c1,J V c.c2,J V c.c3,I B c.l.length cb])∧Own w' w.heap.size (I B c.l.length cb) c.l∧Below w.heap.size w w':=by
 have mixed:Tryz.prog.follows .mixedOrders=true:=by kernel_rfl
 obtain ⟨w1,hw1⟩:∃W,(w.alloc (H #[J V c.c0,J V c.c1,J V c.c2,J V c.c3,I A c.l.length ca] 38)).alloc (H #[J V 0,J V 0,J V 0,J V 0,I none 0 0] 38)=W:=⟨_,rfl⟩
 have hg1:Gr w w1:=by rw[←hw1];exact ((gR w).alloc _).alloc _
 have hs1:w1.heap.size=w.heap.size+1+1:=by rw[←hw1];simp
 have s0:w1.cell? ⟨w.heap.size,0,none⟩=some (J V c.c0):=by rw[←hw1];exact ab (w:=w) ((gR _).alloc _) rfl
 have s1:w1.cell? ⟨w.heap.size,1,none⟩=some (J V c.c1):=by rw[←hw1];exact ab (w:=w) ((gR _).alloc _) rfl
 have s2:w1.cell? ⟨w.heap.size,2,none⟩=some (J V c.c2):=by rw[←hw1];exact ab (w:=w) ((gR _).alloc _) rfl
 have s3:w1.cell? ⟨w.heap.size,3,none⟩=some (J V c.c3):=by rw[←hw1];exact ab (w:=w) ((gR _).alloc _) rfl
 have s4:w1.cell? ⟨w.heap.size,4,none⟩=some (I A c.l.length ca):=by rw[←hw1];exact ab (w:=w) ((gR _).alloc _) rfl
 have hC:Hid (∀W,Gr w1 W→Calls Z 82 #[I A c.l.length ca] W fun e w'=>∃C c',e= Y (I C c.l.length c')∧Own w' W.heap.size (I C c.l.length c') c.l∧Below W.heap.size W w'):=fun W hg=>rX c.l A ca W (by omega) (hr.gr (hg1.trans hg)) hA
 clear hr hA
 go_enter Tryz.func56,Tryz.ntmps56
 go_wp2
 have f0:Hid (∀j,w1.frozen? ⟨w.heap.size+1,j,none⟩=false):=fun j=>by
  rw[←hw1]
  exact qy (w:=w) (gR _) j
 have r0:Hid (∀j v,(#[J V 0,J V 0,J V 0,J V 0,I none 0 0]:Array Value)[j]? = some v→w1.cell? ⟨w.heap.size+1,j,none⟩=some v):=fun j v hv=>by
  rw[←hw1]
  have:=ab (w:=w.alloc (H #[J V c.c0,J V c.c1,J V c.c2,J V c.c3,I A c.l.length ca] 38)) (T1:=38) (gR _) hv
  simpa using this
 clear hw1
 go_region_with (go_at_call 82;refine cM (hC.out _ (gR w1).drew) ?_;rintro e w2 ⟨B,cb,rfl,h1,h2⟩;have hbH:Hid (Own w2 (w.heap.size+1+1) (I B c.l.length cb) c.l∧Below w1.heap.size w1 w2):=⟨by rw[←hs1];exact h1,(gR w1).drew.below.trans h2⟩;clear h1 h2;have hlt1:w.heap.size+1<w1.heap.size:=(by omega);have hlt0:w.heap.size<w1.heap.size:=(by omega);have q0:=(hbH.out.2.cell (p:=⟨w.heap.size,0,none⟩) hlt0).trans s0;have q1:=(hbH.out.2.cell (p:=⟨w.heap.size,1,none⟩) hlt0).trans s1;have q2:=(hbH.out.2.cell (p:=⟨w.heap.size,2,none⟩) hlt0).trans s2;have q3:=(hbH.out.2.cell (p:=⟨w.heap.size,3,none⟩) hlt0).trans s3;have p0:=(hbH.out.2.cell (p:=⟨w.heap.size+1,0,none⟩) hlt1).trans (r0.out 0 _ rfl);have p1:=(hbH.out.2.cell (p:=⟨w.heap.size+1,1,none⟩) hlt1).trans (r0.out 1 _ rfl);have p2:=(hbH.out.2.cell (p:=⟨w.heap.size+1,2,none⟩) hlt1).trans (r0.out 2 _ rfl);have p3:=(hbH.out.2.cell (p:=⟨w.heap.size+1,3,none⟩) hlt1).trans (r0.out 3 _ rfl);have p4:=(hbH.out.2.cell (p:=⟨w.heap.size+1,4,none⟩) hlt1).trans (r0.out 4 _ rfl);have z0:=(hbH.out.2.frozen (p:=⟨w.heap.size+1,0,none⟩) hlt1).trans (f0.out 0);have z1:=(hbH.out.2.frozen (p:=⟨w.heap.size+1,1,none⟩) hlt1).trans (f0.out 1);have z2:=(hbH.out.2.frozen (p:=⟨w.heap.size+1,2,none⟩) hlt1).trans (f0.out 2);have z3:=(hbH.out.2.frozen (p:=⟨w.heap.size+1,3,none⟩) hlt1).trans (f0.out 3);have z4:=(hbH.out.2.frozen (p:=⟨w.heap.size+1,4,none⟩) hlt1).trans (f0.out 4))
 all_goals
  go_wp2
  have hB:Below w.heap.size w w2:=hg1.below.trans (hbH.out.2.mono hg1.size)
  have hlt:w.heap.size+1<w.heap.size+1+1:=by omega
  have hge:w.heap.size≤w.heap.size+1:=by omega
  exact bodyPost_ret (v:= X #[J V c.c0,J V c.c1,J V c.c2,J V c.c3,I B c.l.length cb]) (by simp[results,Tryz.results56,go_sem,p0,p1,p2,p3,p4]) rfl ⟨B,cb,rfl,(((((hbH.out.1.setCell hlt _).setCell hlt _).setCell hlt _).setCell hlt _).setCell hlt _).mono (by omega),((((hB.setCell hge _).setCell hge _).setCell hge _).setCell hge _).setCell hge _⟩

theorem cV {w w':World} {base:Nat} {e:TypeId} {k:Nat} {v:Value} {n:Nat} {l:List Value} (h:w.ownsRow base e k v n l) (hA:Agr (fun b=>base≤b) w w'):w'.ownsRow base e k v n l:=by
 refine ⟨h.1,?_⟩
 rcases h.2 with h1|⟨g,cap,cur,hv,hb,hc,rest⟩
 ·exact oL h1
 ·exact oR ⟨g,cap,cur,hv,hb,(hA.block g hb (Array.getElem?_eq_some_iff.1 hc).1).trans hc,rest⟩
theorem iY {w:World} {N O:Nat} {P:Nat→Prop} {id:Int} {s t:Tab} {qs:List (List Stp)} (h:Nd w N O P id s t qs) :
  Calls Z 34 #[.pointer (some ⟨N,O,none⟩)] w fun e w'=>∃(EA:Option Addr) (eca:Nat) (EC:Option Addr) (ecc:Nat) (EB:Option Addr) (ecb:Nat) (ED:Option Addr) (ecd:Nat),e= Y (X (T2 s EA eca EC ecc t EB ecb ED ecd).toArray)∧(Own w' w.heap.size (I EA s.c.l.length eca) s.c.l∧dB w' w.heap.size (I EC s.e.length ecc) s.e)∧(Own w' w.heap.size (I EB t.c.l.length ecb) t.c.l∧dB w' w.heap.size (I ED t.e.length ecd) t.e)∧Below w.heap.size w w':=by
 have mixed:Tryz.prog.follows .mixedOrders=true:=by kernel_rfl
 obtain ⟨A,ca,C,cc,hcs,hts⟩:=h.ts
 obtain ⟨B,cb,D,cd,hct,htt⟩:=h.tt
 have hx0:=qR (J V s.c.c0) (J V s.c.c1) (J V s.c.c2) (J V s.c.c3) (I A s.c.l.length ca) (I C s.e.length cc) (J V t.c.c0) (J V t.c.c1) (J V t.c.c2) (J V t.c.c3) (I B t.c.l.length cb) (I D t.e.length cd)
 have hx1:=qS (J V s.c.c0) (J V s.c.c1) (J V s.c.c2) (J V s.c.c3) (I A s.c.l.length ca) (I C s.e.length cc) (J V t.c.c0) (J V t.c.c1) (J V t.c.c2) (J V t.c.c3) (I B t.c.l.length cb) (I D t.e.length cd)
 have n1:=hcs.k0
 have n2:=hcs.k1
 have n3:=hcs.k2
 have n4:=hcs.k3
 have n5:=hcs.k4
 have n6:=hcs.k5
 have n7:=hct.k0
 have n8:=hct.k1
 have n9:=hct.k2
 have n10:=hct.k3
 have n11:=hct.k4
 have n12:=hct.k5
 have hH:Hid (TbP P w s A ca C cc∧TbP P w t B cb D cd∧True):=⟨hts,htt,trivial⟩
 have hltN:N<w.heap.size:=h.blk.lt
 have hltM:N<w.heap.size+1:=by omega
 clear h hts htt hcs hct
 go_enter Tryz.func34,Tryz.ntmps34
 go_wp2
 obtain ⟨w1,hw1⟩:∃W,(w.alloc (H #[J V 0,J V 0,J V 0,J V 0,I none 0 0,I none 0 0,J V 0,J V 0,J V 0,J V 0,I none 0 0,I none 0 0] 90)).alloc (H #[J V 0,J V 0,J V 0,J V 0,I none 0 0,I none 0 0,J V 0,J V 0,J V 0,J V 0,I none 0 0,I none 0 0] 90)=W:=⟨_,rfl⟩
 rw[hw1]
 have hI:Hid (Below w.heap.size w w1∧Cls w1 (w.heap.size+1) Z2∧Cls w1 w.heap.size Z2):=by
  refine ⟨by rw[←hw1];exact (((gR w).alloc _).alloc _).below,?_,by rw[←hw1];exact (Cls.new w _ _).gr ((gR _).alloc _)⟩
  have:=Cls.new (w.alloc (H #[J V 0,J V 0,J V 0,J V 0,I none 0 0,I none 0 0,J V 0,J V 0,J V 0,J V 0,I none 0 0,I none 0 0] 90)) #[J V 0,J V 0,J V 0,J V 0,I none 0 0,I none 0 0,J V 0,J V 0,J V 0,J V 0,I none 0 0,I none 0 0] 90
  rw[hw1,show (w.alloc (H #[J V 0,J V 0,J V 0,J V 0,I none 0 0,I none 0 0,J V 0,J V 0,J V 0,J V 0,I none 0 0,I none 0 0] 90)).heap.size=w.heap.size+1 by simp] at this
  exact this
 clear hw1 n1 n2 n3 n4 n5 n6 n7 n8 n9 n10 n11 n12
 refine wp_loop_rounds 3 ?_
 rw[rounds_succ]
 go_upto_region 5 with fail
 obtain ⟨wb0,hwb⟩:∃W,w1.alloc (H #[J V s.c.c0,J V s.c.c1,J V s.c.c2,J V s.c.c3,I A s.c.l.length ca,I C s.e.length cc] 41)=W:=⟨_,rfl⟩
 rw[hwb]
 have hA:Hid (Gr w1 wb0∧Below w.heap.size w wb0∧Cls wb0 w1.heap.size (T6 s A ca C cc)∧Cls wb0 (w.heap.size+1) Z2∧Cls wb0 w.heap.size Z2∧w.heap.size+1<w1.heap.size∧w1.heap.size<wb0.heap.size):=by
  have hg:Gr w1 wb0:=by rw[←hwb];exact (gR _).alloc _
  exact ⟨hg,hI.out.1.trans (hg.below.mono hI.out.1.size),by rw[←hwb];exact Cls.new w1 _ _,hI.out.2.1.gr hg,hI.out.2.2.gr hg,hI.out.2.1.lt,by rw[←hwb];simp⟩
 clear hwb
 have hD0:Hid (Below wb0.heap.size wb0 wb0.drew):=(gR wb0).drew.below
 have hCc:Hid (∀W,Below wb0.heap.size wb0 W→Calls Z 56 #[X #[J V s.c.c0,J V s.c.c1,J V s.c.c2,J V s.c.c3,I A s.c.l.length ca]] W fun e w'=>∃B cb,e= Y (X #[J V s.c.c0,J V s.c.c1,J V s.c.c2,J V s.c.c3,I B s.c.l.length cb])∧Own w' W.heap.size (I B s.c.l.length cb) s.c.l∧Below W.heap.size W w'):=fun W hW=>by
  have hb:=hA.out.2.1.trans (hW.mono hA.out.2.1.size)
  have hr:=hH.out.1.below hb
  exact fy s.c A ca W (aY (ae hr.ok).1).2.1 hr.row hr.nr
 have hCl:Hid (∀W,Below wb0.heap.size wb0 W→Calls Z 57 #[I C s.e.length cc] W fun e w'=>∃C c,e= Y (I C s.e.length c)∧dB w' W.heap.size (I C s.e.length c) s.e∧Below W.heap.size W w'):=fun W hW=>by
  have hb:=hA.out.2.1.trans (hW.mono hA.out.2.1.size)
  have hr:=hH.out.1.below hb
  have:=(ae hr.ok).2.1
  exact lU s.e C cc W (by omega) hr.cel hr.nc
 have hKc:Hid (∀W,Cls W w1.heap.size (T6 s A ca C cc)→(fun w'=>w'.cell? ⟨w1.heap.size,0,none⟩=some (J V s.c.c0)∧w'.cell? ⟨w1.heap.size,1,none⟩=some (J V s.c.c1)∧w'.cell? ⟨w1.heap.size,2,none⟩=some (J V s.c.c2)∧w'.cell? ⟨w1.heap.size,3,none⟩=some (J V s.c.c3)∧w'.cell? ⟨w1.heap.size,4,none⟩=some (I A s.c.l.length ca)∧w'.cell? ⟨w1.heap.size,5,none⟩=some (I C s.e.length cc)) W):=fun W hW=>⟨hW.cell (j:=0) rfl,hW.cell (j:=1) rfl,hW.cell (j:=2) rfl,hW.cell (j:=3) rfl,hW.cell (j:=4) rfl,hW.cell (j:=5) rfl⟩
 have hne:Hid (w1.heap.size≠w.heap.size+1):=by have:=hA.out.2.2.2.2.2.1;show _≠_;omega
 refine wp_region_noPanic ?_
 refine wp_region_held_drew (S:=(fun w'=>w'.cell? ⟨w1.heap.size,0,none⟩=some (J V s.c.c0)∧w'.cell? ⟨w1.heap.size,1,none⟩=some (J V s.c.c1)∧w'.cell? ⟨w1.heap.size,2,none⟩=some (J V s.c.c2)∧w'.cell? ⟨w1.heap.size,3,none⟩=some (J V s.c.c3)∧w'.cell? ⟨w1.heap.size,4,none⟩=some (I A s.c.l.length ca)∧w'.cell? ⟨w1.heap.size,5,none⟩=some (I C s.e.length cc))) (by kernel_rfl) (hKc.out _ (hA.out.2.2.1.below hD0.out)) (fun hHeld=> ?_)
 refine tks [0,1,2,4,5,8] (by assumption) ?_
 iterate 6 (refine tk (v:= ?_) (by rfl) (by kernel_rfl) ?_ ?_;rotate_left;· (refine oL ⟨by rfl,?_⟩;intro w hSw;(try dsimp only at hSw);go_simp<;>with_reducible rfl);try simp only[Act.put,yA,aD,yS])
 refine tk0 ?_
 refine rdy 3 (by kernel_rfl) (by rfl) fun K hK=> ?_
 go_simp
 (go_at_call 56;(with_reducible refine cM (hCc.out _ hD0.out) ?_);rintro e w2 ⟨EA,eca,rfl,f1,f2⟩;have hF:Hid (Below wb0.heap.size wb0 w2∧Own w2 wb0.heap.size (I EA s.c.l.length eca) s.c.l):=⟨hD0.out.trans (f2.mono hD0.out.size),f1⟩;clear f1 f2)
 first|(go_wp2_with fail)|skip
 refine hK.out _ _ ?_ (fun hHeld=> ?_)
 ·(try dsimp only);first|with_reducible exact hKc.out _ (hA.out.2.2.1.below hG.out.1)|with_reducible exact hKc.out _ (hA.out.2.2.1.below hF.out.1)|exact hKc.out _ (((((((hA.out.2.2.1.below hG.out.1).oth hne.out _).oth hne.out _).oth hne.out _).oth hne.out _).oth hne.out _).oth hne.out _)
 clear hK K
 try simp only[Act.put,yA,aD,yS]
 refine rdy 6 (by kernel_rfl) (by rfl) fun K hK=> ?_
 go_simp
 (go_at_call 57;(with_reducible refine cM (hCl.out _ hF.out.1) ?_);rintro e w3 ⟨EC,ecc,rfl,f1,f2⟩;have hG:Hid (Below wb0.heap.size wb0 w3∧Own w3 wb0.heap.size (I EA s.c.l.length eca) s.c.l∧dB w3 wb0.heap.size (I EC s.e.length ecc) s.e):=⟨hF.out.1.trans (f2.mono hF.out.1.size),hF.out.2.below f2,f1.mono hF.out.1.size⟩;clear f1 f2;have p0:=(hA.out.2.2.2.1.below hG.out.1).cell (j:=0) rfl;have z0:=(hA.out.2.2.2.1.below hG.out.1).fz 0;have p1:=(hA.out.2.2.2.1.below hG.out.1).cell (j:=1) rfl;have z1:=(hA.out.2.2.2.1.below hG.out.1).fz 1;have p2:=(hA.out.2.2.2.1.below hG.out.1).cell (j:=2) rfl;have z2:=(hA.out.2.2.2.1.below hG.out.1).fz 2;have p3:=(hA.out.2.2.2.1.below hG.out.1).cell (j:=3) rfl;have z3:=(hA.out.2.2.2.1.below hG.out.1).fz 3;have p4:=(hA.out.2.2.2.1.below hG.out.1).cell (j:=4) rfl;have z4:=(hA.out.2.2.2.1.below hG.out.1).fz 4;have p5:=(hA.out.2.2.2.1.below hG.out.1).cell (j:=5) rfl;have z5:=(hA.out.2.2.2.1.below hG.out.1).fz 5)
 first|(go_wp2_with fail)|skip
 refine hK.out _ _ ?_ (fun hHeld=> ?_)
 ·(try dsimp only);first|with_reducible exact hKc.out _ (hA.out.2.2.1.below hG.out.1)|with_reducible exact hKc.out _ (hA.out.2.2.1.below hF.out.1)|exact hKc.out _ (((((((hA.out.2.2.1.below hG.out.1).oth hne.out _).oth hne.out _).oth hne.out _).oth hne.out _).oth hne.out _).oth hne.out _)
 clear hK K
 try simp only[Act.put,yA,aD,yS]
 refine tks [7,9] (by assumption) ?_
 iterate 2 (refine tk (v:= ?_) (by rfl) (by kernel_rfl) ?_ ?_;rotate_left;· (refine oL ⟨by rfl,?_⟩;intro w hSw;(try dsimp only at hSw);go_simp<;>with_reducible rfl);try simp only[Act.put,yA,aD,yS])
 refine tk0 ?_
 refine rdy 10 (by kernel_rfl) (by rfl) fun K hK=> ?_
 go_simp
 refine hK.out _ _ ?_ (fun hHeld=> ?_)
 ·(try dsimp only);first|with_reducible exact hKc.out _ (hA.out.2.2.1.below hG.out.1)|with_reducible exact hKc.out _ (hA.out.2.2.1.below hF.out.1)|exact hKc.out _ (((((((hA.out.2.2.1.below hG.out.1).oth hne.out _).oth hne.out _).oth hne.out _).oth hne.out _).oth hne.out _).oth hne.out _)
 clear hK K
 try simp only[Act.put,yA,aD,yS]
 refine wpAnyH_done (by kernel_rfl) ?_ _
 refine NoPanic.normal ?_
 go_wp2_with fail
 obtain ⟨wd0,hwd⟩:∃W,((((((w3.setCell ⟨w.heap.size+1,0,none⟩ (J V s.c.c0)).setCell ⟨w.heap.size+1,1,none⟩ (J V s.c.c1)).setCell ⟨w.heap.size+1,2,none⟩ (J V s.c.c2)).setCell ⟨w.heap.size+1,3,none⟩ (J V s.c.c3)).setCell ⟨w.heap.size+1,4,none⟩ (I EA s.c.l.length eca)).setCell ⟨w.heap.size+1,5,none⟩ (I EC s.e.length ecc))=W:=⟨_,rfl⟩
 rw[hwd]
 have hJ:Hid (Below w.heap.size w wd0∧Cls wd0 (w.heap.size+1) [J V s.c.c0,J V s.c.c1,J V s.c.c2,J V s.c.c3,I EA s.c.l.length eca,I EC s.e.length ecc,J V 0,J V 0,J V 0,J V 0,I none 0 0,I none 0 0]∧Cls wd0 w.heap.size Z2∧Own wd0 wb0.heap.size (I EA s.c.l.length eca) s.c.l∧dB wd0 wb0.heap.size (I EC s.e.length ecc) s.e):=by
  have hs1:=hA.out.2.2.2.2.2.1
  have hs2:=hA.out.2.2.2.2.2.2
  have hb3:=hA.out.2.1.trans (hG.out.1.mono hA.out.2.1.size)
  have hge:w.heap.size≤w.heap.size+1:=by omega
  have hnw:w.heap.size≠w.heap.size+1:=by omega
  refine ⟨?_,?_,?_,?_,?_⟩
  ·rw[←hwd];exact (((((hb3.setCell hge _).setCell hge _).setCell hge _).setCell hge _).setCell hge _).setCell hge _
  ·rw[←hwd];exact ((((((hA.out.2.2.2.1.below hG.out.1).put 0 _).put 1 _).put 2 _).put 3 _).put 4 _).put 5 _
  ·rw[←hwd];exact ((((((hA.out.2.2.2.2.1.below hG.out.1).oth hnw _).oth hnw _).oth hnw _).oth hnw _).oth hnw _).oth hnw _
  ·rw[←hwd];exact cV hG.out.2.1 ((((((aS _ fun h=>by omega).trans (aS _ fun h=>by omega)).trans (aS _ fun h=>by omega)).trans (aS _ fun h=>by omega)).trans (aS _ fun h=>by omega)).trans (aS _ fun h=>by omega))
  ·rw[←hwd];exact cV hG.out.2.2 ((((((aS _ fun h=>by omega).trans (aS _ fun h=>by omega)).trans (aS _ fun h=>by omega)).trans (aS _ fun h=>by omega)).trans (aS _ fun h=>by omega)).trans (aS _ fun h=>by omega))
 clear hwd hG hF hCc hCl hKc hne hD0 hHeld p0 z0 p1 z1 p2 z2 p3 z3 p4 z4 p5 z5
 have hI0:Hid (Own wd0 wb0.heap.size (I EA s.c.l.length eca) s.c.l∧dB wd0 wb0.heap.size (I EC s.e.length ecc) s.e):=⟨hJ.out.2.2.2.1,hJ.out.2.2.2.2⟩
 have hs0H:Hid (w.heap.size+1<wb0.heap.size):=by have h1:=hA.out.2.2.2.2.2.1;have h2:=hA.out.2.2.2.2.2.2;show _<_;omega
 have hI2:Hid (Below w.heap.size w wd0∧Cls wd0 (w.heap.size+1) [J V s.c.c0,J V s.c.c1,J V s.c.c2,J V s.c.c3,I EA s.c.l.length eca,I EC s.e.length ecc,J V 0,J V 0,J V 0,J V 0,I none 0 0,I none 0 0]∧Cls wd0 w.heap.size Z2):=⟨hJ.out.1,hJ.out.2.1,hJ.out.2.2.1⟩
 clear hA hI hJ
 have hI:=hI2
 clear hI2
 rw[rounds_succ]
 go_upto_region 5 with fail
 obtain ⟨wb1,hwb⟩:∃W,wd0.alloc (H #[J V t.c.c0,J V t.c.c1,J V t.c.c2,J V t.c.c3,I B t.c.l.length cb,I D t.e.length cd] 41)=W:=⟨_,rfl⟩
 rw[hwb]
 have hA:Hid (Gr wd0 wb1∧Below w.heap.size w wb1∧Cls wb1 wd0.heap.size (T6 t B cb D cd)∧Cls wb1 (w.heap.size+1) [J V s.c.c0,J V s.c.c1,J V s.c.c2,J V s.c.c3,I EA s.c.l.length eca,I EC s.e.length ecc,J V 0,J V 0,J V 0,J V 0,I none 0 0,I none 0 0]∧Cls wb1 w.heap.size Z2∧w.heap.size+1<wd0.heap.size∧wd0.heap.size<wb1.heap.size):=by
  have hg:Gr wd0 wb1:=by rw[←hwb];exact (gR _).alloc _
  exact ⟨hg,hI.out.1.trans (hg.below.mono hI.out.1.size),by rw[←hwb];exact Cls.new wd0 _ _,hI.out.2.1.gr hg,hI.out.2.2.gr hg,hI.out.2.1.lt,by rw[←hwb];simp⟩
 clear hwb
 have hD0:Hid (Below wb1.heap.size wb1 wb1.drew):=(gR wb1).drew.below
 have hCc:Hid (∀W,Below wb1.heap.size wb1 W→Calls Z 56 #[X #[J V t.c.c0,J V t.c.c1,J V t.c.c2,J V t.c.c3,I B t.c.l.length cb]] W fun e w'=>∃B cb,e= Y (X #[J V t.c.c0,J V t.c.c1,J V t.c.c2,J V t.c.c3,I B t.c.l.length cb])∧Own w' W.heap.size (I B t.c.l.length cb) t.c.l∧Below W.heap.size W w'):=fun W hW=>by
  have hb:=hA.out.2.1.trans (hW.mono hA.out.2.1.size)
  have hr:=hH.out.2.1.below hb
  exact fy t.c B cb W (aY (ae hr.ok).1).2.1 hr.row hr.nr
 have hCl:Hid (∀W,Below wb1.heap.size wb1 W→Calls Z 57 #[I D t.e.length cd] W fun e w'=>∃C c,e= Y (I C t.e.length c)∧dB w' W.heap.size (I C t.e.length c) t.e∧Below W.heap.size W w'):=fun W hW=>by
  have hb:=hA.out.2.1.trans (hW.mono hA.out.2.1.size)
  have hr:=hH.out.2.1.below hb
  have:=(ae hr.ok).2.1
  exact lU t.e D cd W (by omega) hr.cel hr.nc
 have hKc:Hid (∀W,Cls W wd0.heap.size (T6 t B cb D cd)→(fun w'=>w'.cell? ⟨wd0.heap.size,0,none⟩=some (J V t.c.c0)∧w'.cell? ⟨wd0.heap.size,1,none⟩=some (J V t.c.c1)∧w'.cell? ⟨wd0.heap.size,2,none⟩=some (J V t.c.c2)∧w'.cell? ⟨wd0.heap.size,3,none⟩=some (J V t.c.c3)∧w'.cell? ⟨wd0.heap.size,4,none⟩=some (I B t.c.l.length cb)∧w'.cell? ⟨wd0.heap.size,5,none⟩=some (I D t.e.length cd)) W):=fun W hW=>⟨hW.cell (j:=0) rfl,hW.cell (j:=1) rfl,hW.cell (j:=2) rfl,hW.cell (j:=3) rfl,hW.cell (j:=4) rfl,hW.cell (j:=5) rfl⟩
 have hne:Hid (wd0.heap.size≠w.heap.size+1):=by have:=hA.out.2.2.2.2.2.1;show _≠_;omega
 refine wp_region_noPanic ?_
 refine wp_region_held_drew (S:=(fun w'=>w'.cell? ⟨wd0.heap.size,0,none⟩=some (J V t.c.c0)∧w'.cell? ⟨wd0.heap.size,1,none⟩=some (J V t.c.c1)∧w'.cell? ⟨wd0.heap.size,2,none⟩=some (J V t.c.c2)∧w'.cell? ⟨wd0.heap.size,3,none⟩=some (J V t.c.c3)∧w'.cell? ⟨wd0.heap.size,4,none⟩=some (I B t.c.l.length cb)∧w'.cell? ⟨wd0.heap.size,5,none⟩=some (I D t.e.length cd))) (by kernel_rfl) (hKc.out _ (hA.out.2.2.1.below hD0.out)) (fun hHeld=> ?_)
 refine tks [0,1,2,4,5,8] (by assumption) ?_
 iterate 6 (refine tk (v:= ?_) (by rfl) (by kernel_rfl) ?_ ?_;rotate_left;· (refine oL ⟨by rfl,?_⟩;intro w hSw;(try dsimp only at hSw);go_simp<;>with_reducible rfl);try simp only[Act.put,yA,aD,yS])
 refine tk0 ?_
 refine rdy 3 (by kernel_rfl) (by rfl) fun K hK=> ?_
 go_simp
 (go_at_call 56;(with_reducible refine cM (hCc.out _ hD0.out) ?_);rintro e w2 ⟨EB,ecb,rfl,f1,f2⟩;have hF:Hid (Below wb1.heap.size wb1 w2∧Own w2 wb1.heap.size (I EB t.c.l.length ecb) t.c.l):=⟨hD0.out.trans (f2.mono hD0.out.size),f1⟩;clear f1 f2)
 first|(go_wp2_with fail)|skip
 refine hK.out _ _ ?_ (fun hHeld=> ?_)
 ·(try dsimp only);first|with_reducible exact hKc.out _ (hA.out.2.2.1.below hG.out.1)|with_reducible exact hKc.out _ (hA.out.2.2.1.below hF.out.1)|exact hKc.out _ (((((((hA.out.2.2.1.below hG.out.1).oth hne.out _).oth hne.out _).oth hne.out _).oth hne.out _).oth hne.out _).oth hne.out _)
 clear hK K
 try simp only[Act.put,yA,aD,yS]
 refine rdy 6 (by kernel_rfl) (by rfl) fun K hK=> ?_
 go_simp
 (go_at_call 57;(with_reducible refine cM (hCl.out _ hF.out.1) ?_);rintro e w3 ⟨ED,ecd,rfl,f1,f2⟩;have hG:Hid (Below wb1.heap.size wb1 w3∧Own w3 wb1.heap.size (I EB t.c.l.length ecb) t.c.l∧dB w3 wb1.heap.size (I ED t.e.length ecd) t.e):=⟨hF.out.1.trans (f2.mono hF.out.1.size),hF.out.2.below f2,f1.mono hF.out.1.size⟩;clear f1 f2;have p6:=(hA.out.2.2.2.1.below hG.out.1).cell (j:=6) rfl;have z6:=(hA.out.2.2.2.1.below hG.out.1).fz 6;have p7:=(hA.out.2.2.2.1.below hG.out.1).cell (j:=7) rfl;have z7:=(hA.out.2.2.2.1.below hG.out.1).fz 7;have p8:=(hA.out.2.2.2.1.below hG.out.1).cell (j:=8) rfl;have z8:=(hA.out.2.2.2.1.below hG.out.1).fz 8;have p9:=(hA.out.2.2.2.1.below hG.out.1).cell (j:=9) rfl;have z9:=(hA.out.2.2.2.1.below hG.out.1).fz 9;have p10:=(hA.out.2.2.2.1.below hG.out.1).cell (j:=10) rfl;have z10:=(hA.out.2.2.2.1.below hG.out.1).fz 10;have p11:=(hA.out.2.2.2.1.below hG.out.1).cell (j:=11) rfl;have z11:=(hA.out.2.2.2.1.below hG.out.1).fz 11)
 first|(go_wp2_with fail)|skip
 refine hK.out _ _ ?_ (fun hHeld=> ?_)
 ·(try dsimp only);first|with_reducible exact hKc.out _ (hA.out.2.2.1.below hG.out.1)|with_reducible exact hKc.out _ (hA.out.2.2.1.below hF.out.1)|exact hKc.out _ (((((((hA.out.2.2.1.below hG.out.1).oth hne.out _).oth hne.out _).oth hne.out _).oth hne.out _).oth hne.out _).oth hne.out _)
 clear hK K
 try simp only[Act.put,yA,aD,yS]
 refine tks [7,9] (by assumption) ?_
 iterate 2 (refine tk (v:= ?_) (by rfl) (by kernel_rfl) ?_ ?_;rotate_left;· (refine oL ⟨by rfl,?_⟩;intro w hSw;(try dsimp only at hSw);go_simp<;>with_reducible rfl);try simp only[Act.put,yA,aD,yS])
 refine tk0 ?_
 refine rdy 10 (by kernel_rfl) (by rfl) fun K hK=> ?_
 go_simp
 refine hK.out _ _ ?_ (fun hHeld=> ?_)
 ·(try dsimp only);first|with_reducible exact hKc.out _ (hA.out.2.2.1.below hG.out.1)|with_reducible exact hKc.out _ (hA.out.2.2.1.below hF.out.1)|exact hKc.out _ (((((((hA.out.2.2.1.below hG.out.1).oth hne.out _).oth hne.out _).oth hne.out _).oth hne.out _).oth hne.out _).oth hne.out _)
 clear hK K
 try simp only[Act.put,yA,aD,yS]
 refine wpAnyH_done (by kernel_rfl) ?_ _
 refine NoPanic.normal ?_
 go_wp2_with fail
 obtain ⟨wd1,hwd⟩:∃W,((((((w3.setCell ⟨w.heap.size+1,6,none⟩ (J V t.c.c0)).setCell ⟨w.heap.size+1,7,none⟩ (J V t.c.c1)).setCell ⟨w.heap.size+1,8,none⟩ (J V t.c.c2)).setCell ⟨w.heap.size+1,9,none⟩ (J V t.c.c3)).setCell ⟨w.heap.size+1,10,none⟩ (I EB t.c.l.length ecb)).setCell ⟨w.heap.size+1,11,none⟩ (I ED t.e.length ecd))=W:=⟨_,rfl⟩
 rw[hwd]
 have hJ:Hid (Below w.heap.size w wd1∧Cls wd1 (w.heap.size+1) (T2 s EA eca EC ecc t EB ecb ED ecd)∧Cls wd1 w.heap.size Z2∧Own wd1 wb1.heap.size (I EB t.c.l.length ecb) t.c.l∧dB wd1 wb1.heap.size (I ED t.e.length ecd) t.e∧Own wd1 wb0.heap.size (I EA s.c.l.length eca) s.c.l∧dB wd1 wb0.heap.size (I EC s.e.length ecc) s.e):=by
  have hs1:=hA.out.2.2.2.2.2.1
  have hs2:=hA.out.2.2.2.2.2.2
  have hb3:=hA.out.2.1.trans (hG.out.1.mono hA.out.2.1.size)
  have hge:w.heap.size≤w.heap.size+1:=by omega
  have hnw:w.heap.size≠w.heap.size+1:=by omega
  refine ⟨?_,?_,?_,?_,?_,?_,?_⟩
  ·rw[←hwd];exact (((((hb3.setCell hge _).setCell hge _).setCell hge _).setCell hge _).setCell hge _).setCell hge _
  ·rw[←hwd];exact ((((((hA.out.2.2.2.1.below hG.out.1).put 6 _).put 7 _).put 8 _).put 9 _).put 10 _).put 11 _
  ·rw[←hwd];exact ((((((hA.out.2.2.2.2.1.below hG.out.1).oth hnw _).oth hnw _).oth hnw _).oth hnw _).oth hnw _).oth hnw _
  ·rw[←hwd];exact cV hG.out.2.1 ((((((aS _ fun h=>by omega).trans (aS _ fun h=>by omega)).trans (aS _ fun h=>by omega)).trans (aS _ fun h=>by omega)).trans (aS _ fun h=>by omega)).trans (aS _ fun h=>by omega))
  ·rw[←hwd];exact cV hG.out.2.2 ((((((aS _ fun h=>by omega).trans (aS _ fun h=>by omega)).trans (aS _ fun h=>by omega)).trans (aS _ fun h=>by omega)).trans (aS _ fun h=>by omega)).trans (aS _ fun h=>by omega))
  ·have hbx:Below wd0.heap.size wd0 w3:=hA.out.1.below.trans (hG.out.1.mono hA.out.1.size)
   have hs00:=hs0H.out
   rw[←hwd];exact cV (hI0.out.1.below hbx) ((((((aS _ fun h=>by omega).trans (aS _ fun h=>by omega)).trans (aS _ fun h=>by omega)).trans (aS _ fun h=>by omega)).trans (aS _ fun h=>by omega)).trans (aS _ fun h=>by omega))
  ·have hbx:Below wd0.heap.size wd0 w3:=hA.out.1.below.trans (hG.out.1.mono hA.out.1.size)
   have hs00:=hs0H.out
   rw[←hwd];exact cV (af.below hI0.out.2 hbx) ((((((aS _ fun h=>by omega).trans (aS _ fun h=>by omega)).trans (aS _ fun h=>by omega)).trans (aS _ fun h=>by omega)).trans (aS _ fun h=>by omega)).trans (aS _ fun h=>by omega))
 clear hwd hG hF hCc hCl hKc hne hD0 hHeld p6 z6 p7 z7 p8 z8 p9 z9 p10 z10 p11 z11
 rw[rounds_succ]
 obtain ⟨q0,q1,q2,q3,q4,q5,q6,q7,q8,q9,q10,q11⟩:=dR hJ.out.2.1
 obtain ⟨r0,r1,r2,r3,r4,r5,r6,r7,r8,r9,r10,r11⟩:=dR hJ.out.2.2.1
 obtain ⟨z0,z1,z2,z3,z4,z5,z6,z7,z8,z9,z10,z11⟩:=ov hJ.out.2.2.1
 go_wp2
 have hs00:=hs0H.out
 have hs1:=hA.out.2.2.2.2.2.1
 have hs2:=hA.out.2.2.2.2.2.2
 have hAg:∀base,w.heap.size<base→Agr (fun b=>base≤b) wd1 ((((((((((((wd1.setCell ⟨w.heap.size,0,none⟩ (J V s.c.c0)).setCell ⟨w.heap.size,1,none⟩ (J V s.c.c1)).setCell ⟨w.heap.size,2,none⟩ (J V s.c.c2)).setCell ⟨w.heap.size,3,none⟩ (J V s.c.c3)).setCell ⟨w.heap.size,4,none⟩ (I EA s.c.l.length eca)).setCell ⟨w.heap.size,5,none⟩ (I EC s.e.length ecc)).setCell ⟨w.heap.size,6,none⟩ (J V t.c.c0)).setCell ⟨w.heap.size,7,none⟩ (J V t.c.c1)).setCell ⟨w.heap.size,8,none⟩ (J V t.c.c2)).setCell ⟨w.heap.size,9,none⟩ (J V t.c.c3)).setCell ⟨w.heap.size,10,none⟩ (I EB t.c.l.length ecb)).setCell ⟨w.heap.size,11,none⟩ (I ED t.e.length ecd)):=fun base hbase=>((((((((((((aS _ fun h=>by omega).trans (aS _ fun h=>by omega)).trans (aS _ fun h=>by omega)).trans (aS _ fun h=>by omega)).trans (aS _ fun h=>by omega)).trans (aS _ fun h=>by omega)).trans (aS _ fun h=>by omega)).trans (aS _ fun h=>by omega)).trans (aS _ fun h=>by omega)).trans (aS _ fun h=>by omega)).trans (aS _ fun h=>by omega)).trans (aS _ fun h=>by omega))
 have hl0:w.heap.size≤wb0.heap.size:=by omega
 have hl1:w.heap.size≤wb1.heap.size:=by have:=hA.out.2.1.size;omega
 exact bodyPost_ret (v:= X (T2 s EA eca EC ecc t EB ecb ED ecd).toArray) (by simp[results,Tryz.results34,go_sem,r0,r1,r2,r3,r4,r5,r6,r7,r8,r9,r10,r11]) rfl ⟨EA,eca,EC,ecc,EB,ecb,ED,ecd,rfl,⟨Own.mono (cV hJ.out.2.2.2.2.2.1 (hAg _ (by omega))) hl0,af.mono (cV hJ.out.2.2.2.2.2.2 (hAg _ (by omega))) hl0⟩,⟨Own.mono (cV hJ.out.2.2.2.1 (hAg _ (by omega))) hl1,af.mono (cV hJ.out.2.2.2.2.1 (hAg _ (by omega))) hl1⟩,((((((((((((hJ.out.1.setCell (nR _) _).setCell (nR _) _).setCell (nR _) _).setCell (nR _) _).setCell (nR _) _).setCell (nR _) _).setCell (nR _) _).setCell (nR _) _).setCell (nR _) _).setCell (nR _) _).setCell (nR _) _).setCell (nR _) _)⟩
end Go.Proofs.YtkefkplnamkicaaGreatDoor
