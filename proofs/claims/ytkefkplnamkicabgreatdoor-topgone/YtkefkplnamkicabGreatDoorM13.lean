import Derived.Test.YtkefkplnamkicabGreatDoorM12
import Derived.Test.YtkefkplnamkicabGreatDoorM11
set_option maxRecDepth 100000
set_option maxHeartbeats 8000000
open Go.Ending renaming returned → H
open Go.IntKind renaming i64 → S
open Go.Obj renaming cells → J
open Go.Proofs.Tryz renaming prog → Z
open Go.Value renaming slice → I, int → O, tuple → U, pointer → Q, agg → D
namespace Go.Proofs.YtkefkplnamkicabGreatDoor

end Go.Proofs.YtkefkplnamkicabGreatDoor

namespace Go.Proofs.YtkefkplnamkicabGreatDoor
open Go.RowKit Go.Sort Go.Maps

theorem oH (q:List Stp) (a b:List Zit):aw (iK q a b)=0:=by
 by_cases h:cL q a b=0
 ·exact sA h
 ·rw[uE h];decide
structure Vo (w:World) (V o:Nat) (P:Nat→Prop) (q:List Stp) (QA:Option Addr) (cq:Nat) (a:List Itm) (A:Option Addr) (ca:Nat) (b:List Itm) (B:Option Addr) (cb:Nat):Prop where
 lt:V<w.heap.size
 fz:∀j,w.frozen? ⟨V,j,none⟩=false
 c0:w.cell? ⟨V,o,none⟩=some (I QA q.length cq)
 c1:w.cell? ⟨V,o+1,none⟩=some (I A a.length ca)
 c2:w.cell? ⟨V,o+2,none⟩=some (I B b.length cb)
 st:StP P w QA q
 len:q.length≤8
 la:LvP P w A ca a
 lb:LvP P w B cb b
theorem Vo.below {w w':World} {V o:Nat} {P:Nat→Prop} {q:List Stp} {QA:Option Addr} {cq:Nat} {a:List Itm} {A:Option Addr} {ca:Nat} {b:List Itm} {B:Option Addr} {cb:Nat} (h:Vo w V o P q QA cq a A ca b B cb) (k:Below w.heap.size w w'):Vo w' V o P q QA cq a A ca b B cb :=
 ⟨nL h.lt k.size,fun j=>(k.frozen (p:=⟨V,j,none⟩) h.lt).trans (h.fz j),(k.cell (p:=⟨V,o,none⟩) h.lt).trans h.c0,(k.cell (p:=⟨V,o+1,none⟩) h.lt).trans h.c1,(k.cell (p:=⟨V,o+2,none⟩) h.lt).trans h.c2,h.st.below k,h.len,h.la.below k,h.lb.below k⟩
theorem Vo.gr {w w':World} {V o:Nat} {P:Nat→Prop} {q:List Stp} {QA:Option Addr} {cq:Nat} {a:List Itm} {A:Option Addr} {ca:Nat} {b:List Itm} {B:Option Addr} {cb:Nat} (h:Vo w V o P q QA cq a A ca b B cb) (k:Gr w w'):Vo w' V o P q QA cq a A ca b B cb:=h.below k.below

theorem xp (q:List Stp) (QA:Option Addr) (cq:Nat) (w:World) (hl:q.length≤maxLen) (hq:Stps w QA q) (he:¬bX q=0) :
  Calls Z 56 #[I QA q.length cq] w fun e w'=>e= H (U #[Q none,O S (bX q)])∧Below w.heap.size w w':=by
 have hC0:=nM (A:=QA) (ca:=cq) rfl hl hq
 obtain ⟨E,hE⟩:∃E,bX q=E:=⟨_,rfl⟩
 rw[hE] at hC0 he ⊢
 have hE0:(E != 0)=true:=by simpa using he
 have hC:Hid _:=hC0
 clear hC0 hq hl he hE
 go_enter Tryz.func56,Tryz.ntmps56
 go_wp2_with fail
 refine cM (show Calls _ _ _ _ _ from hC.out) ?_
 rintro e w1 ⟨rfl,hb1⟩
 have hbH:Hid (Below w.heap.size w w1):=hb1
 clear hb1 hC
 go_wp2
 go_ret2
 exact ⟨rfl,hbH.out⟩

theorem yD (q:List Stp) (QA:Option Addr) (cq:Nat) (w:World) (hl:q.length≤maxLen) (hq:Stps w QA q) (he:bX q=0) :
  Calls Z 56 #[I QA q.length cq] w fun e w'=>∃(V:Nat) (q':List Stp) (QB:Option Addr) (cr:Nat),e= H (U #[Q (some ⟨V,0,none⟩),O S 0])∧q'.map bare=q.map bare∧Vo w' V 0 (fun b=>w.heap.size≤b∧b<V) q' QB cr [] none 0 [] none 0∧w.heap.size≤V∧Below w.heap.size w w':=by
 have hC0:=nM (A:=QA) (ca:=cq) he hl hq
 have hC:Hid _:=hC0
 have hs:=ql he
 have hH:Hid (Stps w QA q∧q.length≤8∧∀s∈q,s.l.length≤8):=⟨hq,hs.1,hs.2⟩
 clear hC0 hq hl he hs
 go_enter Tryz.func56,Tryz.ntmps56
 go_wp2_with fail
 refine cM (show Calls _ _ _ _ _ from hC.out) ?_
 rintro e w1 ⟨rfl,hb1⟩
 have hD0:=sn q QA cq w1 hH.out.2.1 hH.out.2.2 (hH.out.1.below hb1)
 have hD:Hid _:=hD0
 have hbH:Hid (Below w.heap.size w w1):=hb1
 clear hb1 hC hD0
 go_wp2_with fail
 refine cM (show Calls _ _ _ _ _ from hD.out) ?_
 rintro e w2 ⟨q',C,k,rfl,h1,h2,h3,h4,h5⟩
 have hfin:Hid (q'.map bare=q.map bare∧Vo (w2.alloc (J #[I C q'.length k,I none 0 0,I none 0 0] 70)) w2.heap.size 0 (fun b=>w.heap.size≤b∧b<w2.heap.size) q' C k [] none 0 [] none 0∧w.heap.size≤w2.heap.size∧Below w.heap.size w (w2.alloc (J #[I C q'.length k,I none 0 0,I none 0 0] 70))):=by
  have hg:Gr w2 (w2.alloc (J #[I C q'.length k,I none 0 0,I none 0 0] 70)):=(gR _).alloc _
  have hbw:=hbH.out.trans (h5.mono hbH.out.size)
  have hlen:q'.length=q.length:=by have:=congrArg List.length h1;simpa using this
  refine ⟨h1,⟨by simp,fun j=>eC (w:=w2) (gR _) j,ab (w:=w2) (gR _) rfl,ab (w:=w2) (gR _) rfl,ab (w:=w2) (gR _) rfl,((StP.new h2 h4).mono fun b hb=>⟨nT hbH.out.size hb.1,hb.2⟩).below hg.below,by rw[hlen];exact hH.out.2.1,LvP.none _ _,LvP.none _ _⟩,hbw.size,hbw.trans (hg.below.mono hbw.size)⟩
 clear h1 h2 h3 h4 h5 hD
 go_wp2
 go_ret2
 exact ⟨w2.heap.size,q',C,k,rfl,hfin.out⟩

theorem tU (w:World) (V o:Nat) (P:Nat→Prop) (q:List Stp) (QA:Option Addr) (cq:Nat) (a:List Itm) (A:Option Addr) (ca:Nat) (b:List Itm) (B:Option Addr) (cb:Nat) (h:Vo w V o P q QA cq a A ca b B cb) :
  Calls Z 120 #[Q (some ⟨V,o,none⟩)] w fun e w'=>∃(L:List Itm) (C:Option Addr) (k:Nat),e= H (I C L.length k)∧L.map Itm.z=iK q (a.map Itm.z) (b.map Itm.z)∧Lv w' C k L∧Below w.heap.size w w'∧NwT w' k w.heap.size C L:=by
 have mixed:Tryz.prog.follows .mixedOrders=true:=by kernel_rfl
 have hq8:=h.len
 have hE0:Hid (∀W,Gr w W→Calls Z 119 #[I QA q.length cq,I A a.length ca,I B b.length cb] W fun e w'=>∃(L:List Itm) (C:Option Addr) (k:Nat),e= H (U #[I C L.length k,O S (cL q (a.map Itm.z) (b.map Itm.z))])∧L.map Itm.z=iK q (a.map Itm.z) (b.map Itm.z)∧Lv w' C k L∧Below W.heap.size W w'∧NwT w' k W.heap.size C L):=fun W hg=>l6 q QA cq a b A B ca cb W (by unfold maxLen;omega) (h.st.st.gr hg) (h.la.lv.gr hg) (h.lb.lv.gr hg)
 have c0:=h.c0
 have c1:=h.c1
 have c2:=h.c2
 clear h hq8
 go_enter Tryz.func120,Tryz.ntmps120
 go_wp2
 go_region_with (go_at_call 119;refine cM (hE0.out _ (gR w).drew) ?_;rintro e w1 ⟨L,C,k,rfl,h1,h2,h3,h4⟩)
 all_goals
  have hfin:Hid (L.map Itm.z=iK q (a.map Itm.z) (b.map Itm.z)∧Lv w1 C k L∧Below w.heap.size w w1∧NwT w1 k w.heap.size C L):=⟨h1,h2,(gR w).drew.below.trans h3,h4⟩
  clear h1 h2 h3 h4
  go_wp2
  go_ret
  exact ⟨L,C,k,rfl,hfin.out⟩

theorem Vo.tabs {w w':World} {V o:Nat} {P P':Nat→Prop} {q:List Stp} {QA:Option Addr} {cq:Nat} {a a':List Itm} {A A':Option Addr} {ca ca':Nat} {b b':List Itm} {B B':Option Addr} {cb cb':Nat} (h:Vo w V o P q QA cq a A ca b B cb) (ha:LvP P' w A' ca' a') (hb:LvP P' w B' cb' b') (hw:(w.setCell ⟨V,o+1,none⟩ (I A' a'.length ca')).setCell ⟨V,o+2,none⟩ (I B' b'.length cb')=w') (hPP:∀b,P b→P' b) (hV:¬P' V) :
  Vo w' V o P' q QA cq a' A' ca' b' B' cb'∧Wr V (o+1) (o+3) w w':=by
 subst hw
 have hW:Wr V (o+1) (o+3) w ((w.setCell ⟨V,o+1,none⟩ (I A' a'.length ca')).setCell ⟨V,o+2,none⟩ (I B' b'.length cb')):=(Wr.set w _ (by omega) (by omega)).trans (Wr.set _ _ (by omega) (by omega))
 have hA:=hW.agr hV
 refine ⟨⟨by simpa using h.lt,fun j=>by simpa using h.fz j,?_,?_,?_,(h.st.mono hPP).agr hA,h.len,ha.agr hA,hb.agr hA⟩,hW⟩
 ·rw[cD (by omega),cD (by omega)];exact h.c0
 ·rw[cD (by omega)];exact World.cell?_setCell_same _ _ _ h.c1
 ·exact World.cell?_setCell_same _ _ _ (u:= I B b.length cb) (by rw[cD (by omega)];exact h.c2)

theorem uF (w:World) (V o:Nat) (P:Nat→Prop) (q:List Stp) (QA:Option Addr) (cq:Nat) (a:List Itm) (A:Option Addr) (ca:Nat) (b:List Itm) (B:Option Addr) (cb:Nat) (h:Vo w V o P q QA cq a A ca b B cb) (x y:List Itm) (X Y:Option Addr) (cx cy:Nat) (hx:Lv w X cx x) (hy:Lv w Y cy y) (he:¬ir q (a.map Itm.z) (b.map Itm.z) (x.map Itm.z) (y.map Itm.z)=0) :
  Calls Z 82 #[Q (some ⟨V,o,none⟩),I X x.length cx,I Y y.length cy] w fun e w'=>∃E,e= H (U #[I none 0 0,O S E])∧E=ir q (a.map Itm.z) (b.map Itm.z) (x.map Itm.z) (y.map Itm.z)∧Below w.heap.size w w':=by
 obtain ⟨E1,hE1⟩:∃E,gi (x.map Itm.z) (y.map Itm.z)=E:=⟨_,rfl⟩
 have hC0:=iZ x y X Y cx cy w hx hy
 rw[hE1] at hC0
 have hC:Hid _:=hC0
 have hH:Hid (Vo w V o P q QA cq a A ca b B cb∧Lv w X cx x∧Lv w Y cy y∧gi (x.map Itm.z) (y.map Itm.z)=E1∧¬ir q (a.map Itm.z) (b.map Itm.z) (x.map Itm.z) (y.map Itm.z)=0):=⟨h,hx,hy,hE1,he⟩
 have hU:Hid (∀E,ir q (a.map Itm.z) (b.map Itm.z) (x.map Itm.z) (y.map Itm.z)=E→True):=fun _ _=>trivial
 obtain ⟨F,hF⟩:∃F,ir q (a.map Itm.z) (b.map Itm.z) (x.map Itm.z) (y.map Itm.z)=F:=⟨_,rfl⟩
 have hFH:Hid (ir q (a.map Itm.z) (b.map Itm.z) (x.map Itm.z) (y.map Itm.z)=F):=hF
 rw[hF]
 clear hC0 h hx hy hE1 he hF hU
 go_enter Tryz.func82,Tryz.ntmps82
 go_wp2_with fail
 refine cM (show Calls _ _ _ _ _ from hC.out) ?_
 rintro e w1 ⟨rfl,hg1⟩
 have hW1:Hid (Vo w1 V o P q QA cq a A ca b B cb∧Lv w1 X cx x∧Lv w1 Y cy y∧Below w.heap.size w w1):=⟨hH.out.1.gr hg1,hH.out.2.1.gr hg1,hH.out.2.2.1.gr hg1,hg1.below⟩
 clear hC hg1
 cases h1:(E1 != 0)
 rotate_left
 focus
  have hfin:Hid (E1=F):=by
   have hn:¬gi (x.map Itm.z) (y.map Itm.z)=0:=by rw[hH.out.2.2.2.1];simpa using h1
   show _=_;rw[←hFH.out];unfold ir;rw[if_neg hn];exact hH.out.2.2.2.1.symm
  go_wp2
  go_ret2
  exact ⟨E1,rfl,hfin.out,hW1.out.2.2.2⟩
 have hT0:Hid (gi (x.map Itm.z) (y.map Itm.z)=0):=by show _=_;rw[hH.out.2.2.2.1];simpa using h1
 have c1:=hW1.out.1.c1
 obtain ⟨E2,hE2⟩:∃E,aR (a.map Itm.z) (x.map Itm.z)=E:=⟨_,rfl⟩
 have hA0:=yU hW1.out.1.la.lv hW1.out.2.1 rfl rfl
 rw[hE2] at hA0
 have hA:Hid _:=hA0
 have hE2H:Hid (aR (a.map Itm.z) (x.map Itm.z)=E2):=hE2
 clear hA0 hE2
 go_wp2_with fail
 refine cM (show Calls _ _ _ _ _ from hA.out) ?_
 rintro e w2 ⟨K,PA,pc,rfl,p1,p2,p3⟩
 have hW2:Hid (Vo w2 V o P q QA cq a A ca b B cb∧Lv w2 Y cy y∧Below w.heap.size w w2∧Lv w2 PA pc K∧K.map Itm.z=aP (a.map Itm.z) (x.map Itm.z)):=⟨hW1.out.1.below p3,hW1.out.2.2.1.below p3,hW1.out.2.2.2.trans (p3.mono hW1.out.2.2.2.size),p2,p1⟩
 clear hA p1 p2 p3 c1 hW1
 cases h2:(E2 != 0)
 rotate_left
 focus
  have hfin:Hid (E2=F):=by
   have hn:¬aR (a.map Itm.z) (x.map Itm.z)=0:=by rw[hE2H.out];simpa using h2
   show _=_;rw[←hFH.out];unfold ir;rw[if_pos hT0.out,if_neg hn];exact hE2H.out.symm
  go_wp2
  go_ret2
  exact ⟨E2,rfl,hfin.out,hW2.out.2.2.1⟩
 have hT2:Hid (aR (a.map Itm.z) (x.map Itm.z)=0):=by show _=_;rw[hE2H.out];simpa using h2
 have c2:=hW2.out.1.c2
 obtain ⟨E3,hE3⟩:∃E,aR (b.map Itm.z) (y.map Itm.z)=E:=⟨_,rfl⟩
 have hA0:=yU hW2.out.1.lb.lv hW2.out.2.1 rfl rfl
 rw[hE3] at hA0
 have hA:Hid _:=hA0
 have hE3H:Hid (aR (b.map Itm.z) (y.map Itm.z)=E3):=hE3
 clear hA0 hE3
 go_wp2_with fail
 refine cM (show Calls _ _ _ _ _ from hA.out) ?_
 rintro e w3 ⟨R,RA,rc,rfl,p1,p2,p3⟩
 have hW3:Hid (Vo w3 V o P q QA cq a A ca b B cb∧Below w.heap.size w w3∧Lv w3 PA pc K∧K.map Itm.z=aP (a.map Itm.z) (x.map Itm.z)∧Lv w3 RA rc R∧R.map Itm.z=aP (b.map Itm.z) (y.map Itm.z)):=⟨hW2.out.1.below p3,hW2.out.2.2.1.trans (p3.mono hW2.out.2.2.1.size),hW2.out.2.2.2.1.below p3,hW2.out.2.2.2.2,p2,p1⟩
 clear hA p1 p2 p3 c2 hW2
 cases h3:(E3 != 0)
 rotate_left
 focus
  have hfin:Hid (E3=F):=by
   have hn:¬aR (b.map Itm.z) (y.map Itm.z)=0:=by rw[hE3H.out];simpa using h3
   show _=_;rw[←hFH.out];unfold ir;rw[if_pos hT0.out,if_pos hT2.out,if_neg hn];exact hE3H.out.symm
  go_wp2
  go_ret2
  exact ⟨E3,rfl,hfin.out,hW3.out.2.1⟩
 have hT3:Hid (aR (b.map Itm.z) (y.map Itm.z)=0):=by show _=_;rw[hE3H.out];simpa using h3
 have c0:=hW3.out.1.c0
 have hq8:=hW3.out.1.len
 have hV0:=uD q QA cq K R PA RA pc rc w3 (by unfold maxLen;omega) hW3.out.1.st.st hW3.out.2.2.1 hW3.out.2.2.2.2.1
 have hPF:Hid (cL q (K.map Itm.z) (R.map Itm.z)=F):=by
  show _=_
  rw[hW3.out.2.2.2.1,hW3.out.2.2.2.2.2,←hFH.out]
  unfold ir
  rw[if_pos hT0.out,if_pos hT2.out,if_pos hT3.out]
 rw[hPF.out] at hV0
 have hV:Hid _:=hV0
 have hF0:(F != 0)=true:=by have:=hH.out.2.2.2.2;rw[hFH.out] at this;simpa using this
 clear hV0 hq8
 go_wp2_with fail
 refine cM (show Calls _ _ _ _ _ from hV.out) ?_
 rintro e w4 ⟨N,NA,nc,rfl,n1,n2,n3⟩
 have hfin:Hid (Below w.heap.size w w4):=hW3.out.2.1.trans (n3.mono hW3.out.2.1.size)
 clear hV n1 n2 n3 c0
 go_wp2
 go_ret2
 exact ⟨F,rfl,rfl,hfin.out⟩

theorem xc (w:World) (V o:Nat) (P:Nat→Prop) (q:List Stp) (QA:Option Addr) (cq:Nat) (a:List Itm) (A:Option Addr) (ca:Nat) (b:List Itm) (B:Option Addr) (cb:Nat) (h:Vo w V o P q QA cq a A ca b B cb) (hV:¬P V) (x y:List Itm) (X Y:Option Addr) (cx cy:Nat) (hx:Lv w X cx x) (hy:Lv w Y cy y) (he:ir q (a.map Itm.z) (b.map Itm.z) (x.map Itm.z) (y.map Itm.z)=0) :
  Calls Z 82 #[Q (some ⟨V,o,none⟩),I X x.length cx,I Y y.length cy] w fun e w'=>∃(n:Nat) (C:Option Addr) (k:Nat) (a':List Itm) (A':Option Addr) (ca':Nat) (b':List Itm) (B':Option Addr) (cb':Nat),e= H (U #[I C n k,O S 0])∧a'.map Itm.z=aP (a.map Itm.z) (x.map Itm.z)∧b'.map Itm.z=aP (b.map Itm.z) (y.map Itm.z)∧Vo w' V o (ag P w.heap.size w'.heap.size) q QA cq a' A' ca' b' B' cb'∧Wr V (o+1) (o+3) w w':=by
 obtain ⟨f1,f2,f3,f4⟩:=qn he
 have hC0:=iZ x y X Y cx cy w hx hy
 rw[f1] at hC0
 have hC:Hid _:=hC0
 have hH:Hid (Vo w V o P q QA cq a A ca b B cb∧Lv w X cx x∧Lv w Y cy y):=⟨h,hx,hy⟩
 have hF:Hid (aR (a.map Itm.z) (x.map Itm.z)=0∧aR (b.map Itm.z) (y.map Itm.z)=0∧cL q (aP (a.map Itm.z) (x.map Itm.z)) (aP (b.map Itm.z) (y.map Itm.z))=0):=⟨f2,f3,f4⟩
 have hVH:Hid (¬P V):=hV
 clear hC0 h hx hy he f1 f2 f3 f4 hV
 go_enter Tryz.func82,Tryz.ntmps82
 go_wp2_with fail
 refine cM (show Calls _ _ _ _ _ from hC.out) ?_
 rintro e w1 ⟨rfl,hg1⟩
 have hW1:Hid (Vo w1 V o P q QA cq a A ca b B cb∧Lv w1 X cx x∧Lv w1 Y cy y∧Below w.heap.size w w1):=⟨hH.out.1.gr hg1,hH.out.2.1.gr hg1,hH.out.2.2.gr hg1,hg1.below⟩
 clear hC hg1
 have c1:=hW1.out.1.c1
 have hA0:=ol hW1.out.1.la.lv hW1.out.2.1 rfl rfl
 rw[hF.out.1] at hA0
 have hA:Hid _:=hA0
 clear hA0
 go_wp2_with fail
 refine cM (show Calls _ _ _ _ _ from hA.out) ?_
 rintro e w2 ⟨K,PA,pc,rfl,p1,p2,p3,p4⟩
 have hW2:Hid (Vo w2 V o P q QA cq a A ca b B cb∧Lv w2 Y cy y∧Below w.heap.size w w2∧LvP (fun b=>w.heap.size≤b∧b<w2.heap.size) w2 PA pc K∧K.map Itm.z=aP (a.map Itm.z) (x.map Itm.z)):=⟨hW1.out.1.below p3,hW1.out.2.2.1.below p3,hW1.out.2.2.2.trans (p3.mono hW1.out.2.2.2.size),(LvP.new p2 (p4.new.mono hW1.out.2.2.2.size)),p1⟩
 clear hA p1 p2 p3 p4 c1 hW1
 have c2:=hW2.out.1.c2
 have hA0:=ol hW2.out.1.lb.lv hW2.out.2.1 rfl rfl
 rw[hF.out.2.1] at hA0
 have hA:Hid _:=hA0
 clear hA0
 go_wp2_with fail
 refine cM (show Calls _ _ _ _ _ from hA.out) ?_
 rintro e w3 ⟨R,RA,rc,rfl,p1,p2,p3,p4⟩
 have hW3:Hid (Vo w3 V o P q QA cq a A ca b B cb∧Below w.heap.size w w3∧LvP (fun b=>w.heap.size≤b∧b<w3.heap.size) w3 PA pc K∧K.map Itm.z=aP (a.map Itm.z) (x.map Itm.z)∧LvP (fun b=>w.heap.size≤b∧b<w3.heap.size) w3 RA rc R∧R.map Itm.z=aP (b.map Itm.z) (y.map Itm.z)):=⟨hW2.out.1.below p3,hW2.out.2.2.1.trans (p3.mono hW2.out.2.2.1.size),(hW2.out.2.2.2.1.below p3).mono fun b hb=>⟨hb.1,nL hb.2 p3.size⟩,hW2.out.2.2.2.2,LvP.new p2 (p4.new.mono hW2.out.2.2.1.size),p1⟩
 clear hA p1 p2 p3 p4 c2 hW2
 have c0:=hW3.out.1.c0
 have hq8:=hW3.out.1.len
 have hV0:=l6 q QA cq K R PA RA pc rc w3 (by unfold maxLen;omega) hW3.out.1.st.st hW3.out.2.2.1.lv hW3.out.2.2.2.2.1.lv
 have hP0:cL q (K.map Itm.z) (R.map Itm.z)=0:=by rw[hW3.out.2.2.2.1,hW3.out.2.2.2.2.2];exact hF.out.2.2
 rw[hP0] at hV0
 have hV:Hid _:=hV0
 clear hV0 hq8 hP0
 go_wp2_with fail
 refine cM (show Calls _ _ _ _ _ from hV.out) ?_
 rintro e w4 ⟨N,NA,nc,rfl,n1,n2,n3,n4⟩
 have hW4:Hid (Vo w4 V o P q QA cq a A ca b B cb∧Below w.heap.size w w4∧LvP (fun b=>w.heap.size≤b∧b<w4.heap.size) w4 PA pc K∧K.map Itm.z=aP (a.map Itm.z) (x.map Itm.z)∧LvP (fun b=>w.heap.size≤b∧b<w4.heap.size) w4 RA rc R∧R.map Itm.z=aP (b.map Itm.z) (y.map Itm.z)∧LvP (fun b=>w.heap.size≤b∧b<w4.heap.size) w4 NA nc N∧N.map Itm.z=iK q (K.map Itm.z) (R.map Itm.z)):=⟨hW3.out.1.below n3,hW3.out.2.1.trans (n3.mono hW3.out.2.1.size),(hW3.out.2.2.1.below n3).mono fun b hb=>⟨hb.1,nL hb.2 n3.size⟩,hW3.out.2.2.2.1,(hW3.out.2.2.2.2.1.below n3).mono fun b hb=>⟨hb.1,nL hb.2 n3.size⟩,hW3.out.2.2.2.2.2,LvP.new n2 (n4.new.mono hW3.out.2.1.size),n1⟩
 clear hV n1 n2 n3 n4 c0 hW3
 have hO0:=tU w4 V o P q QA cq a A ca b B cb hW4.out.1
 have hO:Hid _:=hO0
 clear hO0
 go_wp2_with fail
 refine cM (show Calls _ _ _ _ _ from hO.out) ?_
 rintro e w5 ⟨M,MA,mc,rfl,m1,m2,m3,m4⟩
 have hW5:Hid (Vo w5 V o P q QA cq a A ca b B cb∧Below w.heap.size w w5∧LvP (ag P w.heap.size w5.heap.size) w5 PA pc K∧K.map Itm.z=aP (a.map Itm.z) (x.map Itm.z)∧LvP (ag P w.heap.size w5.heap.size) w5 RA rc R∧R.map Itm.z=aP (b.map Itm.z) (y.map Itm.z)∧LvP (fun b=>w.heap.size≤b∧b<w5.heap.size) w5 NA nc N∧N.map Itm.z=iK q (K.map Itm.z) (R.map Itm.z)∧LvP (fun b=>w.heap.size≤b∧b<w5.heap.size) w5 MA mc M∧M.map Itm.z=iK q (a.map Itm.z) (b.map Itm.z)):=⟨hW4.out.1.below m3,hW4.out.2.1.trans (m3.mono hW4.out.2.1.size),(hW4.out.2.2.1.below m3).mono fun b hb=>ag.new (nR _) m3.size b hb,hW4.out.2.2.2.1,(hW4.out.2.2.2.2.1.below m3).mono fun b hb=>ag.new (nR _) m3.size b hb,hW4.out.2.2.2.2.2.1,(hW4.out.2.2.2.2.2.2.1.below m3).mono fun b hb=>⟨hb.1,nL hb.2 m3.size⟩,hW4.out.2.2.2.2.2.2.2,LvP.new m2 (m4.new.mono hW4.out.2.1.size),m1⟩
 clear hO m1 m2 m3 m4 hW4
 have c1:=hW5.out.1.c1
 have c2:=hW5.out.1.c2
 have z1:=hW5.out.1.fz (o+1)
 have z2:=hW5.out.1.fz (o+2)
 obtain ⟨w6,hw6⟩:∃W,(w5.setCell ⟨V,o+1,none⟩ (I PA K.length pc)).setCell ⟨V,o+2,none⟩ (I RA R.length rc)=W:=⟨_,rfl⟩
 have hVlt:V<w.heap.size:=hH.out.1.lt
 have hVP:¬ag P w.heap.size w5.heap.size V:=fun k=>k.elim hVH.out fun k=>by omega
 have hS:=Vo.tabs hW5.out.1 hW5.out.2.2.1 hW5.out.2.2.2.2.1 hw6 (fun b hb=>ag.old b hb) hVP
 have hs65:w6.heap.size=w5.heap.size:=by rw[←hw6];simp
 have hW6:Hid (Vo w6 V o (ag P w.heap.size w5.heap.size) q QA cq K PA pc R RA rc∧Wr V (o+1) (o+3) w w6∧Lv w6 NA nc N∧Lv w6 MA mc M∧w6.heap.size=w5.heap.size):=by
  have hb:=hW5.out.2.1
  have hag:Agr (fun b=>w.heap.size≤b∧b<w5.heap.size) w5 w6:=hS.2.agr fun k=>by omega
  exact ⟨hS.1,(Wr.of hb hVlt).trans hS.2,(hW5.out.2.2.2.2.2.2.1.agr hag).lv,(hW5.out.2.2.2.2.2.2.2.2.1.agr hag).lv,hs65⟩
 have hD0:=us N M NA MA nc mc w6 hW6.out.2.2.1.items hW6.out.2.2.2.1.items hW6.out.2.2.1.nilc.cap hW6.out.2.2.2.1.nilc.cap (by rw[hW5.out.2.2.2.2.2.2.2.1];exact oH _ _ _) (by rw[hW5.out.2.2.2.2.2.2.2.2.2];exact oH _ _ _)
 have hD:Hid _:=hD0
 have hVl:Hid (V<w.heap.size):=hVlt
 clear hS hD0 hVP hs65 hVlt
 go_wp2_with fail
 clear hw6 c1 c2 z1 z2
 refine cM (show Calls _ _ _ _ _ from hD.out) ?_
 rintro e w7 ⟨L,C,k,rfl,d1,d2,d3,d4,d5⟩
 have hfin:Hid (K.map Itm.z=aP (a.map Itm.z) (x.map Itm.z)∧R.map Itm.z=aP (b.map Itm.z) (y.map Itm.z)∧Vo w7 V o (ag P w.heap.size w7.heap.size) q QA cq K PA pc R RA rc∧Wr V (o+1) (o+3) w w7):=by
  have hg:=hW6.out.2.1
  have h7:=hW6.out.1.below d5
  have hm:∀b,ag P w.heap.size w5.heap.size b→ag P w.heap.size w7.heap.size b:=ag.more (nR _) (by rw[←hW6.out.2.2.2.2];exact d5.size)
  exact ⟨hW5.out.2.2.2.1,hW5.out.2.2.2.2.2.1,⟨h7.lt,h7.fz,h7.c0,h7.c1,h7.c2,h7.st.mono hm,h7.len,h7.la.mono hm,h7.lb.mono hm⟩,hg.trans (Wr.of d5 (nL hVl.out hg.size))⟩
 clear d1 d2 d3 d4 d5 hD
 go_wp2
 go_ret2
 exact ⟨_,C,k,K,PA,pc,R,RA,rc,rfl,hfin.out⟩

def Cls (w:World) (B:Nat) (l:List Value):Prop:=∃T,w.heap[B]? = some (J l.toArray T (0,0))
theorem Cls.new (w:World) (C:Array Value) (T:TypeId):Cls (w.alloc (J C T)) w.heap.size C.toList:=by
 refine ⟨T,?_⟩
 show (w.heap.push _)[w.heap.size]? = _
 rw[Array.getElem?_push_size,Array.toArray_toList]
theorem Cls.lt {w:World} {B:Nat} {l:List Value} (h:Cls w B l):B<w.heap.size:=by
 obtain ⟨T,h⟩:=h
 exact (Array.getElem?_eq_some_iff.1 h).1
theorem Cls.cell {w:World} {B:Nat} {l:List Value} (h:Cls w B l) {j:Nat} {v:Value} (hv:l[j]? = some v):w.cell? ⟨B,j,none⟩=some v:=by
 obtain ⟨T,h⟩:=h
 simp[World.cell?,h,hv]
theorem Cls.fz {w:World} {B:Nat} {l:List Value} (h:Cls w B l) (j:Nat):w.frozen? ⟨B,j,none⟩=false:=by
 obtain ⟨T,h⟩:=h
 simp[World.frozen?,h]
theorem Cls.keep {w w':World} {B:Nat} {l:List Value} (h:Cls w B l) (k:w'.heap[B]? = w.heap[B]?):Cls w' B l:=by
 obtain ⟨T,h⟩:=h
 exact ⟨T,k.trans h⟩
theorem Cls.below {w w':World} {B:Nat} {l:List Value} (h:Cls w B l) (k:Below w.heap.size w w'):Cls w' B l:=h.keep (k.block B h.lt)
theorem Cls.gr {w w':World} {B:Nat} {l:List Value} (h:Cls w B l) (k:Gr w w'):Cls w' B l:=h.below k.below
theorem Cls.oth {w:World} {B B' j:Nat} {l:List Value} (h:Cls w B l) (hB:B≠B') (v:Value):Cls (w.setCell ⟨B',j,none⟩ v) B l:=h.keep (Below.heap_setCell _ _ _ _ hB)
theorem Cls.put {w:World} {B:Nat} {l:List Value} (h:Cls w B l) (j:Nat) (v:Value):Cls (w.setCell ⟨B,j,none⟩ v) B (l.set j v):=by
 obtain ⟨T,h⟩:=h
 refine ⟨T,?_⟩
 show (w.heap.modify B _)[B]? = _
 rw[Array.getElem?_modify,if_pos rfl,h]
 simp
theorem ud {w:World} {B:Nat} {x0 x1 x2 x3 x4:Value} {l:List Value} (h:Cls w B (x0::x1::x2::x3::x4::l)):w.cell? ⟨B,0,none⟩=some x0∧w.cell? ⟨B,1,none⟩=some x1∧w.cell? ⟨B,2,none⟩=some x2∧w.cell? ⟨B,3,none⟩=some x3∧w.cell? ⟨B,4,none⟩=some x4:=⟨h.cell rfl,h.cell rfl,h.cell rfl,h.cell rfl,h.cell rfl⟩
theorem fQ {w:World} {B:Nat} {x0 x1 x2 x3 x4 x5:Value} {l:List Value} (h:Cls w B (x0::x1::x2::x3::x4::x5::l)):w.cell? ⟨B,0,none⟩=some x0∧w.cell? ⟨B,1,none⟩=some x1∧w.cell? ⟨B,2,none⟩=some x2∧w.cell? ⟨B,3,none⟩=some x3∧w.cell? ⟨B,4,none⟩=some x4∧w.cell? ⟨B,5,none⟩=some x5:=⟨h.cell rfl,h.cell rfl,h.cell rfl,h.cell rfl,h.cell rfl,h.cell rfl⟩
theorem oz {w:World} {B:Nat} {x0 x1 x2 x3 x4 x5 x6 x7 x8 x9:Value} {l:List Value} (h:Cls w B (x0::x1::x2::x3::x4::x5::x6::x7::x8::x9::l)):w.cell? ⟨B,0,none⟩=some x0∧w.cell? ⟨B,1,none⟩=some x1∧w.cell? ⟨B,2,none⟩=some x2∧w.cell? ⟨B,3,none⟩=some x3∧w.cell? ⟨B,4,none⟩=some x4∧w.cell? ⟨B,5,none⟩=some x5∧w.cell? ⟨B,6,none⟩=some x6∧w.cell? ⟨B,7,none⟩=some x7∧w.cell? ⟨B,8,none⟩=some x8∧w.cell? ⟨B,9,none⟩=some x9:=⟨h.cell rfl,h.cell rfl,h.cell rfl,h.cell rfl,h.cell rfl,h.cell rfl,h.cell rfl,h.cell rfl,h.cell rfl,h.cell rfl⟩
theorem gl {w:World} {B:Nat} {x0 x1 x2 x3 x4 x5 x6 x7 x8 x9 x10 x11:Value} {l:List Value} (h:Cls w B (x0::x1::x2::x3::x4::x5::x6::x7::x8::x9::x10::x11::l)):w.cell? ⟨B,0,none⟩=some x0∧w.cell? ⟨B,1,none⟩=some x1∧w.cell? ⟨B,2,none⟩=some x2∧w.cell? ⟨B,3,none⟩=some x3∧w.cell? ⟨B,4,none⟩=some x4∧w.cell? ⟨B,5,none⟩=some x5∧w.cell? ⟨B,6,none⟩=some x6∧w.cell? ⟨B,7,none⟩=some x7∧w.cell? ⟨B,8,none⟩=some x8∧w.cell? ⟨B,9,none⟩=some x9∧w.cell? ⟨B,10,none⟩=some x10∧w.cell? ⟨B,11,none⟩=some x11:=⟨h.cell rfl,h.cell rfl,h.cell rfl,h.cell rfl,h.cell rfl,h.cell rfl,h.cell rfl,h.cell rfl,h.cell rfl,h.cell rfl,h.cell rfl,h.cell rfl⟩
theorem yV {w:World} {B:Nat} {x0 x1 x2 x3 x4 x5 x6 x7 x8 x9 x10 x11 x12:Value} {l:List Value} (h:Cls w B (x0::x1::x2::x3::x4::x5::x6::x7::x8::x9::x10::x11::x12::l)):w.cell? ⟨B,0,none⟩=some x0∧w.cell? ⟨B,1,none⟩=some x1∧w.cell? ⟨B,2,none⟩=some x2∧w.cell? ⟨B,3,none⟩=some x3∧w.cell? ⟨B,4,none⟩=some x4∧w.cell? ⟨B,5,none⟩=some x5∧w.cell? ⟨B,6,none⟩=some x6∧w.cell? ⟨B,7,none⟩=some x7∧w.cell? ⟨B,8,none⟩=some x8∧w.cell? ⟨B,9,none⟩=some x9∧w.cell? ⟨B,10,none⟩=some x10∧w.cell? ⟨B,11,none⟩=some x11∧w.cell? ⟨B,12,none⟩=some x12:=⟨h.cell rfl,h.cell rfl,h.cell rfl,h.cell rfl,h.cell rfl,h.cell rfl,h.cell rfl,h.cell rfl,h.cell rfl,h.cell rfl,h.cell rfl,h.cell rfl,h.cell rfl⟩
theorem zY {w:World} {B:Nat} {x0 x1 x2 x3 x4 x5 x6 x7 x8 x9:Value} {l:List Value} (h:Cls w B (x0::x1::x2::x3::x4::x5::x6::x7::x8::x9::l)):w.cell? ⟨B,5,none⟩=some x5∧w.cell? ⟨B,6,none⟩=some x6∧w.cell? ⟨B,7,none⟩=some x7∧w.cell? ⟨B,8,none⟩=some x8∧w.cell? ⟨B,9,none⟩=some x9:=⟨h.cell rfl,h.cell rfl,h.cell rfl,h.cell rfl,h.cell rfl⟩
theorem yj {w:World} {B:Nat} {x0 x1 x2 x3 x4 x5 x6 x7 x8 x9 x10 x11:Value} {l:List Value} (h:Cls w B (x0::x1::x2::x3::x4::x5::x6::x7::x8::x9::x10::x11::l)):w.cell? ⟨B,6,none⟩=some x6∧w.cell? ⟨B,7,none⟩=some x7∧w.cell? ⟨B,8,none⟩=some x8∧w.cell? ⟨B,9,none⟩=some x9∧w.cell? ⟨B,10,none⟩=some x10∧w.cell? ⟨B,11,none⟩=some x11:=⟨h.cell rfl,h.cell rfl,h.cell rfl,h.cell rfl,h.cell rfl,h.cell rfl⟩
theorem A3 {w:World} {B:Nat} {l:List Value} (h:Cls w B l):w.frozen? ⟨B,0,none⟩=false∧w.frozen? ⟨B,1,none⟩=false∧w.frozen? ⟨B,2,none⟩=false∧w.frozen? ⟨B,3,none⟩=false∧w.frozen? ⟨B,4,none⟩=false:=⟨h.fz _,h.fz _,h.fz _,h.fz _,h.fz _⟩
theorem sB {w:World} {B:Nat} {l:List Value} (h:Cls w B l):w.frozen? ⟨B,0,none⟩=false∧w.frozen? ⟨B,1,none⟩=false∧w.frozen? ⟨B,2,none⟩=false∧w.frozen? ⟨B,3,none⟩=false∧w.frozen? ⟨B,4,none⟩=false∧w.frozen? ⟨B,5,none⟩=false:=⟨h.fz _,h.fz _,h.fz _,h.fz _,h.fz _,h.fz _⟩
theorem yX {w:World} {B:Nat} {l:List Value} (h:Cls w B l):w.frozen? ⟨B,0,none⟩=false∧w.frozen? ⟨B,1,none⟩=false∧w.frozen? ⟨B,2,none⟩=false∧w.frozen? ⟨B,3,none⟩=false∧w.frozen? ⟨B,4,none⟩=false∧w.frozen? ⟨B,5,none⟩=false∧w.frozen? ⟨B,6,none⟩=false∧w.frozen? ⟨B,7,none⟩=false∧w.frozen? ⟨B,8,none⟩=false∧w.frozen? ⟨B,9,none⟩=false:=⟨h.fz _,h.fz _,h.fz _,h.fz _,h.fz _,h.fz _,h.fz _,h.fz _,h.fz _,h.fz _⟩
theorem oI {w:World} {B:Nat} {l:List Value} (h:Cls w B l):w.frozen? ⟨B,0,none⟩=false∧w.frozen? ⟨B,1,none⟩=false∧w.frozen? ⟨B,2,none⟩=false∧w.frozen? ⟨B,3,none⟩=false∧w.frozen? ⟨B,4,none⟩=false∧w.frozen? ⟨B,5,none⟩=false∧w.frozen? ⟨B,6,none⟩=false∧w.frozen? ⟨B,7,none⟩=false∧w.frozen? ⟨B,8,none⟩=false∧w.frozen? ⟨B,9,none⟩=false∧w.frozen? ⟨B,10,none⟩=false∧w.frozen? ⟨B,11,none⟩=false:=⟨h.fz _,h.fz _,h.fz _,h.fz _,h.fz _,h.fz _,h.fz _,h.fz _,h.fz _,h.fz _,h.fz _,h.fz _⟩
theorem A4 {w:World} {B:Nat} {l:List Value} (h:Cls w B l):w.frozen? ⟨B,5,none⟩=false∧w.frozen? ⟨B,6,none⟩=false∧w.frozen? ⟨B,7,none⟩=false∧w.frozen? ⟨B,8,none⟩=false∧w.frozen? ⟨B,9,none⟩=false:=⟨h.fz _,h.fz _,h.fz _,h.fz _,h.fz _⟩
theorem yY {w:World} {B:Nat} {l:List Value} (h:Cls w B l):w.frozen? ⟨B,6,none⟩=false∧w.frozen? ⟨B,7,none⟩=false∧w.frozen? ⟨B,8,none⟩=false∧w.frozen? ⟨B,9,none⟩=false∧w.frozen? ⟨B,10,none⟩=false∧w.frozen? ⟨B,11,none⟩=false:=⟨h.fz _,h.fz _,h.fz _,h.fz _,h.fz _,h.fz _⟩

def leD (x y:Int×Int):Prop:=br y x=false
theorem g8 (x y:Int×Int):leD x y↔x.1<y.1∨(x.1=y.1∧x.2≤y.2):=by
 unfold leD
 rw[kK]
 omega
theorem uY (x:Int×Int):leD x x:=by rw[g8];omega
theorem ie {x y z:Int×Int} (h:leD x y) (k:leD y z):leD x z:=by rw[g8] at *;omega
theorem uX {x y:Int×Int} (h:leD x y) (k:leD y x):x=y:=by rw[g8] at *;exact Prod.ext (by omega) (by omega)
theorem mQ (x y:Int×Int):leD x y∨leD y x:=by rw[g8,g8];omega

theorem lM (l:List (Int×Int)):(srt l).Pairwise leD:=by
 unfold srt
 have h:=List.pairwise_mergeSort (le:=fun x y:Int×Int=> !ltOf dY y x) (by
  intro a b c h1 h2
  simp only[ltD,Bool.not_eq_true'] at *
  exact ie (x:=a) (y:=b) (z:=c) h1 h2) (by
  intro a b
  simp only[ltD,Bool.or_eq_true,Bool.not_eq_true']
  exact mQ a b) l
 refine h.imp ?_
 intro a b hab
 simp only[ltD,Bool.not_eq_true'] at hab
 exact hab
theorem vP (l:List (Int×Int)):(srt l).Perm l:=List.mergeSort_perm l _
def jg (c:Ctx) (p:Option (Int×Int)):List (Int×Int)→Ctx
 | []=>c
 | x::r=>jg (step c p x) (some x) r

theorem qp (l:List (Int×Int)):∀(c:Ctx) (p:Option (Int×Int)) (x:Int×Int),jg c p (l++[x])=step (jg c p l) (l.getLast?.or p) x:=by
 induction l with
 | nil=>intro c p x;rfl
 | cons y l ih =>
  intro c p x
  show jg (step c p y) (some y) (l++[x])=_
  rw[ih]
  show _=step (jg (step c p y) (some y) l) ((y::l).getLast?.or p) x
  congr 1
  cases h:l.getLast? with
  | none =>
   obtain rfl:l=[]:=by simpa using h
   rfl
  | some z=>simp[List.getLast?_cons,h]

theorem oO (c:Ctx) (l:List (Int×Int)):∀k,k≤l.length→au c l k=jg c none (l.take k):=by
 intro k
 induction k with
 | zero=>intro _;rfl
 | succ k ih =>
  intro hk
  have hk':k<l.length:=by omega
  rw[List.take_succ_eq_append_getElem hk',qp,←ih (by omega)]
  show step (au c l k) _ _=_
  have e1:l.getD k (0,0)=l[k]:=by simp[hk']
  have e2:(if k=0 then none else some (l.getD (k-1) (0,0)))=(l.take k).getLast?.or none:=by
   cases k with
   | zero=>rfl
   | succ m =>
    have hm:m<l.length:=by omega
    have e3:(l.take (m+1)).getLast? = some l[m]:=by rw[List.take_succ_eq_append_getElem hm];exact List.getLast?_concat
    rw[e3]
    simp[hm]
  rw[e1,e2]
theorem qq (c:Ctx) (l:List (Int×Int)):au c l l.length=jg c none l:=by
 rw[oO c l l.length (Nat.le_refl _),List.take_length]

def cY (c:Ctx) (x:Int×Int):Ctx:=if ae c x=true then c else if x.2=clk c x.1+1 then setClk c x.1 x.2 else { c with l:=c.l++[x] }

structure Mid (c:Ctx) (p:Option (Int×Int)) (r:List (Int×Int)):Prop where
 above:∀y∈c.l,clk c y.1+1<y.2
 node:∀y∈c.l,0≤y.1∧y.1<4
 last:∀y∈c.l,∃q,p=some q∧leD y q
 has:∀q,p=some q→ae c q=true
 rest:∀q,p=some q→∀x∈r,leD q x

theorem aG (c:Ctx) (x:Int×Int):ae c x=true↔x∈c.l∨(0≤x.1∧x.1≤3∧1≤x.2∧x.2≤clk c x.1):=by
 simp[ae,inB,and_assoc]

theorem lr {c:Ctx} {p:Option (Int×Int)} {x:Int×Int} {r:List (Int×Int)} (h:Mid c p (x::r)) (hx:al x=true) (hs:∀y∈r,leD x y):cY c x=step c p x∧Mid (step c p x) (some x) r:=by
 have hn:=dO hx
 have hle:∀y∈c.l,leD y x:=fun y hy=>by
  obtain ⟨q,hq,hyq⟩:=h.last y hy
  exact ie hyq (h.rest q hq x (mS ..))
 by_cases h1:x.2≤clk c x.1
 ·have hh:ae c x=true:=(aG c x).2 (oR ⟨hn.1,by omega,hn.2.2.1,h1⟩)
  have e1:cY c x=c:=by simp[cY,hh]
  have e2:step c p x=c:=by simp[step,h1]
  rw[e1,e2]
  exact ⟨rfl,h.above,h.node,fun y hy=>⟨x,rfl,hle y hy⟩,fun q hq=>by cases hq;exact hh,fun q hq y hy=>by cases hq;exact hs y hy⟩
 ·by_cases h2:x.2=clk c x.1+1
  ·have hmem:x ∉ c.l:=fun hm=>by have:=h.above x hm;omega
   have hh:¬ae c x=true:=by
    rw[aG]
    rintro (hm|hm)
    ·exact hmem hm
    ·omega
   have e1:cY c x=setClk c x.1 x.2:=by unfold cY;rw[if_neg hh,if_pos h2]
   have e2:step c p x=setClk c x.1 x.2:=by unfold step;rw[if_neg h1,if_pos h2]
   rw[e1,e2]
   refine ⟨rfl,?_,?_,?_,?_,fun q hq y hy=>by cases hq;exact hs y hy⟩
   ·intro y hy
    rw[dZ] at hy
    have hyn:=h.node y hy
    rw[dE c x.1 x.2 y.1 hn.1 hn.2.1 hyn.1 hyn.2]
    have hya:=h.above y hy
    split
    ·rename_i hyx
     have hl:=(g8 y x).1 (hle y hy)
     rw[hyx] at hya
     omega
    ·exact hya
   ·intro y hy;rw[dZ] at hy;exact h.node y hy
   ·intro y hy;rw[dZ] at hy;exact ⟨x,rfl,hle y hy⟩
   ·intro q hq
    cases hq
    refine (aG _ _).2 (oR ⟨hn.1,by omega,hn.2.2.1,?_⟩)
    rw[dE c x.1 x.2 x.1 hn.1 hn.2.1 hn.1 hn.2.1,if_pos rfl]
    exact Int.le_refl _
  ·by_cases h3:p=some x
   ·have hh:ae c x=true:=h.has x h3
    have e1:cY c x=c:=by simp[cY,hh]
    have e2:step c p x=c:=by unfold step;rw[if_neg h1,if_neg h2,if_pos h3]
    rw[e1,e2]
    exact ⟨rfl,h.above,h.node,fun y hy=>⟨x,rfl,hle y hy⟩,fun q hq=>by cases hq;exact hh,fun q hq y hy=>by cases hq;exact hs y hy⟩
   ·have hmem:x ∉ c.l:=fun hm=>by
     obtain ⟨q,hq,hxq⟩:=h.last x hm
     have:=uX hxq (h.rest q hq x (mS ..))
     exact h3 (by rw[hq,this])
    have hh:¬ae c x=true:=by
     rw[aG]
     rintro (hm|hm)
     ·exact hmem hm
     ·omega
    have e1:cY c x={ c with l:=c.l++[x] }:=by unfold cY;rw[if_neg hh,if_neg h2]
    have e2:step c p x={ c with l:=c.l++[x] }:=by unfold step;rw[if_neg h1,if_neg h2,if_neg h3]
    rw[e1,e2]
    have hclk:∀a,clk { c with l:=c.l++[x] } a=clk c a:=fun _=>rfl
    refine ⟨rfl,?_,?_,?_,?_,fun q hq y hy=>by cases hq;exact hs y hy⟩
    ·intro y hy
     rw[hclk]
     rcases List.mem_append.1 hy with hy|hy
     ·exact h.above y hy
     ·obtain rfl:y=x:=by simpa using hy
      omega
    ·intro y hy
     rcases List.mem_append.1 hy with hy|hy
     ·exact h.node y hy
     ·obtain rfl:y=x:=by simpa using hy
      exact ⟨hn.1,hn.2.1⟩
    ·intro y hy
     rcases List.mem_append.1 hy with hy|hy
     ·exact ⟨x,rfl,hle y hy⟩
     ·obtain rfl:y=x:=by simpa using hy
      exact ⟨y,rfl,uY y⟩
    ·intro q hq
     cases hq
     exact (aG _ _).2 (oL (List.mem_append.2 (oR (by simp))))

theorem oN (l:List (Int×Int)):∀(c:Ctx) (p:Option (Int×Int)),Mid c p l→l.Pairwise leD→(∀x∈l,al x=true)→l.foldl cY c=jg c p l:=by
 induction l with
 | nil=>intro c p _ _ _;rfl
 | cons x l ih =>
  intro c p h hs hr
  have hp:=List.pairwise_cons.1 hs
  have hm:=lr h (hr x (mS ..)) hp.1
  show l.foldl cY (cY c x)=jg (step c p x) (some x) l
  rw[hm.1]
  exact ih _ _ hm.2 hp.2 (fun y hy=>hr y (mC _ hy))

theorem mU {c:Ctx} (hc:c.l=[]) (l:List (Int×Int)):Mid c none l where
 above y hy:=by rw[hc] at hy;cases hy
 node y hy:=by rw[hc] at hy;cases hy
 last y hy:=by rw[hc] at hy;cases hy
 has q hq:=by cases hq
 rest q hq:=by cases hq

theorem ke {c:Ctx} (hc:c.l=[]) {l:List (Int×Int)} (hr:∀x∈l,al x=true):dU c l=(srt l).foldl cY c:=by
 unfold dU
 rw[qq]
 exact (oN (srt l) c none (mU hc _) (lM l) (fun x hx=>hr x (jx hx))).symm


theorem kY {c:Ctx} (h:aO c=0):bw c=true:=by
 unfold aO at h
 cases hk:bw c
 ·simp[hk] at h
 ·rfl

def bv (c:Ctx) (n:Int):(Int×Int)×Int:=if aO c=0 then (if inB n 0 3=true then (jp c n,ki c n) else ((0,0),1)) else ((0,0),aO c)

theorem vp (c:Ctx) (A:Option Addr) (cap:Nat) (n:Int) (w:World) (hl:c.l.length≤maxLen) (hr:Row w A c.l) :
  Calls Z 104 #[D #[O S c.c0,O S c.c1,O S c.c2,O S c.c3,I A c.l.length cap],O S n] w fun e w'=>e= H (U #[D #[O S (bv c n).1.1,O S (bv c n).1.2],O S (bv c n).2])∧Gr w w':=by
 have hchk:=eO c A cap ((w.alloc (J #[O S c.c0,O S c.c1,O S c.c2,O S c.c3,I A c.l.length cap] 39)).alloc (J #[O S 0,O S 0] 83)) hl (hr.gr (((gR _).alloc _).alloc _))
 have hchkH:Hid _:=hchk
 clear hchk
 unfold maxLen at hl
 go_enter Tryz.func104,Tryz.ntmps104
 go_wp2_with fail
 refine cM (show Calls _ _ _ _ _ from hchkH.out) ?_
 rintro e w1 ⟨rfl,hgr⟩
 clear hchkH
 have r0:=lY hgr (j:=0) rfl
 have r1:=lY hgr (j:=1) rfl
 have r0f:=oy hgr 0
 have r1f:=oy hgr 1
 by_cases he:aO c=0
 ·have heH:Hid (aO c=0):=he
  rw[he]
  clear he
  cases hin:inB n 0 3
  ·have hA:Hid (bv c n=((0,0),1)):=by show bv c n=_;simp[bv,heH.out,hin]
   go_wp2_with (go_at_call 64;refine (fB hin _).mono ?_;rintro e w' ⟨rfl,rfl⟩)
   rw[hA.out]
   exact bodyPost_ret (v:= U #[D #[O S 0,O S 0],O S 1]) (by simp[results,Tryz.results104,go_sem,r0,r1]) rfl ⟨rfl,(((cv (cv hgr)).setCell (by simp) _).setCell (by simp) _)⟩
  ·have hn:0≤n∧n<4:=by simp[inB] at hin;omega
   have hA:Hid (bv c n=(jp c n,ki c n)):=by show bv c n=_;simp[bv,heH.out,hin]
   have kc:=ab (gT hgr) (gW (c:=c) hn.1 hn.2)
   have k4:=ab (gT hgr) (j:=4) rfl
   have hcl:=cz (kY heH.out) n hn.1 hn.2
   go_wp2_with (go_at_call 64;refine (fB hin _).mono ?_;rintro e w' ⟨rfl,rfl⟩)
   clear kc k4 r0 r1 r0f r1f
   go_loopw [7,27] (fun m i wr=>∃k:Nat,k≤c.l.length∧i= O S k∧m= O S (eF c n (c.l.take k))∧Gr ((w.alloc (J #[O S c.c0,O S c.c1,O S c.c2,O S c.c3,I A c.l.length cap] 39)).alloc (J #[O S 0,O S 0] 83)) wr) (fun _ i _=>c.l.length-(intOf i).toNat)
   case atStart=>exact ⟨0,by omega,rfl,rfl,hgr⟩
   case round =>
    clear hgr
    obtain ⟨k,hk,rfl,rfl,hgr⟩:=hrel
    have r0:=lY hgr (j:=0) rfl
    have r1:=lY hgr (j:=1) rfl
    have r0f:=oy hgr 0
    have r1f:=oy hgr 1
    have hlo:=rX c n (c.l.take k)
    by_cases hlt:k<c.l.length
    ·have hltz:(k:Int)<(c.l.length:Int):=by omega
     obtain ⟨b,off,rfl,hb,hcs⟩:=(hr.gr (cv (cv hgr))).at hlt
     obtain ⟨x,y,hx⟩:∃x y,c.l[k]=(x,y):=⟨_,_,rfl⟩
     have e0:=(hcs k hlt).1
     have e1:=(hcs k hlt).2
     rw[hx] at e0 e1
     have hst:Hid (eF c n (c.l.take (k+1))=if x=n then max (eF c n (c.l.take k)) y else eF c n (c.l.take k)):=tI c n k hlt hx
     clear hcs hx
     by_cases hxn:x=n
     ·subst hxn
      go_wp2
      go_roundw
      case rel=>exact ⟨k+1,by omega,by go_num,by rw[hst.out,if_pos rfl],hgr.alloc _⟩
      case measure=>simp[intOf];omega
     ·have hxb:(x==n)=false:=by simpa using hxn
      have hxH:Hid (¬x=n):=hxn
      clear hxn
      go_wp2
      go_roundw
      case rel=>exact ⟨k+1,by omega,by go_num,by rw[hst.out,if_neg hxH.out],hgr.alloc _⟩
      case measure=>simp[intOf];omega
    ·have hltz:¬(k:Int)<(c.l.length:Int):=by omega
     have hke:c.l.take k=c.l:=List.take_of_length_le (by omega)
     rw[hke] at hlo ⊢
     clear hke
     by_cases htop:1099511627776≤eF c n c.l
     ·have hD:Hid (jp c n=(0,0)∧ki c n=2):=by
       show _∧_
       simp[jp,ki,htop]
      go_wp2
      rw[hA.out,hD.out.1,hD.out.2]
      exact bodyPost_ret (v:= U #[D #[O S 0,O S 0],O S 2]) (by simp[results,Tryz.results104,go_sem,r0,r1]) rfl ⟨rfl,(((cv (cv hgr)).setCell (by simp) _).setCell (by simp) _)⟩
     ·have hD:Hid (jp c n=(n,eF c n c.l+1)∧ki c n=0):=by
       show _∧_
       simp[jp,ki,htop]
      go_wp2
      rw[hA.out,hD.out.1,hD.out.2]
      exact bodyPost_ret (v:= U #[D #[O S n,O S (eF c n c.l+1)],O S 0]) (by simp[results,Tryz.results104,go_sem,r0,r1]) rfl ⟨rfl,(((cv (cv hgr)).setCell (by simp) _).setCell (by simp) _)⟩
 ·have hA:Hid (bv c n=((0,0),aO c)):=by show bv c n=_;simp[bv,he]
  have heb:(aO c != 0)=true:=by simpa using he
  clear he
  go_wp2
  rw[hA.out]
  exact bodyPost_ret (v:= U #[D #[O S 0,O S 0],O S (aO c)]) (by simp[results,Tryz.results104,go_sem,r0,r1]) rfl ⟨rfl,(((cv (cv hgr)).setCell (by simp) _).setCell (by simp) _)⟩

def eU (a b:Ctx):Int:=if aO a=0 then aO b else aO a

theorem lZ (a b:Ctx) (A B:Option Addr) (ca cb:Nat) (w:World) (hal:a.l.length≤maxLen) (hbl:b.l.length≤maxLen) (hra:Row w A a.l) (hrb:Row w B b.l) :
  Calls Z 99 #[D #[O S a.c0,O S a.c1,O S a.c2,O S a.c3,I A a.l.length ca],D #[O S b.c0,O S b.c1,O S b.c2,O S b.c3,I B b.l.length cb]] w fun e w'=>e= H (O S (eU a b))∧Gr w w':=by
 have hg0:Gr w ((w.alloc (J #[O S a.c0,O S a.c1,O S a.c2,O S a.c3,I A a.l.length ca] 39)).alloc (J #[O S b.c0,O S b.c1,O S b.c2,O S b.c3,I B b.l.length cb] 39)):=((gR w).alloc _).alloc _
 have hb0:CtxAt ((w.alloc (J #[O S a.c0,O S a.c1,O S a.c2,O S a.c3,I A a.l.length ca] 39)).alloc (J #[O S b.c0,O S b.c1,O S b.c2,O S b.c3,I B b.l.length cb] 39)) (w.heap.size+1) b B cb:=CtxAt.new 39 (hrb.gr ((gR _).alloc _)) (by simp)
 go_enter Tryz.func99,Tryz.ntmps99
 go_wp2_with fail
 refine (eO a A ca _ hal (hra.gr hg0)).mono ?_
 rintro e w1 ⟨rfl,hg1⟩
 by_cases he:aO a=0
 ·have hE:Hid (eU a b=aO b):=by show eU a b=_;simp[eU,he]
  have heb:(aO a != 0)=false:=by simpa using he
  clear he
  obtain ⟨k0,k1,k2,k3,k4,_,hrow⟩:=hb0.gr hg1
  go_wp2_with fail
  refine (eO b B cb _ hbl hrow).mono ?_
  rintro e w2 ⟨rfl,hg2⟩
  go_wp2
  go_ret
  rw[hE.out]
  exact ⟨rfl,(hg0.trans hg1).trans hg2⟩
 ·have hE:Hid (eU a b=aO a):=by show eU a b=_;simp[eU,he]
  have heb:(aO a != 0)=true:=by simpa using he
  clear he
  go_wp2
  go_ret
  rw[hE.out]
  exact ⟨rfl,hg0.trans hg1⟩

theorem kC {a b:Ctx} (h:eU a b=0):aO a=0∧aO b=0:=by
 unfold eU at h
 by_cases ha:aO a=0
 ·rw[if_pos ha] at h;exact ⟨ha,h⟩
 ·rw[if_neg ha] at h;exact absurd h ha
theorem bE {c:Ctx} (h:aO c=0):bw c=true∧c.l.length≤400∧∀k,k<c.l.length→iu c k=true:=by
 have h1:=kY h
 unfold aO at h
 rw[h1] at h
 by_cases hl:400<c.l.length
 ·simp[hl] at h
 ·refine ⟨h1,by omega,?_⟩
  cases ha:(List.range c.l.length).all (iu c)
  ·simp[hl,ha] at h
  ·intro k hk
   rw[List.all_eq_true] at ha
   exact ha k (by simpa using hk)
theorem iI {c:Ctx} (h:aO c=0):∀x∈c.l,al x=true:=by
 intro x hx
 obtain ⟨j,hj,rfl⟩:=List.getElem_of_mem hx
 have:=(bE h).2.2 j hj
 cases j with
 | zero=>rw[eR hj rfl] at this;simp at this;exact this.1
 | succ m=>rw[dN hj rfl rfl] at this;simp at this;exact this.1.1
end Go.Proofs.YtkefkplnamkicabGreatDoor
