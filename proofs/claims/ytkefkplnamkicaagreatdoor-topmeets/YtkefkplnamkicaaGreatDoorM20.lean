/-
  inc.New, All, Feed: a view that lies within a block, from cell o on.
  A block of known cells that may be written.
-/
import Derived.Test.YtkefkplnamkicaaGreatDoorM19
set_option maxRecDepth 100000
set_option maxHeartbeats 8000000
open Go.Ending renaming returned → O
open Go.Proofs.Tryz renaming prog → S
open Go.Value renaming slice → I, pointer → J, tuple → Z, int → H
namespace Go.Proofs.YtkefkplnamkicaaGreatDoor
open Go.RowKit Go.Sort Go.Maps

theorem qH (q:List Stp) (a b:List Zit):ax (e7 q a b)=0:=by
 by_cases h:bY q a b=0
 ·exact uF h
 ·rw[sk h];decide
structure Vo (w:World) (V o:Nat) (P:Nat→Prop) (q:List Stp) (QA:Option Addr) (cq:Nat) (a:List Itm) (A:Option Addr) (ca:Nat) (b:List Itm) (B:Option Addr) (cb:Nat):Prop where
 lt:V<w.heap.size
 fz:∀j,w.frozen? ⟨V,j,none⟩=false
 c0:w.cell? ⟨V,o,none⟩=some (I QA q.length cq)
 c1:w.cell? ⟨V,o+1,none⟩=some (I A a.length ca)
 c2:w.cell? ⟨V,o+2,none⟩=some (I B b.length cb)
 st:StP P w QA q
 len:q.length≤8
 la:LvP P w A ca a
 lb:LvP P w B cb b
theorem Vo.below {w w':World} {V o:Nat} {P:Nat→Prop} {q:List Stp} {QA:Option Addr} {cq:Nat} {a:List Itm} {A:Option Addr} {ca:Nat} {b:List Itm} {B:Option Addr} {cb:Nat} (h:Vo w V o P q QA cq a A ca b B cb) (k:Below w.heap.size w w'):Vo w' V o P q QA cq a A ca b B cb :=
 ⟨nL h.lt k.size,fun j=>(k.frozen (p:=⟨V,j,none⟩) h.lt).trans (h.fz j),(k.cell (p:=⟨V,o,none⟩) h.lt).trans h.c0,(k.cell (p:=⟨V,o+1,none⟩) h.lt).trans h.c1,(k.cell (p:=⟨V,o+2,none⟩) h.lt).trans h.c2,h.st.below k,h.len,h.la.below k,h.lb.below k⟩
theorem Vo.gr {w w':World} {V o:Nat} {P:Nat→Prop} {q:List Stp} {QA:Option Addr} {cq:Nat} {a:List Itm} {A:Option Addr} {ca:Nat} {b:List Itm} {B:Option Addr} {cb:Nat} (h:Vo w V o P q QA cq a A ca b B cb) (k:Gr w w'):Vo w' V o P q QA cq a A ca b B cb:=h.below k.below

theorem zx (q:List Stp) (QA:Option Addr) (cq:Nat) (w:World) (hl:q.length≤maxLen) (hq:Stps w QA q) (he:¬bV q=0) :
  Calls S 79 #[I QA q.length cq] w fun e w'=>e= O (Z #[J none,H .i64 (bV q)])∧Below w.heap.size w w':=by
 have hC0:=pC (A:=QA) (ca:=cq) rfl hl hq
 obtain ⟨E,hE⟩:∃E,bV q=E:=⟨_,rfl⟩
 rw[hE] at hC0 he ⊢
 have hE0:(E != 0)=true:=by simpa using he
 have hC:Hid _:=hC0
 clear hC0 hq hl he hE
 go_enter Tryz.func79,Tryz.ntmps79
 go_wp2_with fail
 refine cM (show Calls _ _ _ _ _ from hC.out) ?_
 rintro e w1 ⟨rfl,hb1⟩
 have hbH:Hid (Below w.heap.size w w1):=hb1
 clear hb1 hC
 go_wp2
 go_ret2
 exact ⟨rfl,hbH.out⟩

theorem AA (q:List Stp) (QA:Option Addr) (cq:Nat) (w:World) (hl:q.length≤maxLen) (hq:Stps w QA q) (he:bV q=0) :
  Calls S 79 #[I QA q.length cq] w fun e w'=>∃(V:Nat) (q':List Stp) (QB:Option Addr) (cr:Nat),e= O (Z #[J (some ⟨V,0,none⟩),H .i64 0])∧q'.map bare=q.map bare∧Vo w' V 0 (fun b=>w.heap.size≤b∧b<V) q' QB cr [] none 0 [] none 0∧w.heap.size≤V∧Below w.heap.size w w':=by
 have hC0:=pC (A:=QA) (ca:=cq) he hl hq
 have hC:Hid _:=hC0
 have hs:=si he
 have hH:Hid (Stps w QA q∧q.length≤8∧∀s∈q,s.l.length≤8):=⟨hq,hs.1,hs.2⟩
 clear hC0 hq hl he hs
 go_enter Tryz.func79,Tryz.ntmps79
 go_wp2_with fail
 refine cM (show Calls _ _ _ _ _ from hC.out) ?_
 rintro e w1 ⟨rfl,hb1⟩
 have hD0:=ut q QA cq w1 hH.out.2.1 hH.out.2.2 (hH.out.1.below hb1)
 have hD:Hid _:=hD0
 have hbH:Hid (Below w.heap.size w w1):=hb1
 clear hb1 hC hD0
 go_wp2_with fail
 refine cM (show Calls _ _ _ _ _ from hD.out) ?_
 rintro e w2 ⟨q',C,k,rfl,h1,h2,h3,h4,h5⟩
 have hfin:Hid (q'.map bare=q.map bare∧Vo (w2.alloc (.cells #[I C q'.length k,I none 0 0,I none 0 0] 70)) w2.heap.size 0 (fun b=>w.heap.size≤b∧b<w2.heap.size) q' C k [] none 0 [] none 0∧w.heap.size≤w2.heap.size∧Below w.heap.size w (w2.alloc (.cells #[I C q'.length k,I none 0 0,I none 0 0] 70))):=by
  have hg:Gr w2 (w2.alloc (.cells #[I C q'.length k,I none 0 0,I none 0 0] 70)):=(gR _).alloc _
  have hbw:=hbH.out.trans (h5.mono hbH.out.size)
  have hlen:q'.length=q.length:=by have:=congrArg List.length h1;simpa using this
  refine ⟨h1,⟨by simp,fun j=>eP (w:=w2) (gR _) j,ab (w:=w2) (gR _) rfl,ab (w:=w2) (gR _) rfl,ab (w:=w2) (gR _) rfl,((StP.new h2 h4).mono fun b hb=>⟨nT hbH.out.size hb.1,hb.2⟩).below hg.below,by rw[hlen];exact hH.out.2.1,LvP.none _ _,LvP.none _ _⟩,hbw.size,hbw.trans (hg.below.mono hbw.size)⟩
 clear h1 h2 h3 h4 h5 hD
 go_wp2
 go_ret2
 exact ⟨w2.heap.size,q',C,k,rfl,hfin.out⟩

theorem qp (w:World) (V o:Nat) (P:Nat→Prop) (q:List Stp) (QA:Option Addr) (cq:Nat) (a:List Itm) (A:Option Addr) (ca:Nat) (b:List Itm) (B:Option Addr) (cb:Nat) (h:Vo w V o P q QA cq a A ca b B cb) :
  Calls S 101 #[J (some ⟨V,o,none⟩)] w fun e w'=>∃(L:List Itm) (C:Option Addr) (k:Nat),e= O (I C L.length k)∧L.map Itm.z=e7 q (a.map Itm.z) (b.map Itm.z)∧Lv w' C k L∧Below w.heap.size w w'∧NwT w' k w.heap.size C L:=by
 have mixed:Tryz.prog.follows .mixedOrders=true:=by kernel_rfl
 have hq8:=h.len
 have hE0:Hid (∀W,Gr w W→Calls S 23 #[I QA q.length cq,I A a.length ca,I B b.length cb] W fun e w'=>∃(L:List Itm) (C:Option Addr) (k:Nat),e= O (Z #[I C L.length k,H .i64 (bY q (a.map Itm.z) (b.map Itm.z))])∧L.map Itm.z=e7 q (a.map Itm.z) (b.map Itm.z)∧Lv w' C k L∧Below W.heap.size W w'∧NwT w' k W.heap.size C L):=fun W hg=>mj q QA cq a b A B ca cb W (by unfold maxLen;omega) (h.st.st.gr hg) (h.la.lv.gr hg) (h.lb.lv.gr hg)
 have c0:=h.c0
 have c1:=h.c1
 have c2:=h.c2
 clear h hq8
 go_enter Tryz.func101,Tryz.ntmps101
 go_wp2
 go_region_with (go_at_call 23;refine cM (hE0.out _ (gR w).drew) ?_;rintro e w1 ⟨L,C,k,rfl,h1,h2,h3,h4⟩)
 all_goals
  have hfin:Hid (L.map Itm.z=e7 q (a.map Itm.z) (b.map Itm.z)∧Lv w1 C k L∧Below w.heap.size w w1∧NwT w1 k w.heap.size C L):=⟨h1,h2,(gR w).drew.below.trans h3,h4⟩
  clear h1 h2 h3 h4
  go_wp2
  go_ret
  exact ⟨L,C,k,rfl,hfin.out⟩

theorem Vo.tabs {w w':World} {V o:Nat} {P P':Nat→Prop} {q:List Stp} {QA:Option Addr} {cq:Nat} {a a':List Itm} {A A':Option Addr} {ca ca':Nat} {b b':List Itm} {B B':Option Addr} {cb cb':Nat} (h:Vo w V o P q QA cq a A ca b B cb) (ha:LvP P' w A' ca' a') (hb:LvP P' w B' cb' b') (hw:(w.setCell ⟨V,o+1,none⟩ (I A' a'.length ca')).setCell ⟨V,o+2,none⟩ (I B' b'.length cb')=w') (hPP:∀b,P b→P' b) (hV:¬P' V) :
  Vo w' V o P' q QA cq a' A' ca' b' B' cb'∧Wr V (o+1) (o+3) w w':=by
 subst hw
 have hW:Wr V (o+1) (o+3) w ((w.setCell ⟨V,o+1,none⟩ (I A' a'.length ca')).setCell ⟨V,o+2,none⟩ (I B' b'.length cb')):=(Wr.set w _ (by omega) (by omega)).trans (Wr.set _ _ (by omega) (by omega))
 have hA:=hW.agr hV
 refine ⟨⟨by simpa using h.lt,fun j=>by simpa using h.fz j,?_,?_,?_,(h.st.mono hPP).agr hA,h.len,ha.agr hA,hb.agr hA⟩,hW⟩
 ·rw[cG (by omega),cG (by omega)];exact h.c0
 ·rw[cG (by omega)];exact World.cell?_setCell_same _ _ _ h.c1
 ·exact World.cell?_setCell_same _ _ _ (u:= I B b.length cb) (by rw[cG (by omega)];exact h.c2)

theorem wN (w:World) (V o:Nat) (P:Nat→Prop) (q:List Stp) (QA:Option Addr) (cq:Nat) (a:List Itm) (A:Option Addr) (ca:Nat) (b:List Itm) (B:Option Addr) (cb:Nat) (h:Vo w V o P q QA cq a A ca b B cb) (x y:List Itm) (X Y:Option Addr) (cx cy:Nat) (hx:Lv w X cx x) (hy:Lv w Y cy y) (he:¬j0 q (a.map Itm.z) (b.map Itm.z) (x.map Itm.z) (y.map Itm.z)=0) :
  Calls S 113 #[J (some ⟨V,o,none⟩),I X x.length cx,I Y y.length cy] w fun e w'=>∃E,e= O (Z #[I none 0 0,H .i64 E])∧E=j0 q (a.map Itm.z) (b.map Itm.z) (x.map Itm.z) (y.map Itm.z)∧Below w.heap.size w w':=by
 obtain ⟨E1,hE1⟩:∃E,gQ (x.map Itm.z) (y.map Itm.z)=E:=⟨_,rfl⟩
 have hC0:=jy x y X Y cx cy w hx hy
 rw[hE1] at hC0
 have hC:Hid _:=hC0
 have hH:Hid (Vo w V o P q QA cq a A ca b B cb∧Lv w X cx x∧Lv w Y cy y∧gQ (x.map Itm.z) (y.map Itm.z)=E1∧¬j0 q (a.map Itm.z) (b.map Itm.z) (x.map Itm.z) (y.map Itm.z)=0):=⟨h,hx,hy,hE1,he⟩
 have hU:Hid (∀E,j0 q (a.map Itm.z) (b.map Itm.z) (x.map Itm.z) (y.map Itm.z)=E→True):=fun _ _=>trivial
 obtain ⟨F,hF⟩:∃F,j0 q (a.map Itm.z) (b.map Itm.z) (x.map Itm.z) (y.map Itm.z)=F:=⟨_,rfl⟩
 have hFH:Hid (j0 q (a.map Itm.z) (b.map Itm.z) (x.map Itm.z) (y.map Itm.z)=F):=hF
 rw[hF]
 clear hC0 h hx hy hE1 he hF hU
 go_enter Tryz.func113,Tryz.ntmps113
 go_wp2_with fail
 refine cM (show Calls _ _ _ _ _ from hC.out) ?_
 rintro e w1 ⟨rfl,hg1⟩
 have hW1:Hid (Vo w1 V o P q QA cq a A ca b B cb∧Lv w1 X cx x∧Lv w1 Y cy y∧Below w.heap.size w w1):=⟨hH.out.1.gr hg1,hH.out.2.1.gr hg1,hH.out.2.2.1.gr hg1,hg1.below⟩
 clear hC hg1
 cases h1:(E1 != 0)
 rotate_left
 focus
  have hfin:Hid (E1=F):=by
   have hn:¬gQ (x.map Itm.z) (y.map Itm.z)=0:=by rw[hH.out.2.2.2.1];simpa using h1
   show _=_;rw[←hFH.out];unfold j0;rw[if_neg hn];exact hH.out.2.2.2.1.symm
  go_wp2
  go_ret2
  exact ⟨E1,rfl,hfin.out,hW1.out.2.2.2⟩
 have hT0:Hid (gQ (x.map Itm.z) (y.map Itm.z)=0):=by show _=_;rw[hH.out.2.2.2.1];simpa using h1
 have c1:=hW1.out.1.c1
 obtain ⟨E2,hE2⟩:∃E,aW (a.map Itm.z) (x.map Itm.z)=E:=⟨_,rfl⟩
 have hA0:=AP hW1.out.1.la.lv hW1.out.2.1 rfl rfl
 rw[hE2] at hA0
 have hA:Hid _:=hA0
 have hE2H:Hid (aW (a.map Itm.z) (x.map Itm.z)=E2):=hE2
 clear hA0 hE2
 go_wp2_with fail
 refine cM (show Calls _ _ _ _ _ from hA.out) ?_
 rintro e w2 ⟨K,PA,pc,rfl,p1,p2,p3⟩
 have hW2:Hid (Vo w2 V o P q QA cq a A ca b B cb∧Lv w2 Y cy y∧Below w.heap.size w w2∧Lv w2 PA pc K∧K.map Itm.z=aU (a.map Itm.z) (x.map Itm.z)):=⟨hW1.out.1.below p3,hW1.out.2.2.1.below p3,hW1.out.2.2.2.trans (p3.mono hW1.out.2.2.2.size),p2,p1⟩
 clear hA p1 p2 p3 c1 hW1
 cases h2:(E2 != 0)
 rotate_left
 focus
  have hfin:Hid (E2=F):=by
   have hn:¬aW (a.map Itm.z) (x.map Itm.z)=0:=by rw[hE2H.out];simpa using h2
   show _=_;rw[←hFH.out];unfold j0;rw[if_pos hT0.out,if_neg hn];exact hE2H.out.symm
  go_wp2
  go_ret2
  exact ⟨E2,rfl,hfin.out,hW2.out.2.2.1⟩
 have hT2:Hid (aW (a.map Itm.z) (x.map Itm.z)=0):=by show _=_;rw[hE2H.out];simpa using h2
 have c2:=hW2.out.1.c2
 obtain ⟨E3,hE3⟩:∃E,aW (b.map Itm.z) (y.map Itm.z)=E:=⟨_,rfl⟩
 have hA0:=AP hW2.out.1.lb.lv hW2.out.2.1 rfl rfl
 rw[hE3] at hA0
 have hA:Hid _:=hA0
 have hE3H:Hid (aW (b.map Itm.z) (y.map Itm.z)=E3):=hE3
 clear hA0 hE3
 go_wp2_with fail
 refine cM (show Calls _ _ _ _ _ from hA.out) ?_
 rintro e w3 ⟨R,RA,rc,rfl,p1,p2,p3⟩
 have hW3:Hid (Vo w3 V o P q QA cq a A ca b B cb∧Below w.heap.size w w3∧Lv w3 PA pc K∧K.map Itm.z=aU (a.map Itm.z) (x.map Itm.z)∧Lv w3 RA rc R∧R.map Itm.z=aU (b.map Itm.z) (y.map Itm.z)):=⟨hW2.out.1.below p3,hW2.out.2.2.1.trans (p3.mono hW2.out.2.2.1.size),hW2.out.2.2.2.1.below p3,hW2.out.2.2.2.2,p2,p1⟩
 clear hA p1 p2 p3 c2 hW2
 cases h3:(E3 != 0)
 rotate_left
 focus
  have hfin:Hid (E3=F):=by
   have hn:¬aW (b.map Itm.z) (y.map Itm.z)=0:=by rw[hE3H.out];simpa using h3
   show _=_;rw[←hFH.out];unfold j0;rw[if_pos hT0.out,if_pos hT2.out,if_neg hn];exact hE3H.out.symm
  go_wp2
  go_ret2
  exact ⟨E3,rfl,hfin.out,hW3.out.2.1⟩
 have hT3:Hid (aW (b.map Itm.z) (y.map Itm.z)=0):=by show _=_;rw[hE3H.out];simpa using h3
 have c0:=hW3.out.1.c0
 have hq8:=hW3.out.1.len
 have hV0:=qG q QA cq K R PA RA pc rc w3 (by unfold maxLen;omega) hW3.out.1.st.st hW3.out.2.2.1 hW3.out.2.2.2.2.1
 have hPF:Hid (bY q (K.map Itm.z) (R.map Itm.z)=F):=by
  show _=_
  rw[hW3.out.2.2.2.1,hW3.out.2.2.2.2.2,←hFH.out]
  unfold j0
  rw[if_pos hT0.out,if_pos hT2.out,if_pos hT3.out]
 rw[hPF.out] at hV0
 have hV:Hid _:=hV0
 have hF0:(F != 0)=true:=by have:=hH.out.2.2.2.2;rw[hFH.out] at this;simpa using this
 clear hV0 hq8
 go_wp2_with fail
 refine cM (show Calls _ _ _ _ _ from hV.out) ?_
 rintro e w4 ⟨N,NA,nc,rfl,n1,n2,n3⟩
 have hfin:Hid (Below w.heap.size w w4):=hW3.out.2.1.trans (n3.mono hW3.out.2.1.size)
 clear hV n1 n2 n3 c0
 go_wp2
 go_ret2
 exact ⟨F,rfl,rfl,hfin.out⟩

theorem zg (w:World) (V o:Nat) (P:Nat→Prop) (q:List Stp) (QA:Option Addr) (cq:Nat) (a:List Itm) (A:Option Addr) (ca:Nat) (b:List Itm) (B:Option Addr) (cb:Nat) (h:Vo w V o P q QA cq a A ca b B cb) (hV:¬P V) (x y:List Itm) (X Y:Option Addr) (cx cy:Nat) (hx:Lv w X cx x) (hy:Lv w Y cy y) (he:j0 q (a.map Itm.z) (b.map Itm.z) (x.map Itm.z) (y.map Itm.z)=0) :
  Calls S 113 #[J (some ⟨V,o,none⟩),I X x.length cx,I Y y.length cy] w fun e w'=>∃(n:Nat) (C:Option Addr) (k:Nat) (a':List Itm) (A':Option Addr) (ca':Nat) (b':List Itm) (B':Option Addr) (cb':Nat),e= O (Z #[I C n k,H .i64 0])∧a'.map Itm.z=aU (a.map Itm.z) (x.map Itm.z)∧b'.map Itm.z=aU (b.map Itm.z) (y.map Itm.z)∧Vo w' V o (ag P w.heap.size w'.heap.size) q QA cq a' A' ca' b' B' cb'∧Wr V (o+1) (o+3) w w':=by
 obtain ⟨f1,f2,f3,f4⟩:=sp he
 have hC0:=jy x y X Y cx cy w hx hy
 rw[f1] at hC0
 have hC:Hid _:=hC0
 have hH:Hid (Vo w V o P q QA cq a A ca b B cb∧Lv w X cx x∧Lv w Y cy y):=⟨h,hx,hy⟩
 have hF:Hid (aW (a.map Itm.z) (x.map Itm.z)=0∧aW (b.map Itm.z) (y.map Itm.z)=0∧bY q (aU (a.map Itm.z) (x.map Itm.z)) (aU (b.map Itm.z) (y.map Itm.z))=0):=⟨f2,f3,f4⟩
 have hVH:Hid (¬P V):=hV
 clear hC0 h hx hy he f1 f2 f3 f4 hV
 go_enter Tryz.func113,Tryz.ntmps113
 go_wp2_with fail
 refine cM (show Calls _ _ _ _ _ from hC.out) ?_
 rintro e w1 ⟨rfl,hg1⟩
 have hW1:Hid (Vo w1 V o P q QA cq a A ca b B cb∧Lv w1 X cx x∧Lv w1 Y cy y∧Below w.heap.size w w1):=⟨hH.out.1.gr hg1,hH.out.2.1.gr hg1,hH.out.2.2.gr hg1,hg1.below⟩
 clear hC hg1
 have c1:=hW1.out.1.c1
 have hA0:=qn hW1.out.1.la.lv hW1.out.2.1 rfl rfl
 rw[hF.out.1] at hA0
 have hA:Hid _:=hA0
 clear hA0
 go_wp2_with fail
 refine cM (show Calls _ _ _ _ _ from hA.out) ?_
 rintro e w2 ⟨K,PA,pc,rfl,p1,p2,p3,p4⟩
 have hW2:Hid (Vo w2 V o P q QA cq a A ca b B cb∧Lv w2 Y cy y∧Below w.heap.size w w2∧LvP (fun b=>w.heap.size≤b∧b<w2.heap.size) w2 PA pc K∧K.map Itm.z=aU (a.map Itm.z) (x.map Itm.z)):=⟨hW1.out.1.below p3,hW1.out.2.2.1.below p3,hW1.out.2.2.2.trans (p3.mono hW1.out.2.2.2.size),(LvP.new p2 (p4.new.mono hW1.out.2.2.2.size)),p1⟩
 clear hA p1 p2 p3 p4 c1 hW1
 have c2:=hW2.out.1.c2
 have hA0:=qn hW2.out.1.lb.lv hW2.out.2.1 rfl rfl
 rw[hF.out.2.1] at hA0
 have hA:Hid _:=hA0
 clear hA0
 go_wp2_with fail
 refine cM (show Calls _ _ _ _ _ from hA.out) ?_
 rintro e w3 ⟨R,RA,rc,rfl,p1,p2,p3,p4⟩
 have hW3:Hid (Vo w3 V o P q QA cq a A ca b B cb∧Below w.heap.size w w3∧LvP (fun b=>w.heap.size≤b∧b<w3.heap.size) w3 PA pc K∧K.map Itm.z=aU (a.map Itm.z) (x.map Itm.z)∧LvP (fun b=>w.heap.size≤b∧b<w3.heap.size) w3 RA rc R∧R.map Itm.z=aU (b.map Itm.z) (y.map Itm.z)):=⟨hW2.out.1.below p3,hW2.out.2.2.1.trans (p3.mono hW2.out.2.2.1.size),(hW2.out.2.2.2.1.below p3).mono fun b hb=>⟨hb.1,nL hb.2 p3.size⟩,hW2.out.2.2.2.2,LvP.new p2 (p4.new.mono hW2.out.2.2.1.size),p1⟩
 clear hA p1 p2 p3 p4 c2 hW2
 have c0:=hW3.out.1.c0
 have hq8:=hW3.out.1.len
 have hV0:=mj q QA cq K R PA RA pc rc w3 (by unfold maxLen;omega) hW3.out.1.st.st hW3.out.2.2.1.lv hW3.out.2.2.2.2.1.lv
 have hP0:bY q (K.map Itm.z) (R.map Itm.z)=0:=by rw[hW3.out.2.2.2.1,hW3.out.2.2.2.2.2];exact hF.out.2.2
 rw[hP0] at hV0
 have hV:Hid _:=hV0
 clear hV0 hq8 hP0
 go_wp2_with fail
 refine cM (show Calls _ _ _ _ _ from hV.out) ?_
 rintro e w4 ⟨N,NA,nc,rfl,n1,n2,n3,n4⟩
 have hW4:Hid (Vo w4 V o P q QA cq a A ca b B cb∧Below w.heap.size w w4∧LvP (fun b=>w.heap.size≤b∧b<w4.heap.size) w4 PA pc K∧K.map Itm.z=aU (a.map Itm.z) (x.map Itm.z)∧LvP (fun b=>w.heap.size≤b∧b<w4.heap.size) w4 RA rc R∧R.map Itm.z=aU (b.map Itm.z) (y.map Itm.z)∧LvP (fun b=>w.heap.size≤b∧b<w4.heap.size) w4 NA nc N∧N.map Itm.z=e7 q (K.map Itm.z) (R.map Itm.z)):=⟨hW3.out.1.below n3,hW3.out.2.1.trans (n3.mono hW3.out.2.1.size),(hW3.out.2.2.1.below n3).mono fun b hb=>⟨hb.1,nL hb.2 n3.size⟩,hW3.out.2.2.2.1,(hW3.out.2.2.2.2.1.below n3).mono fun b hb=>⟨hb.1,nL hb.2 n3.size⟩,hW3.out.2.2.2.2.2,LvP.new n2 (n4.new.mono hW3.out.2.1.size),n1⟩
 clear hV n1 n2 n3 n4 c0 hW3
 have hO0:=qp w4 V o P q QA cq a A ca b B cb hW4.out.1
 have hO:Hid _:=hO0
 clear hO0
 go_wp2_with fail
 refine cM (show Calls _ _ _ _ _ from hO.out) ?_
 rintro e w5 ⟨M,MA,mc,rfl,m1,m2,m3,m4⟩
 have hW5:Hid (Vo w5 V o P q QA cq a A ca b B cb∧Below w.heap.size w w5∧LvP (ag P w.heap.size w5.heap.size) w5 PA pc K∧K.map Itm.z=aU (a.map Itm.z) (x.map Itm.z)∧LvP (ag P w.heap.size w5.heap.size) w5 RA rc R∧R.map Itm.z=aU (b.map Itm.z) (y.map Itm.z)∧LvP (fun b=>w.heap.size≤b∧b<w5.heap.size) w5 NA nc N∧N.map Itm.z=e7 q (K.map Itm.z) (R.map Itm.z)∧LvP (fun b=>w.heap.size≤b∧b<w5.heap.size) w5 MA mc M∧M.map Itm.z=e7 q (a.map Itm.z) (b.map Itm.z)):=⟨hW4.out.1.below m3,hW4.out.2.1.trans (m3.mono hW4.out.2.1.size),(hW4.out.2.2.1.below m3).mono fun b hb=>ag.new (nR _) m3.size b hb,hW4.out.2.2.2.1,(hW4.out.2.2.2.2.1.below m3).mono fun b hb=>ag.new (nR _) m3.size b hb,hW4.out.2.2.2.2.2.1,(hW4.out.2.2.2.2.2.2.1.below m3).mono fun b hb=>⟨hb.1,nL hb.2 m3.size⟩,hW4.out.2.2.2.2.2.2.2,LvP.new m2 (m4.new.mono hW4.out.2.1.size),m1⟩
 clear hO m1 m2 m3 m4 hW4
 have c1:=hW5.out.1.c1
 have c2:=hW5.out.1.c2
 have z1:=hW5.out.1.fz (o+1)
 have z2:=hW5.out.1.fz (o+2)
 obtain ⟨w6,hw6⟩:∃W,(w5.setCell ⟨V,o+1,none⟩ (I PA K.length pc)).setCell ⟨V,o+2,none⟩ (I RA R.length rc)=W:=⟨_,rfl⟩
 have hVlt:V<w.heap.size:=hH.out.1.lt
 have hVP:¬ag P w.heap.size w5.heap.size V:=fun k=>k.elim hVH.out fun k=>by omega
 have hS:=Vo.tabs hW5.out.1 hW5.out.2.2.1 hW5.out.2.2.2.2.1 hw6 (fun b hb=>ag.old b hb) hVP
 have hs65:w6.heap.size=w5.heap.size:=by rw[←hw6];simp
 have hW6:Hid (Vo w6 V o (ag P w.heap.size w5.heap.size) q QA cq K PA pc R RA rc∧Wr V (o+1) (o+3) w w6∧Lv w6 NA nc N∧Lv w6 MA mc M∧w6.heap.size=w5.heap.size):=by
  have hb:=hW5.out.2.1
  have hag:Agr (fun b=>w.heap.size≤b∧b<w5.heap.size) w5 w6:=hS.2.agr fun k=>by omega
  exact ⟨hS.1,(Wr.of hb hVlt).trans hS.2,(hW5.out.2.2.2.2.2.2.1.agr hag).lv,(hW5.out.2.2.2.2.2.2.2.2.1.agr hag).lv,hs65⟩
 have hD0:=wB N M NA MA nc mc w6 hW6.out.2.2.1.items hW6.out.2.2.2.1.items hW6.out.2.2.1.nilc.cap hW6.out.2.2.2.1.nilc.cap (by rw[hW5.out.2.2.2.2.2.2.2.1];exact qH _ _ _) (by rw[hW5.out.2.2.2.2.2.2.2.2.2];exact qH _ _ _)
 have hD:Hid _:=hD0
 have hVl:Hid (V<w.heap.size):=hVlt
 clear hS hD0 hVP hs65 hVlt
 go_wp2_with fail
 clear hw6 c1 c2 z1 z2
 refine cM (show Calls _ _ _ _ _ from hD.out) ?_
 rintro e w7 ⟨L,C,k,rfl,d1,d2,d3,d4,d5⟩
 have hfin:Hid (K.map Itm.z=aU (a.map Itm.z) (x.map Itm.z)∧R.map Itm.z=aU (b.map Itm.z) (y.map Itm.z)∧Vo w7 V o (ag P w.heap.size w7.heap.size) q QA cq K PA pc R RA rc∧Wr V (o+1) (o+3) w w7):=by
  have hg:=hW6.out.2.1
  have h7:=hW6.out.1.below d5
  have hm:∀b,ag P w.heap.size w5.heap.size b→ag P w.heap.size w7.heap.size b:=ag.more (nR _) (by rw[←hW6.out.2.2.2.2];exact d5.size)
  exact ⟨hW5.out.2.2.2.1,hW5.out.2.2.2.2.2.1,⟨h7.lt,h7.fz,h7.c0,h7.c1,h7.c2,h7.st.mono hm,h7.len,h7.la.mono hm,h7.lb.mono hm⟩,hg.trans (Wr.of d5 (nL hVl.out hg.size))⟩
 clear d1 d2 d3 d4 d5 hD
 go_wp2
 go_ret2
 exact ⟨_,C,k,K,PA,pc,R,RA,rc,rfl,hfin.out⟩

def Cls (w:World) (B:Nat) (l:List Value):Prop:=∃T,w.heap[B]? = some (.cells l.toArray T (0,0))
theorem Cls.new (w:World) (C:Array Value) (T:TypeId):Cls (w.alloc (.cells C T)) w.heap.size C.toList:=by
 refine ⟨T,?_⟩
 show (w.heap.push _)[w.heap.size]? = _
 rw[Array.getElem?_push_size,Array.toArray_toList]
theorem Cls.lt {w:World} {B:Nat} {l:List Value} (h:Cls w B l):B<w.heap.size:=by
 obtain ⟨T,h⟩:=h
 exact (Array.getElem?_eq_some_iff.1 h).1
theorem Cls.cell {w:World} {B:Nat} {l:List Value} (h:Cls w B l) {j:Nat} {v:Value} (hv:l[j]? = some v):w.cell? ⟨B,j,none⟩=some v:=by
 obtain ⟨T,h⟩:=h
 simp[World.cell?,h,hv]
theorem Cls.fz {w:World} {B:Nat} {l:List Value} (h:Cls w B l) (j:Nat):w.frozen? ⟨B,j,none⟩=false:=by
 obtain ⟨T,h⟩:=h
 simp[World.frozen?,h]
theorem Cls.keep {w w':World} {B:Nat} {l:List Value} (h:Cls w B l) (k:w'.heap[B]? = w.heap[B]?):Cls w' B l:=by
 obtain ⟨T,h⟩:=h
 exact ⟨T,k.trans h⟩
theorem Cls.below {w w':World} {B:Nat} {l:List Value} (h:Cls w B l) (k:Below w.heap.size w w'):Cls w' B l:=h.keep (k.block B h.lt)
theorem Cls.gr {w w':World} {B:Nat} {l:List Value} (h:Cls w B l) (k:Gr w w'):Cls w' B l:=h.below k.below
theorem Cls.oth {w:World} {B B' j:Nat} {l:List Value} (h:Cls w B l) (hB:B≠B') (v:Value):Cls (w.setCell ⟨B',j,none⟩ v) B l:=h.keep (Below.heap_setCell _ _ _ _ hB)
theorem Cls.put {w:World} {B:Nat} {l:List Value} (h:Cls w B l) (j:Nat) (v:Value):Cls (w.setCell ⟨B,j,none⟩ v) B (l.set j v):=by
 obtain ⟨T,h⟩:=h
 refine ⟨T,?_⟩
 show (w.heap.modify B _)[B]? = _
 rw[Array.getElem?_modify,if_pos rfl,h]
 simp
theorem wg {w:World} {B:Nat} {x0 x1 x2 x3 x4:Value} {l:List Value} (h:Cls w B (x0::x1::x2::x3::x4::l)):w.cell? ⟨B,0,none⟩=some x0∧w.cell? ⟨B,1,none⟩=some x1∧w.cell? ⟨B,2,none⟩=some x2∧w.cell? ⟨B,3,none⟩=some x3∧w.cell? ⟨B,4,none⟩=some x4:=⟨h.cell rfl,h.cell rfl,h.cell rfl,h.cell rfl,h.cell rfl⟩
theorem gw {w:World} {B:Nat} {x0 x1 x2 x3 x4 x5:Value} {l:List Value} (h:Cls w B (x0::x1::x2::x3::x4::x5::l)):w.cell? ⟨B,0,none⟩=some x0∧w.cell? ⟨B,1,none⟩=some x1∧w.cell? ⟨B,2,none⟩=some x2∧w.cell? ⟨B,3,none⟩=some x3∧w.cell? ⟨B,4,none⟩=some x4∧w.cell? ⟨B,5,none⟩=some x5:=⟨h.cell rfl,h.cell rfl,h.cell rfl,h.cell rfl,h.cell rfl,h.cell rfl⟩
theorem fP {w:World} {B:Nat} {x0 x1 x2 x3 x4 x5 x6 x7 x8 x9:Value} {l:List Value} (h:Cls w B (x0::x1::x2::x3::x4::x5::x6::x7::x8::x9::l)):w.cell? ⟨B,0,none⟩=some x0∧w.cell? ⟨B,1,none⟩=some x1∧w.cell? ⟨B,2,none⟩=some x2∧w.cell? ⟨B,3,none⟩=some x3∧w.cell? ⟨B,4,none⟩=some x4∧w.cell? ⟨B,5,none⟩=some x5∧w.cell? ⟨B,6,none⟩=some x6∧w.cell? ⟨B,7,none⟩=some x7∧w.cell? ⟨B,8,none⟩=some x8∧w.cell? ⟨B,9,none⟩=some x9:=⟨h.cell rfl,h.cell rfl,h.cell rfl,h.cell rfl,h.cell rfl,h.cell rfl,h.cell rfl,h.cell rfl,h.cell rfl,h.cell rfl⟩
theorem dR {w:World} {B:Nat} {x0 x1 x2 x3 x4 x5 x6 x7 x8 x9 x10 x11:Value} {l:List Value} (h:Cls w B (x0::x1::x2::x3::x4::x5::x6::x7::x8::x9::x10::x11::l)):w.cell? ⟨B,0,none⟩=some x0∧w.cell? ⟨B,1,none⟩=some x1∧w.cell? ⟨B,2,none⟩=some x2∧w.cell? ⟨B,3,none⟩=some x3∧w.cell? ⟨B,4,none⟩=some x4∧w.cell? ⟨B,5,none⟩=some x5∧w.cell? ⟨B,6,none⟩=some x6∧w.cell? ⟨B,7,none⟩=some x7∧w.cell? ⟨B,8,none⟩=some x8∧w.cell? ⟨B,9,none⟩=some x9∧w.cell? ⟨B,10,none⟩=some x10∧w.cell? ⟨B,11,none⟩=some x11:=⟨h.cell rfl,h.cell rfl,h.cell rfl,h.cell rfl,h.cell rfl,h.cell rfl,h.cell rfl,h.cell rfl,h.cell rfl,h.cell rfl,h.cell rfl,h.cell rfl⟩
theorem AQ {w:World} {B:Nat} {x0 x1 x2 x3 x4 x5 x6 x7 x8 x9 x10 x11 x12:Value} {l:List Value} (h:Cls w B (x0::x1::x2::x3::x4::x5::x6::x7::x8::x9::x10::x11::x12::l)):w.cell? ⟨B,0,none⟩=some x0∧w.cell? ⟨B,1,none⟩=some x1∧w.cell? ⟨B,2,none⟩=some x2∧w.cell? ⟨B,3,none⟩=some x3∧w.cell? ⟨B,4,none⟩=some x4∧w.cell? ⟨B,5,none⟩=some x5∧w.cell? ⟨B,6,none⟩=some x6∧w.cell? ⟨B,7,none⟩=some x7∧w.cell? ⟨B,8,none⟩=some x8∧w.cell? ⟨B,9,none⟩=some x9∧w.cell? ⟨B,10,none⟩=some x10∧w.cell? ⟨B,11,none⟩=some x11∧w.cell? ⟨B,12,none⟩=some x12:=⟨h.cell rfl,h.cell rfl,h.cell rfl,h.cell rfl,h.cell rfl,h.cell rfl,h.cell rfl,h.cell rfl,h.cell rfl,h.cell rfl,h.cell rfl,h.cell rfl,h.cell rfl⟩
theorem BK {w:World} {B:Nat} {x0 x1 x2 x3 x4 x5 x6 x7 x8 x9:Value} {l:List Value} (h:Cls w B (x0::x1::x2::x3::x4::x5::x6::x7::x8::x9::l)):w.cell? ⟨B,5,none⟩=some x5∧w.cell? ⟨B,6,none⟩=some x6∧w.cell? ⟨B,7,none⟩=some x7∧w.cell? ⟨B,8,none⟩=some x8∧w.cell? ⟨B,9,none⟩=some x9:=⟨h.cell rfl,h.cell rfl,h.cell rfl,h.cell rfl,h.cell rfl⟩
theorem yJ {w:World} {B:Nat} {x0 x1 x2 x3 x4 x5 x6 x7 x8 x9 x10 x11:Value} {l:List Value} (h:Cls w B (x0::x1::x2::x3::x4::x5::x6::x7::x8::x9::x10::x11::l)):w.cell? ⟨B,6,none⟩=some x6∧w.cell? ⟨B,7,none⟩=some x7∧w.cell? ⟨B,8,none⟩=some x8∧w.cell? ⟨B,9,none⟩=some x9∧w.cell? ⟨B,10,none⟩=some x10∧w.cell? ⟨B,11,none⟩=some x11:=⟨h.cell rfl,h.cell rfl,h.cell rfl,h.cell rfl,h.cell rfl,h.cell rfl⟩
theorem BM {w:World} {B:Nat} {l:List Value} (h:Cls w B l):w.frozen? ⟨B,0,none⟩=false∧w.frozen? ⟨B,1,none⟩=false∧w.frozen? ⟨B,2,none⟩=false∧w.frozen? ⟨B,3,none⟩=false∧w.frozen? ⟨B,4,none⟩=false:=⟨h.fz _,h.fz _,h.fz _,h.fz _,h.fz _⟩
theorem sn {w:World} {B:Nat} {l:List Value} (h:Cls w B l):w.frozen? ⟨B,0,none⟩=false∧w.frozen? ⟨B,1,none⟩=false∧w.frozen? ⟨B,2,none⟩=false∧w.frozen? ⟨B,3,none⟩=false∧w.frozen? ⟨B,4,none⟩=false∧w.frozen? ⟨B,5,none⟩=false:=⟨h.fz _,h.fz _,h.fz _,h.fz _,h.fz _,h.fz _⟩
theorem AV {w:World} {B:Nat} {l:List Value} (h:Cls w B l):w.frozen? ⟨B,0,none⟩=false∧w.frozen? ⟨B,1,none⟩=false∧w.frozen? ⟨B,2,none⟩=false∧w.frozen? ⟨B,3,none⟩=false∧w.frozen? ⟨B,4,none⟩=false∧w.frozen? ⟨B,5,none⟩=false∧w.frozen? ⟨B,6,none⟩=false∧w.frozen? ⟨B,7,none⟩=false∧w.frozen? ⟨B,8,none⟩=false∧w.frozen? ⟨B,9,none⟩=false:=⟨h.fz _,h.fz _,h.fz _,h.fz _,h.fz _,h.fz _,h.fz _,h.fz _,h.fz _,h.fz _⟩
theorem ov {w:World} {B:Nat} {l:List Value} (h:Cls w B l):w.frozen? ⟨B,0,none⟩=false∧w.frozen? ⟨B,1,none⟩=false∧w.frozen? ⟨B,2,none⟩=false∧w.frozen? ⟨B,3,none⟩=false∧w.frozen? ⟨B,4,none⟩=false∧w.frozen? ⟨B,5,none⟩=false∧w.frozen? ⟨B,6,none⟩=false∧w.frozen? ⟨B,7,none⟩=false∧w.frozen? ⟨B,8,none⟩=false∧w.frozen? ⟨B,9,none⟩=false∧w.frozen? ⟨B,10,none⟩=false∧w.frozen? ⟨B,11,none⟩=false:=⟨h.fz _,h.fz _,h.fz _,h.fz _,h.fz _,h.fz _,h.fz _,h.fz _,h.fz _,h.fz _,h.fz _,h.fz _⟩
theorem BN {w:World} {B:Nat} {l:List Value} (h:Cls w B l):w.frozen? ⟨B,5,none⟩=false∧w.frozen? ⟨B,6,none⟩=false∧w.frozen? ⟨B,7,none⟩=false∧w.frozen? ⟨B,8,none⟩=false∧w.frozen? ⟨B,9,none⟩=false:=⟨h.fz _,h.fz _,h.fz _,h.fz _,h.fz _⟩
theorem AW {w:World} {B:Nat} {l:List Value} (h:Cls w B l):w.frozen? ⟨B,6,none⟩=false∧w.frozen? ⟨B,7,none⟩=false∧w.frozen? ⟨B,8,none⟩=false∧w.frozen? ⟨B,9,none⟩=false∧w.frozen? ⟨B,10,none⟩=false∧w.frozen? ⟨B,11,none⟩=false:=⟨h.fz _,h.fz _,h.fz _,h.fz _,h.fz _,h.fz _⟩
end Go.Proofs.YtkefkplnamkicaaGreatDoor
