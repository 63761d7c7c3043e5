/-
  inc.New, All, Feed: a view that lies within a block, from cell o on.
  A block of known cells that may be written.
  Plain facts: dots sorted; what fold makes of sorted dots, told dot by dot.
  dot.Next: the next dot of a node.
  dot.checkBoth: what is wrong with two contexts.
  node.sum, setsOf, difference: the sets of a node's tables.
-/
import Derived.Test.YtckeonpnfankhaaGreatDoorM17
set_option maxRecDepth 100000
set_option maxHeartbeats 8000000
namespace Go.Proofs.YtckeonpnfankhaaGreatDoor
open Go.RowKit Go.Sort Go.Maps

theorem oe (q:List Stp) (a b:List Zit):av (iI q a b)=0:=by
 by_cases h:cH q a b=0
 ·exact s8 h
 ·rw[uI h];decide
structure Vo (w:World) (V o:Nat) (P:Nat→Prop) (q:List Stp) (QA:Option Addr) (cq:Nat) (a:List Itm) (A:Option Addr) (ca:Nat) (b:List Itm) (B:Option Addr) (cb:Nat):Prop where
 lt:V<w.heap.size
 fz:∀j,w.frozen? ⟨V,j,none⟩=false
 c0:w.cell? ⟨V,o,none⟩=some (.slice QA q.length cq)
 c1:w.cell? ⟨V,o+1,none⟩=some (.slice A a.length ca)
 c2:w.cell? ⟨V,o+2,none⟩=some (.slice B b.length cb)
 st:StP P w QA q
 len:q.length≤8
 la:LvP P w A ca a
 lb:LvP P w B cb b
theorem Vo.below {w w':World} {V o:Nat} {P:Nat→Prop} {q:List Stp} {QA:Option Addr} {cq:Nat} {a:List Itm} {A:Option Addr} {ca:Nat} {b:List Itm} {B:Option Addr} {cb:Nat} (h:Vo w V o P q QA cq a A ca b B cb) (k:Below w.heap.size w w'):Vo w' V o P q QA cq a A ca b B cb :=
 ⟨nL h.lt k.size,fun j=>(k.frozen (p:=⟨V,j,none⟩) h.lt).trans (h.fz j),(k.cell (p:=⟨V,o,none⟩) h.lt).trans h.c0,(k.cell (p:=⟨V,o+1,none⟩) h.lt).trans h.c1,(k.cell (p:=⟨V,o+2,none⟩) h.lt).trans h.c2,h.st.below k,h.len,h.la.below k,h.lb.below k⟩
theorem Vo.gr {w w':World} {V o:Nat} {P:Nat→Prop} {q:List Stp} {QA:Option Addr} {cq:Nat} {a:List Itm} {A:Option Addr} {ca:Nat} {b:List Itm} {B:Option Addr} {cb:Nat} (h:Vo w V o P q QA cq a A ca b B cb) (k:Gr w w'):Vo w' V o P q QA cq a A ca b B cb:=h.below k.below

theorem xd (q:List Stp) (QA:Option Addr) (cq:Nat) (w:World) (hl:q.length≤maxLen) (hq:Stps w QA q) (he:¬bS q=0) :
  Calls Tryz.prog 79 #[.slice QA q.length cq] w fun e w'=>e= .returned (.tuple #[.pointer none,.int .i64 (bS q)])∧Below w.heap.size w w':=by
 have hC0:=nW (A:=QA) (ca:=cq) rfl hl hq
 obtain ⟨E,hE⟩:∃E,bS q=E:=⟨_,rfl⟩
 rw[hE] at hC0 he ⊢
 have hE0:(E != 0)=true:=by simpa using he
 have hC:Hid _:=hC0
 clear hC0 hq hl he hE
 go_enter Tryz.func79,Tryz.ntmps79
 go_wp2_with fail
 refine cM (show Calls _ _ _ _ _ from hC.out) ?_
 rintro e w1 ⟨rfl,hb1⟩
 have hbH:Hid (Below w.heap.size w w1):=hb1
 clear hb1 hC
 go_wp2
 go_ret2
 exact ⟨rfl,hbH.out⟩

theorem xE (q:List Stp) (QA:Option Addr) (cq:Nat) (w:World) (hl:q.length≤maxLen) (hq:Stps w QA q) (he:bS q=0) :
  Calls Tryz.prog 79 #[.slice QA q.length cq] w fun e w'=>∃(V:Nat) (q':List Stp) (QB:Option Addr) (cr:Nat),e= .returned (.tuple #[.pointer (some ⟨V,0,none⟩),.int .i64 0])∧q'.map bare=q.map bare∧Vo w' V 0 (fun b=>w.heap.size≤b∧b<V) q' QB cr [] none 0 [] none 0∧w.heap.size≤V∧Below w.heap.size w w':=by
 have hC0:=nW (A:=QA) (ca:=cq) he hl hq
 have hC:Hid _:=hC0
 have hs:=qP he
 have hH:Hid (Stps w QA q∧q.length≤8∧∀s∈q,s.l.length≤8):=⟨hq,hs.1,hs.2⟩
 clear hC0 hq hl he hs
 go_enter Tryz.func79,Tryz.ntmps79
 go_wp2_with fail
 refine cM (show Calls _ _ _ _ _ from hC.out) ?_
 rintro e w1 ⟨rfl,hb1⟩
 have hD0:=rW q QA cq w1 hH.out.2.1 hH.out.2.2 (hH.out.1.below hb1)
 have hD:Hid _:=hD0
 have hbH:Hid (Below w.heap.size w w1):=hb1
 clear hb1 hC hD0
 go_wp2_with fail
 refine cM (show Calls _ _ _ _ _ from hD.out) ?_
 rintro e w2 ⟨q',C,k,rfl,h1,h2,h3,h4,h5⟩
 have hfin:Hid (q'.map bare=q.map bare∧Vo (w2.alloc (.cells #[.slice C q'.length k,.slice none 0 0,.slice none 0 0] 70)) w2.heap.size 0 (fun b=>w.heap.size≤b∧b<w2.heap.size) q' C k [] none 0 [] none 0∧w.heap.size≤w2.heap.size∧Below w.heap.size w (w2.alloc (.cells #[.slice C q'.length k,.slice none 0 0,.slice none 0 0] 70))):=by
  have hg:Gr w2 (w2.alloc (.cells #[.slice C q'.length k,.slice none 0 0,.slice none 0 0] 70)):=(gR _).alloc _
  have hbw:=hbH.out.trans (h5.mono hbH.out.size)
  have hlen:q'.length=q.length:=by have:=congrArg List.length h1;simpa using this
  refine ⟨h1,⟨by simp,fun j=>ew (w:=w2) (gR _) j,aa (w:=w2) (gR _) rfl,aa (w:=w2) (gR _) rfl,aa (w:=w2) (gR _) rfl,((StP.new h2 h4).mono fun b hb=>⟨nT hbH.out.size hb.1,hb.2⟩).below hg.below,by rw[hlen];exact hH.out.2.1,LvP.none _ _,LvP.none _ _⟩,hbw.size,hbw.trans (hg.below.mono hbw.size)⟩
 clear h1 h2 h3 h4 h5 hD
 go_wp2
 go_ret2
 exact ⟨w2.heap.size,q',C,k,rfl,hfin.out⟩

theorem vu (w:World) (V o:Nat) (P:Nat→Prop) (q:List Stp) (QA:Option Addr) (cq:Nat) (a:List Itm) (A:Option Addr) (ca:Nat) (b:List Itm) (B:Option Addr) (cb:Nat) (h:Vo w V o P q QA cq a A ca b B cb) :
  Calls Tryz.prog 101 #[.pointer (some ⟨V,o,none⟩)] w fun e w'=>∃(L:List Itm) (C:Option Addr) (k:Nat),e= .returned (.slice C L.length k)∧L.map Itm.z=iI q (a.map Itm.z) (b.map Itm.z)∧Lv w' C k L∧Below w.heap.size w w'∧NwT w' k w.heap.size C L:=by
 have mixed:Tryz.prog.follows .mixedOrders=true:=by kernel_rfl
 have hq8:=h.len
 have hE0:Hid (∀W,Gr w W→Calls Tryz.prog 23 #[.slice QA q.length cq,.slice A a.length ca,.slice B b.length cb] W fun e w'=>∃(L:List Itm) (C:Option Addr) (k:Nat),e= .returned (.tuple #[.slice C L.length k,.int .i64 (cH q (a.map Itm.z) (b.map Itm.z))])∧L.map Itm.z=iI q (a.map Itm.z) (b.map Itm.z)∧Lv w' C k L∧Below W.heap.size W w'∧NwT w' k W.heap.size C L):=fun W hg=>lh q QA cq a b A B ca cb W (by unfold maxLen;omega) (h.st.st.gr hg) (h.la.lv.gr hg) (h.lb.lv.gr hg)
 have c0:=h.c0
 have c1:=h.c1
 have c2:=h.c2
 clear h hq8
 go_enter Tryz.func101,Tryz.ntmps101
 go_wp2
 go_region_with (go_at_call 23;refine cM (hE0.out _ (gR w).drew) ?_;rintro e w1 ⟨L,C,k,rfl,h1,h2,h3,h4⟩)
 all_goals
  have hfin:Hid (L.map Itm.z=iI q (a.map Itm.z) (b.map Itm.z)∧Lv w1 C k L∧Below w.heap.size w w1∧NwT w1 k w.heap.size C L):=⟨h1,h2,(gR w).drew.below.trans h3,h4⟩
  clear h1 h2 h3 h4
  go_wp2
  go_ret
  exact ⟨L,C,k,rfl,hfin.out⟩

theorem Vo.tabs {w w':World} {V o:Nat} {P P':Nat→Prop} {q:List Stp} {QA:Option Addr} {cq:Nat} {a a':List Itm} {A A':Option Addr} {ca ca':Nat} {b b':List Itm} {B B':Option Addr} {cb cb':Nat} (h:Vo w V o P q QA cq a A ca b B cb) (ha:LvP P' w A' ca' a') (hb:LvP P' w B' cb' b') (hw:(w.setCell ⟨V,o+1,none⟩ (.slice A' a'.length ca')).setCell ⟨V,o+2,none⟩ (.slice B' b'.length cb')=w') (hPP:∀b,P b→P' b) (hV:¬P' V) :
  Vo w' V o P' q QA cq a' A' ca' b' B' cb'∧Wr V (o+1) (o+3) w w':=by
 subst hw
 have hW:Wr V (o+1) (o+3) w ((w.setCell ⟨V,o+1,none⟩ (.slice A' a'.length ca')).setCell ⟨V,o+2,none⟩ (.slice B' b'.length cb')):=(Wr.set w _ (by omega) (by omega)).trans (Wr.set _ _ (by omega) (by omega))
 have hA:=hW.agr hV
 refine ⟨⟨by simpa using h.lt,fun j=>by simpa using h.fz j,?_,?_,?_,(h.st.mono hPP).agr hA,h.len,ha.agr hA,hb.agr hA⟩,hW⟩
 ·rw[ct (by omega),ct (by omega)];exact h.c0
 ·rw[ct (by omega)];exact World.cell?_setCell_same _ _ _ h.c1
 ·exact World.cell?_setCell_same _ _ _ (u:= .slice B b.length cb) (by rw[ct (by omega)];exact h.c2)

theorem vx (w:World) (V o:Nat) (P:Nat→Prop) (q:List Stp) (QA:Option Addr) (cq:Nat) (a:List Itm) (A:Option Addr) (ca:Nat) (b:List Itm) (B:Option Addr) (cb:Nat) (h:Vo w V o P q QA cq a A ca b B cb) (x y:List Itm) (X Y:Option Addr) (cx cy:Nat) (hx:Lv w X cx x) (hy:Lv w Y cy y) (he:¬il q (a.map Itm.z) (b.map Itm.z) (x.map Itm.z) (y.map Itm.z)=0) :
  Calls Tryz.prog 113 #[.pointer (some ⟨V,o,none⟩),.slice X x.length cx,.slice Y y.length cy] w fun e w'=>∃E,e= .returned (.tuple #[.slice none 0 0,.int .i64 E])∧E=il q (a.map Itm.z) (b.map Itm.z) (x.map Itm.z) (y.map Itm.z)∧Below w.heap.size w w':=by
 obtain ⟨E1,hE1⟩:∃E,fW (x.map Itm.z) (y.map Itm.z)=E:=⟨_,rfl⟩
 have hC0:=iO x y X Y cx cy w hx hy
 rw[hE1] at hC0
 have hC:Hid _:=hC0
 have hH:Hid (Vo w V o P q QA cq a A ca b B cb∧Lv w X cx x∧Lv w Y cy y∧fW (x.map Itm.z) (y.map Itm.z)=E1∧¬il q (a.map Itm.z) (b.map Itm.z) (x.map Itm.z) (y.map Itm.z)=0):=⟨h,hx,hy,hE1,he⟩
 have hU:Hid (∀E,il q (a.map Itm.z) (b.map Itm.z) (x.map Itm.z) (y.map Itm.z)=E→True):=fun _ _=>trivial
 obtain ⟨F,hF⟩:∃F,il q (a.map Itm.z) (b.map Itm.z) (x.map Itm.z) (y.map Itm.z)=F:=⟨_,rfl⟩
 have hFH:Hid (il q (a.map Itm.z) (b.map Itm.z) (x.map Itm.z) (y.map Itm.z)=F):=hF
 rw[hF]
 clear hC0 h hx hy hE1 he hF hU
 go_enter Tryz.func113,Tryz.ntmps113
 go_wp2_with fail
 refine cM (show Calls _ _ _ _ _ from hC.out) ?_
 rintro e w1 ⟨rfl,hg1⟩
 have hW1:Hid (Vo w1 V o P q QA cq a A ca b B cb∧Lv w1 X cx x∧Lv w1 Y cy y∧Below w.heap.size w w1):=⟨hH.out.1.gr hg1,hH.out.2.1.gr hg1,hH.out.2.2.1.gr hg1,hg1.below⟩
 clear hC hg1
 cases h1:(E1 != 0)
 rotate_left
 focus
  have hfin:Hid (E1=F):=by
   have hn:¬fW (x.map Itm.z) (y.map Itm.z)=0:=by rw[hH.out.2.2.2.1];simpa using h1
   show _=_;rw[←hFH.out];unfold il;rw[if_neg hn];exact hH.out.2.2.2.1.symm
  go_wp2
  go_ret2
  exact ⟨E1,rfl,hfin.out,hW1.out.2.2.2⟩
 have hT0:Hid (fW (x.map Itm.z) (y.map Itm.z)=0):=by show _=_;rw[hH.out.2.2.2.1];simpa using h1
 have c1:=hW1.out.1.c1
 obtain ⟨E2,hE2⟩:∃E,aP (a.map Itm.z) (x.map Itm.z)=E:=⟨_,rfl⟩
 have hA0:=yN hW1.out.1.la.lv hW1.out.2.1 rfl rfl
 rw[hE2] at hA0
 have hA:Hid _:=hA0
 have hE2H:Hid (aP (a.map Itm.z) (x.map Itm.z)=E2):=hE2
 clear hA0 hE2
 go_wp2_with fail
 refine cM (show Calls _ _ _ _ _ from hA.out) ?_
 rintro e w2 ⟨K,PA,pc,rfl,p1,p2,p3⟩
 have hW2:Hid (Vo w2 V o P q QA cq a A ca b B cb∧Lv w2 Y cy y∧Below w.heap.size w w2∧Lv w2 PA pc K∧K.map Itm.z=aN (a.map Itm.z) (x.map Itm.z)):=⟨hW1.out.1.below p3,hW1.out.2.2.1.below p3,hW1.out.2.2.2.trans (p3.mono hW1.out.2.2.2.size),p2,p1⟩
 clear hA p1 p2 p3 c1 hW1
 cases h2:(E2 != 0)
 rotate_left
 focus
  have hfin:Hid (E2=F):=by
   have hn:¬aP (a.map Itm.z) (x.map Itm.z)=0:=by rw[hE2H.out];simpa using h2
   show _=_;rw[←hFH.out];unfold il;rw[if_pos hT0.out,if_neg hn];exact hE2H.out.symm
  go_wp2
  go_ret2
  exact ⟨E2,rfl,hfin.out,hW2.out.2.2.1⟩
 have hT2:Hid (aP (a.map Itm.z) (x.map Itm.z)=0):=by show _=_;rw[hE2H.out];simpa using h2
 have c2:=hW2.out.1.c2
 obtain ⟨E3,hE3⟩:∃E,aP (b.map Itm.z) (y.map Itm.z)=E:=⟨_,rfl⟩
 have hA0:=yN hW2.out.1.lb.lv hW2.out.2.1 rfl rfl
 rw[hE3] at hA0
 have hA:Hid _:=hA0
 have hE3H:Hid (aP (b.map Itm.z) (y.map Itm.z)=E3):=hE3
 clear hA0 hE3
 go_wp2_with fail
 refine cM (show Calls _ _ _ _ _ from hA.out) ?_
 rintro e w3 ⟨R,RA,rc,rfl,p1,p2,p3⟩
 have hW3:Hid (Vo w3 V o P q QA cq a A ca b B cb∧Below w.heap.size w w3∧Lv w3 PA pc K∧K.map Itm.z=aN (a.map Itm.z) (x.map Itm.z)∧Lv w3 RA rc R∧R.map Itm.z=aN (b.map Itm.z) (y.map Itm.z)):=⟨hW2.out.1.below p3,hW2.out.2.2.1.trans (p3.mono hW2.out.2.2.1.size),hW2.out.2.2.2.1.below p3,hW2.out.2.2.2.2,p2,p1⟩
 clear hA p1 p2 p3 c2 hW2
 cases h3:(E3 != 0)
 rotate_left
 focus
  have hfin:Hid (E3=F):=by
   have hn:¬aP (b.map Itm.z) (y.map Itm.z)=0:=by rw[hE3H.out];simpa using h3
   show _=_;rw[←hFH.out];unfold il;rw[if_pos hT0.out,if_pos hT2.out,if_neg hn];exact hE3H.out.symm
  go_wp2
  go_ret2
  exact ⟨E3,rfl,hfin.out,hW3.out.2.1⟩
 have hT3:Hid (aP (b.map Itm.z) (y.map Itm.z)=0):=by show _=_;rw[hE3H.out];simpa using h3
 have c0:=hW3.out.1.c0
 have hq8:=hW3.out.1.len
 have hV0:=ul q QA cq K R PA RA pc rc w3 (by unfold maxLen;omega) hW3.out.1.st.st hW3.out.2.2.1 hW3.out.2.2.2.2.1
 have hPF:Hid (cH q (K.map Itm.z) (R.map Itm.z)=F):=by
  show _=_
  rw[hW3.out.2.2.2.1,hW3.out.2.2.2.2.2,←hFH.out]
  unfold il
  rw[if_pos hT0.out,if_pos hT2.out,if_pos hT3.out]
 rw[hPF.out] at hV0
 have hV:Hid _:=hV0
 have hF0:(F != 0)=true:=by have:=hH.out.2.2.2.2;rw[hFH.out] at this;simpa using this
 clear hV0 hq8
 go_wp2_with fail
 refine cM (show Calls _ _ _ _ _ from hV.out) ?_
 rintro e w4 ⟨N,NA,nc,rfl,n1,n2,n3⟩
 have hfin:Hid (Below w.heap.size w w4):=hW3.out.2.1.trans (n3.mono hW3.out.2.1.size)
 clear hV n1 n2 n3 c0
 go_wp2
 go_ret2
 exact ⟨F,rfl,rfl,hfin.out⟩

theorem vS (w:World) (V o:Nat) (P:Nat→Prop) (q:List Stp) (QA:Option Addr) (cq:Nat) (a:List Itm) (A:Option Addr) (ca:Nat) (b:List Itm) (B:Option Addr) (cb:Nat) (h:Vo w V o P q QA cq a A ca b B cb) (hV:¬P V) (x y:List Itm) (X Y:Option Addr) (cx cy:Nat) (hx:Lv w X cx x) (hy:Lv w Y cy y) (he:il q (a.map Itm.z) (b.map Itm.z) (x.map Itm.z) (y.map Itm.z)=0) :
  Calls Tryz.prog 113 #[.pointer (some ⟨V,o,none⟩),.slice X x.length cx,.slice Y y.length cy] w fun e w'=>∃(n:Nat) (C:Option Addr) (k:Nat) (a':List Itm) (A':Option Addr) (ca':Nat) (b':List Itm) (B':Option Addr) (cb':Nat),e= .returned (.tuple #[.slice C n k,.int .i64 0])∧a'.map Itm.z=aN (a.map Itm.z) (x.map Itm.z)∧b'.map Itm.z=aN (b.map Itm.z) (y.map Itm.z)∧Vo w' V o (ae P w.heap.size w'.heap.size) q QA cq a' A' ca' b' B' cb'∧Wr V (o+1) (o+3) w w':=by
 obtain ⟨f1,f2,f3,f4⟩:=pW he
 have hC0:=iO x y X Y cx cy w hx hy
 rw[f1] at hC0
 have hC:Hid _:=hC0
 have hH:Hid (Vo w V o P q QA cq a A ca b B cb∧Lv w X cx x∧Lv w Y cy y):=⟨h,hx,hy⟩
 have hF:Hid (aP (a.map Itm.z) (x.map Itm.z)=0∧aP (b.map Itm.z) (y.map Itm.z)=0∧cH q (aN (a.map Itm.z) (x.map Itm.z)) (aN (b.map Itm.z) (y.map Itm.z))=0):=⟨f2,f3,f4⟩
 have hVH:Hid (¬P V):=hV
 clear hC0 h hx hy he f1 f2 f3 f4 hV
 go_enter Tryz.func113,Tryz.ntmps113
 go_wp2_with fail
 refine cM (show Calls _ _ _ _ _ from hC.out) ?_
 rintro e w1 ⟨rfl,hg1⟩
 have hW1:Hid (Vo w1 V o P q QA cq a A ca b B cb∧Lv w1 X cx x∧Lv w1 Y cy y∧Below w.heap.size w w1):=⟨hH.out.1.gr hg1,hH.out.2.1.gr hg1,hH.out.2.2.gr hg1,hg1.below⟩
 clear hC hg1
 have c1:=hW1.out.1.c1
 have hA0:=pj hW1.out.1.la.lv hW1.out.2.1 rfl rfl
 rw[hF.out.1] at hA0
 have hA:Hid _:=hA0
 clear hA0
 go_wp2_with fail
 refine cM (show Calls _ _ _ _ _ from hA.out) ?_
 rintro e w2 ⟨K,PA,pc,rfl,p1,p2,p3,p4⟩
 have hW2:Hid (Vo w2 V o P q QA cq a A ca b B cb∧Lv w2 Y cy y∧Below w.heap.size w w2∧LvP (fun b=>w.heap.size≤b∧b<w2.heap.size) w2 PA pc K∧K.map Itm.z=aN (a.map Itm.z) (x.map Itm.z)):=⟨hW1.out.1.below p3,hW1.out.2.2.1.below p3,hW1.out.2.2.2.trans (p3.mono hW1.out.2.2.2.size),(LvP.new p2 (p4.new.mono hW1.out.2.2.2.size)),p1⟩
 clear hA p1 p2 p3 p4 c1 hW1
 have c2:=hW2.out.1.c2
 have hA0:=pj hW2.out.1.lb.lv hW2.out.2.1 rfl rfl
 rw[hF.out.2.1] at hA0
 have hA:Hid _:=hA0
 clear hA0
 go_wp2_with fail
 refine cM (show Calls _ _ _ _ _ from hA.out) ?_
 rintro e w3 ⟨R,RA,rc,rfl,p1,p2,p3,p4⟩
 have hW3:Hid (Vo w3 V o P q QA cq a A ca b B cb∧Below w.heap.size w w3∧LvP (fun b=>w.heap.size≤b∧b<w3.heap.size) w3 PA pc K∧K.map Itm.z=aN (a.map Itm.z) (x.map Itm.z)∧LvP (fun b=>w.heap.size≤b∧b<w3.heap.size) w3 RA rc R∧R.map Itm.z=aN (b.map Itm.z) (y.map Itm.z)):=⟨hW2.out.1.below p3,hW2.out.2.2.1.trans (p3.mono hW2.out.2.2.1.size),(hW2.out.2.2.2.1.below p3).mono fun b hb=>⟨hb.1,nL hb.2 p3.size⟩,hW2.out.2.2.2.2,LvP.new p2 (p4.new.mono hW2.out.2.2.1.size),p1⟩
 clear hA p1 p2 p3 p4 c2 hW2
 have c0:=hW3.out.1.c0
 have hq8:=hW3.out.1.len
 have hV0:=lh q QA cq K R PA RA pc rc w3 (by unfold maxLen;omega) hW3.out.1.st.st hW3.out.2.2.1.lv hW3.out.2.2.2.2.1.lv
 have hP0:cH q (K.map Itm.z) (R.map Itm.z)=0:=by rw[hW3.out.2.2.2.1,hW3.out.2.2.2.2.2];exact hF.out.2.2
 rw[hP0] at hV0
 have hV:Hid _:=hV0
 clear hV0 hq8 hP0
 go_wp2_with fail
 refine cM (show Calls _ _ _ _ _ from hV.out) ?_
 rintro e w4 ⟨N,NA,nc,rfl,n1,n2,n3,n4⟩
 have hW4:Hid (Vo w4 V o P q QA cq a A ca b B cb∧Below w.heap.size w w4∧LvP (fun b=>w.heap.size≤b∧b<w4.heap.size) w4 PA pc K∧K.map Itm.z=aN (a.map Itm.z) (x.map Itm.z)∧LvP (fun b=>w.heap.size≤b∧b<w4.heap.size) w4 RA rc R∧R.map Itm.z=aN (b.map Itm.z) (y.map Itm.z)∧LvP (fun b=>w.heap.size≤b∧b<w4.heap.size) w4 NA nc N∧N.map Itm.z=iI q (K.map Itm.z) (R.map Itm.z)):=⟨hW3.out.1.below n3,hW3.out.2.1.trans (n3.mono hW3.out.2.1.size),(hW3.out.2.2.1.below n3).mono fun b hb=>⟨hb.1,nL hb.2 n3.size⟩,hW3.out.2.2.2.1,(hW3.out.2.2.2.2.1.below n3).mono fun b hb=>⟨hb.1,nL hb.2 n3.size⟩,hW3.out.2.2.2.2.2,LvP.new n2 (n4.new.mono hW3.out.2.1.size),n1⟩
 clear hV n1 n2 n3 n4 c0 hW3
 have hO0:=vu w4 V o P q QA cq a A ca b B cb hW4.out.1
 have hO:Hid _:=hO0
 clear hO0
 go_wp2_with fail
 refine cM (show Calls _ _ _ _ _ from hO.out) ?_
 rintro e w5 ⟨M,MA,mc,rfl,m1,m2,m3,m4⟩
 have hW5:Hid (Vo w5 V o P q QA cq a A ca b B cb∧Below w.heap.size w w5∧LvP (ae P w.heap.size w5.heap.size) w5 PA pc K∧K.map Itm.z=aN (a.map Itm.z) (x.map Itm.z)∧LvP (ae P w.heap.size w5.heap.size) w5 RA rc R∧R.map Itm.z=aN (b.map Itm.z) (y.map Itm.z)∧LvP (fun b=>w.heap.size≤b∧b<w5.heap.size) w5 NA nc N∧N.map Itm.z=iI q (K.map Itm.z) (R.map Itm.z)∧LvP (fun b=>w.heap.size≤b∧b<w5.heap.size) w5 MA mc M∧M.map Itm.z=iI q (a.map Itm.z) (b.map Itm.z)):=⟨hW4.out.1.below m3,hW4.out.2.1.trans (m3.mono hW4.out.2.1.size),(hW4.out.2.2.1.below m3).mono fun b hb=>ae.new (nR _) m3.size b hb,hW4.out.2.2.2.1,(hW4.out.2.2.2.2.1.below m3).mono fun b hb=>ae.new (nR _) m3.size b hb,hW4.out.2.2.2.2.2.1,(hW4.out.2.2.2.2.2.2.1.below m3).mono fun b hb=>⟨hb.1,nL hb.2 m3.size⟩,hW4.out.2.2.2.2.2.2.2,LvP.new m2 (m4.new.mono hW4.out.2.1.size),m1⟩
 clear hO m1 m2 m3 m4 hW4
 have c1:=hW5.out.1.c1
 have c2:=hW5.out.1.c2
 have z1:=hW5.out.1.fz (o+1)
 have z2:=hW5.out.1.fz (o+2)
 obtain ⟨w6,hw6⟩:∃W,(w5.setCell ⟨V,o+1,none⟩ (.slice PA K.length pc)).setCell ⟨V,o+2,none⟩ (.slice RA R.length rc)=W:=⟨_,rfl⟩
 have hVlt:V<w.heap.size:=hH.out.1.lt
 have hVP:¬ae P w.heap.size w5.heap.size V:=fun k=>k.elim hVH.out fun k=>by omega
 have hS:=Vo.tabs hW5.out.1 hW5.out.2.2.1 hW5.out.2.2.2.2.1 hw6 (fun b hb=>ae.old b hb) hVP
 have hs65:w6.heap.size=w5.heap.size:=by rw[←hw6];simp
 have hW6:Hid (Vo w6 V o (ae P w.heap.size w5.heap.size) q QA cq K PA pc R RA rc∧Wr V (o+1) (o+3) w w6∧Lv w6 NA nc N∧Lv w6 MA mc M∧w6.heap.size=w5.heap.size):=by
  have hb:=hW5.out.2.1
  have hag:Agr (fun b=>w.heap.size≤b∧b<w5.heap.size) w5 w6:=hS.2.agr fun k=>by omega
  exact ⟨hS.1,(Wr.of hb hVlt).trans hS.2,(hW5.out.2.2.2.2.2.2.1.agr hag).lv,(hW5.out.2.2.2.2.2.2.2.2.1.agr hag).lv,hs65⟩
 have hD0:=tE N M NA MA nc mc w6 hW6.out.2.2.1.items hW6.out.2.2.2.1.items hW6.out.2.2.1.nilc.cap hW6.out.2.2.2.1.nilc.cap (by rw[hW5.out.2.2.2.2.2.2.2.1];exact oe _ _ _) (by rw[hW5.out.2.2.2.2.2.2.2.2.2];exact oe _ _ _)
 have hD:Hid _:=hD0
 have hVl:Hid (V<w.heap.size):=hVlt
 clear hS hD0 hVP hs65 hVlt
 go_wp2_with fail
 clear hw6 c1 c2 z1 z2
 refine cM (show Calls _ _ _ _ _ from hD.out) ?_
 rintro e w7 ⟨L,C,k,rfl,d1,d2,d3,d4,d5⟩
 have hfin:Hid (K.map Itm.z=aN (a.map Itm.z) (x.map Itm.z)∧R.map Itm.z=aN (b.map Itm.z) (y.map Itm.z)∧Vo w7 V o (ae P w.heap.size w7.heap.size) q QA cq K PA pc R RA rc∧Wr V (o+1) (o+3) w w7):=by
  have hg:=hW6.out.2.1
  have h7:=hW6.out.1.below d5
  have hm:∀b,ae P w.heap.size w5.heap.size b→ae P w.heap.size w7.heap.size b:=ae.more (nR _) (by rw[←hW6.out.2.2.2.2];exact d5.size)
  exact ⟨hW5.out.2.2.2.1,hW5.out.2.2.2.2.2.1,⟨h7.lt,h7.fz,h7.c0,h7.c1,h7.c2,h7.st.mono hm,h7.len,h7.la.mono hm,h7.lb.mono hm⟩,hg.trans (Wr.of d5 (nL hVl.out hg.size))⟩
 clear d1 d2 d3 d4 d5 hD
 go_wp2
 go_ret2
 exact ⟨_,C,k,K,PA,pc,R,RA,rc,rfl,hfin.out⟩
end Go.Proofs.YtckeonpnfankhaaGreatDoor

namespace Go.Proofs.YtckeonpnfankhaaGreatDoor
open Go.RowKit Go.Sort

def Cls (w:World) (B:Nat) (l:List Value):Prop:=∃T,w.heap[B]? = some (.cells l.toArray T (0,0))
theorem Cls.new (w:World) (C:Array Value) (T:TypeId):Cls (w.alloc (.cells C T)) w.heap.size C.toList:=by
 refine ⟨T,?_⟩
 show (w.heap.push _)[w.heap.size]? = _
 rw[Array.getElem?_push_size,Array.toArray_toList]
theorem Cls.lt {w:World} {B:Nat} {l:List Value} (h:Cls w B l):B<w.heap.size:=by
 obtain ⟨T,h⟩:=h
 exact (Array.getElem?_eq_some_iff.1 h).1
theorem Cls.cell {w:World} {B:Nat} {l:List Value} (h:Cls w B l) {j:Nat} {v:Value} (hv:l[j]? = some v):w.cell? ⟨B,j,none⟩=some v:=by
 obtain ⟨T,h⟩:=h
 simp[World.cell?,h,hv]
theorem Cls.fz {w:World} {B:Nat} {l:List Value} (h:Cls w B l) (j:Nat):w.frozen? ⟨B,j,none⟩=false:=by
 obtain ⟨T,h⟩:=h
 simp[World.frozen?,h]
theorem Cls.keep {w w':World} {B:Nat} {l:List Value} (h:Cls w B l) (k:w'.heap[B]? = w.heap[B]?):Cls w' B l:=by
 obtain ⟨T,h⟩:=h
 exact ⟨T,k.trans h⟩
theorem Cls.below {w w':World} {B:Nat} {l:List Value} (h:Cls w B l) (k:Below w.heap.size w w'):Cls w' B l:=h.keep (k.block B h.lt)
theorem Cls.gr {w w':World} {B:Nat} {l:List Value} (h:Cls w B l) (k:Gr w w'):Cls w' B l:=h.below k.below
theorem Cls.oth {w:World} {B B' j:Nat} {l:List Value} (h:Cls w B l) (hB:B≠B') (v:Value):Cls (w.setCell ⟨B',j,none⟩ v) B l:=h.keep (Below.heap_setCell _ _ _ _ hB)
theorem Cls.put {w:World} {B:Nat} {l:List Value} (h:Cls w B l) (j:Nat) (v:Value):Cls (w.setCell ⟨B,j,none⟩ v) B (l.set j v):=by
 obtain ⟨T,h⟩:=h
 refine ⟨T,?_⟩
 show (w.heap.modify B _)[B]? = _
 rw[Array.getElem?_modify,if_pos rfl,h]
 simp
theorem tP {w:World} {B:Nat} {x0 x1 x2 x3 x4:Value} {l:List Value} (h:Cls w B (x0::x1::x2::x3::x4::l)):w.cell? ⟨B,0,none⟩=some x0∧w.cell? ⟨B,1,none⟩=some x1∧w.cell? ⟨B,2,none⟩=some x2∧w.cell? ⟨B,3,none⟩=some x3∧w.cell? ⟨B,4,none⟩=some x4:=⟨h.cell rfl,h.cell rfl,h.cell rfl,h.cell rfl,h.cell rfl⟩
theorem ii {w:World} {B:Nat} {x0 x1 x2 x3 x4 x5:Value} {l:List Value} (h:Cls w B (x0::x1::x2::x3::x4::x5::l)):w.cell? ⟨B,0,none⟩=some x0∧w.cell? ⟨B,1,none⟩=some x1∧w.cell? ⟨B,2,none⟩=some x2∧w.cell? ⟨B,3,none⟩=some x3∧w.cell? ⟨B,4,none⟩=some x4∧w.cell? ⟨B,5,none⟩=some x5:=⟨h.cell rfl,h.cell rfl,h.cell rfl,h.cell rfl,h.cell rfl,h.cell rfl⟩
theorem kd {w:World} {B:Nat} {x0 x1 x2 x3 x4 x5 x6 x7 x8 x9:Value} {l:List Value} (h:Cls w B (x0::x1::x2::x3::x4::x5::x6::x7::x8::x9::l)):w.cell? ⟨B,0,none⟩=some x0∧w.cell? ⟨B,1,none⟩=some x1∧w.cell? ⟨B,2,none⟩=some x2∧w.cell? ⟨B,3,none⟩=some x3∧w.cell? ⟨B,4,none⟩=some x4∧w.cell? ⟨B,5,none⟩=some x5∧w.cell? ⟨B,6,none⟩=some x6∧w.cell? ⟨B,7,none⟩=some x7∧w.cell? ⟨B,8,none⟩=some x8∧w.cell? ⟨B,9,none⟩=some x9:=⟨h.cell rfl,h.cell rfl,h.cell rfl,h.cell rfl,h.cell rfl,h.cell rfl,h.cell rfl,h.cell rfl,h.cell rfl,h.cell rfl⟩
theorem eS {w:World} {B:Nat} {x0 x1 x2 x3 x4 x5 x6 x7 x8 x9 x10 x11:Value} {l:List Value} (h:Cls w B (x0::x1::x2::x3::x4::x5::x6::x7::x8::x9::x10::x11::l)):w.cell? ⟨B,0,none⟩=some x0∧w.cell? ⟨B,1,none⟩=some x1∧w.cell? ⟨B,2,none⟩=some x2∧w.cell? ⟨B,3,none⟩=some x3∧w.cell? ⟨B,4,none⟩=some x4∧w.cell? ⟨B,5,none⟩=some x5∧w.cell? ⟨B,6,none⟩=some x6∧w.cell? ⟨B,7,none⟩=some x7∧w.cell? ⟨B,8,none⟩=some x8∧w.cell? ⟨B,9,none⟩=some x9∧w.cell? ⟨B,10,none⟩=some x10∧w.cell? ⟨B,11,none⟩=some x11:=⟨h.cell rfl,h.cell rfl,h.cell rfl,h.cell rfl,h.cell rfl,h.cell rfl,h.cell rfl,h.cell rfl,h.cell rfl,h.cell rfl,h.cell rfl,h.cell rfl⟩
theorem yX {w:World} {B:Nat} {x0 x1 x2 x3 x4 x5 x6 x7 x8 x9 x10 x11 x12:Value} {l:List Value} (h:Cls w B (x0::x1::x2::x3::x4::x5::x6::x7::x8::x9::x10::x11::x12::l)):w.cell? ⟨B,0,none⟩=some x0∧w.cell? ⟨B,1,none⟩=some x1∧w.cell? ⟨B,2,none⟩=some x2∧w.cell? ⟨B,3,none⟩=some x3∧w.cell? ⟨B,4,none⟩=some x4∧w.cell? ⟨B,5,none⟩=some x5∧w.cell? ⟨B,6,none⟩=some x6∧w.cell? ⟨B,7,none⟩=some x7∧w.cell? ⟨B,8,none⟩=some x8∧w.cell? ⟨B,9,none⟩=some x9∧w.cell? ⟨B,10,none⟩=some x10∧w.cell? ⟨B,11,none⟩=some x11∧w.cell? ⟨B,12,none⟩=some x12:=⟨h.cell rfl,h.cell rfl,h.cell rfl,h.cell rfl,h.cell rfl,h.cell rfl,h.cell rfl,h.cell rfl,h.cell rfl,h.cell rfl,h.cell rfl,h.cell rfl,h.cell rfl⟩
theorem zK {w:World} {B:Nat} {x0 x1 x2 x3 x4 x5 x6 x7 x8 x9:Value} {l:List Value} (h:Cls w B (x0::x1::x2::x3::x4::x5::x6::x7::x8::x9::l)):w.cell? ⟨B,5,none⟩=some x5∧w.cell? ⟨B,6,none⟩=some x6∧w.cell? ⟨B,7,none⟩=some x7∧w.cell? ⟨B,8,none⟩=some x8∧w.cell? ⟨B,9,none⟩=some x9:=⟨h.cell rfl,h.cell rfl,h.cell rfl,h.cell rfl,h.cell rfl⟩
theorem yk {w:World} {B:Nat} {x0 x1 x2 x3 x4 x5 x6 x7 x8 x9 x10 x11:Value} {l:List Value} (h:Cls w B (x0::x1::x2::x3::x4::x5::x6::x7::x8::x9::x10::x11::l)):w.cell? ⟨B,6,none⟩=some x6∧w.cell? ⟨B,7,none⟩=some x7∧w.cell? ⟨B,8,none⟩=some x8∧w.cell? ⟨B,9,none⟩=some x9∧w.cell? ⟨B,10,none⟩=some x10∧w.cell? ⟨B,11,none⟩=some x11:=⟨h.cell rfl,h.cell rfl,h.cell rfl,h.cell rfl,h.cell rfl,h.cell rfl⟩
theorem xJ {w:World} {B:Nat} {x0 x1 x2 x3 x4 x5 x6 x7 x8 x9 x10 x11 x12 x13 x14 x15 x16 x17 x18 x19:Value} {l:List Value} (h:Cls w B (x0::x1::x2::x3::x4::x5::x6::x7::x8::x9::x10::x11::x12::x13::x14::x15::x16::x17::x18::x19::l)):w.cell? ⟨B,10,none⟩=some x10∧w.cell? ⟨B,11,none⟩=some x11∧w.cell? ⟨B,12,none⟩=some x12∧w.cell? ⟨B,13,none⟩=some x13∧w.cell? ⟨B,14,none⟩=some x14∧w.cell? ⟨B,15,none⟩=some x15∧w.cell? ⟨B,16,none⟩=some x16∧w.cell? ⟨B,17,none⟩=some x17∧w.cell? ⟨B,18,none⟩=some x18∧w.cell? ⟨B,19,none⟩=some x19:=⟨h.cell rfl,h.cell rfl,h.cell rfl,h.cell rfl,h.cell rfl,h.cell rfl,h.cell rfl,h.cell rfl,h.cell rfl,h.cell rfl⟩
theorem xR {w:World} {B:Nat} {x0 x1 x2 x3 x4 x5 x6 x7 x8 x9 x10 x11 x12 x13 x14 x15 x16 x17 x18 x19 x20 x21 x22 x23 x24 x25 x26 x27 x28 x29:Value} {l:List Value} (h:Cls w B (x0::x1::x2::x3::x4::x5::x6::x7::x8::x9::x10::x11::x12::x13::x14::x15::x16::x17::x18::x19::x20::x21::x22::x23::x24::x25::x26::x27::x28::x29::l)):w.cell? ⟨B,20,none⟩=some x20∧w.cell? ⟨B,21,none⟩=some x21∧w.cell? ⟨B,22,none⟩=some x22∧w.cell? ⟨B,23,none⟩=some x23∧w.cell? ⟨B,24,none⟩=some x24∧w.cell? ⟨B,25,none⟩=some x25∧w.cell? ⟨B,26,none⟩=some x26∧w.cell? ⟨B,27,none⟩=some x27∧w.cell? ⟨B,28,none⟩=some x28∧w.cell? ⟨B,29,none⟩=some x29:=⟨h.cell rfl,h.cell rfl,h.cell rfl,h.cell rfl,h.cell rfl,h.cell rfl,h.cell rfl,h.cell rfl,h.cell rfl,h.cell rfl⟩
theorem zO {w:World} {B:Nat} {l:List Value} (h:Cls w B l):w.frozen? ⟨B,0,none⟩=false∧w.frozen? ⟨B,1,none⟩=false∧w.frozen? ⟨B,2,none⟩=false∧w.frozen? ⟨B,3,none⟩=false∧w.frozen? ⟨B,4,none⟩=false:=⟨h.fz _,h.fz _,h.fz _,h.fz _,h.fz _⟩
theorem qq {w:World} {B:Nat} {l:List Value} (h:Cls w B l):w.frozen? ⟨B,0,none⟩=false∧w.frozen? ⟨B,1,none⟩=false∧w.frozen? ⟨B,2,none⟩=false∧w.frozen? ⟨B,3,none⟩=false∧w.frozen? ⟨B,4,none⟩=false∧w.frozen? ⟨B,5,none⟩=false:=⟨h.fz _,h.fz _,h.fz _,h.fz _,h.fz _,h.fz _⟩
theorem yD {w:World} {B:Nat} {l:List Value} (h:Cls w B l):w.frozen? ⟨B,0,none⟩=false∧w.frozen? ⟨B,1,none⟩=false∧w.frozen? ⟨B,2,none⟩=false∧w.frozen? ⟨B,3,none⟩=false∧w.frozen? ⟨B,4,none⟩=false∧w.frozen? ⟨B,5,none⟩=false∧w.frozen? ⟨B,6,none⟩=false∧w.frozen? ⟨B,7,none⟩=false∧w.frozen? ⟨B,8,none⟩=false∧w.frozen? ⟨B,9,none⟩=false:=⟨h.fz _,h.fz _,h.fz _,h.fz _,h.fz _,h.fz _,h.fz _,h.fz _,h.fz _,h.fz _⟩
theorem mA {w:World} {B:Nat} {l:List Value} (h:Cls w B l):w.frozen? ⟨B,0,none⟩=false∧w.frozen? ⟨B,1,none⟩=false∧w.frozen? ⟨B,2,none⟩=false∧w.frozen? ⟨B,3,none⟩=false∧w.frozen? ⟨B,4,none⟩=false∧w.frozen? ⟨B,5,none⟩=false∧w.frozen? ⟨B,6,none⟩=false∧w.frozen? ⟨B,7,none⟩=false∧w.frozen? ⟨B,8,none⟩=false∧w.frozen? ⟨B,9,none⟩=false∧w.frozen? ⟨B,10,none⟩=false∧w.frozen? ⟨B,11,none⟩=false:=⟨h.fz _,h.fz _,h.fz _,h.fz _,h.fz _,h.fz _,h.fz _,h.fz _,h.fz _,h.fz _,h.fz _,h.fz _⟩
theorem zI {w:World} {B:Nat} {l:List Value} (h:Cls w B l):w.frozen? ⟨B,5,none⟩=false∧w.frozen? ⟨B,6,none⟩=false∧w.frozen? ⟨B,7,none⟩=false∧w.frozen? ⟨B,8,none⟩=false∧w.frozen? ⟨B,9,none⟩=false:=⟨h.fz _,h.fz _,h.fz _,h.fz _,h.fz _⟩
theorem zr {w:World} {B:Nat} {l:List Value} (h:Cls w B l):w.frozen? ⟨B,6,none⟩=false∧w.frozen? ⟨B,7,none⟩=false∧w.frozen? ⟨B,8,none⟩=false∧w.frozen? ⟨B,9,none⟩=false∧w.frozen? ⟨B,10,none⟩=false∧w.frozen? ⟨B,11,none⟩=false:=⟨h.fz _,h.fz _,h.fz _,h.fz _,h.fz _,h.fz _⟩

def leD (x y:Int×Int):Prop:=bq y x=false
theorem fO (x y:Int×Int):leD x y↔x.1<y.1∨(x.1=y.1∧x.2≤y.2):=by
 unfold leD
 rw[lM]
 omega
theorem uD (x:Int×Int):leD x x:=by rw[fO];omega
theorem i7 {x y z:Int×Int} (h:leD x y) (k:leD y z):leD x z:=by rw[fO] at *;omega
theorem vC {x y:Int×Int} (h:leD x y) (k:leD y x):x=y:=by rw[fO] at *;exact Prod.ext (by omega) (by omega)
theorem mO (x y:Int×Int):leD x y∨leD y x:=by rw[fO,fO];omega

theorem l7 (l:List (Int×Int)):(srt l).Pairwise leD:=by
 unfold srt
 have h:=List.pairwise_mergeSort (le:=fun x y:Int×Int=> !ltOf dO y x) (by
  intro a b c h1 h2
  simp only[ltD,Bool.not_eq_true'] at *
  exact i7 (x:=a) (y:=b) (z:=c) h1 h2) (by
  intro a b
  simp only[ltD,Bool.or_eq_true,Bool.not_eq_true']
  exact mO a b) l
 refine h.imp ?_
 intro a b hab
 simp only[ltD,Bool.not_eq_true'] at hab
 exact hab
theorem uY (l:List (Int×Int)):(srt l).Perm l:=List.mergeSort_perm l _
def j6 (c:Ctx) (p:Option (Int×Int)):List (Int×Int)→Ctx
 | []=>c
 | x::r=>j6 (step c p x) (some x) r

theorem pU (l:List (Int×Int)):∀(c:Ctx) (p:Option (Int×Int)) (x:Int×Int),j6 c p (l++[x])=step (j6 c p l) (l.getLast?.or p) x:=by
 induction l with
 | nil=>intro c p x;rfl
 | cons y l ih =>
  intro c p x
  show j6 (step c p y) (some y) (l++[x])=_
  rw[ih]
  show _=step (j6 (step c p y) (some y) l) ((y::l).getLast?.or p) x
  congr 1
  cases h:l.getLast? with
  | none =>
   obtain rfl:l=[]:=by simpa using h
   rfl
  | some z=>simp[List.getLast?_cons,h]

theorem oC (c:Ctx) (l:List (Int×Int)):∀k,k≤l.length→au c l k=j6 c none (l.take k):=by
 intro k
 induction k with
 | zero=>intro _;rfl
 | succ k ih =>
  intro hk
  have hk':k<l.length:=by omega
  rw[List.take_succ_eq_append_getElem hk',pU,←ih (by omega)]
  show step (au c l k) _ _=_
  have e1:l.getD k (0,0)=l[k]:=by simp[hk']
  have e2:(if k=0 then none else some (l.getD (k-1) (0,0)))=(l.take k).getLast?.or none:=by
   cases k with
   | zero=>rfl
   | succ m =>
    have hm:m<l.length:=by omega
    have e3:(l.take (m+1)).getLast? = some l[m]:=by rw[List.take_succ_eq_append_getElem hm];exact List.getLast?_concat
    rw[e3]
    simp[hm]
  rw[e1,e2]
theorem qv (c:Ctx) (l:List (Int×Int)):au c l l.length=j6 c none l:=by
 rw[oC c l l.length (Nat.le_refl _),List.take_length]

def cR (c:Ctx) (x:Int×Int):Ctx:=if af c x=true then c else if x.2=clk c x.1+1 then setClk c x.1 x.2 else { c with l:=c.l++[x] }

structure Mid (c:Ctx) (p:Option (Int×Int)) (r:List (Int×Int)):Prop where
 above:∀y∈c.l,clk c y.1+1<y.2
 node:∀y∈c.l,0≤y.1∧y.1<4
 last:∀y∈c.l,∃q,p=some q∧leD y q
 has:∀q,p=some q→af c q=true
 rest:∀q,p=some q→∀x∈r,leD q x

theorem aF (c:Ctx) (x:Int×Int):af c x=true↔x∈c.l∨(0≤x.1∧x.1≤3∧1≤x.2∧x.2≤clk c x.1):=by
 simp[af,inB,and_assoc]

theorem lA {c:Ctx} {p:Option (Int×Int)} {x:Int×Int} {r:List (Int×Int)} (h:Mid c p (x::r)) (hx:al x=true) (hs:∀y∈r,leD x y):cR c x=step c p x∧Mid (step c p x) (some x) r:=by
 have hn:=dL hx
 have hle:∀y∈c.l,leD y x:=fun y hy=>by
  obtain ⟨q,hq,hyq⟩:=h.last y hy
  exact i7 hyq (h.rest q hq x (mS ..))
 by_cases h1:x.2≤clk c x.1
 ·have hh:af c x=true:=(aF c x).2 (oR ⟨hn.1,by omega,hn.2.2.1,h1⟩)
  have e1:cR c x=c:=by simp[cR,hh]
  have e2:step c p x=c:=by simp[step,h1]
  rw[e1,e2]
  exact ⟨rfl,h.above,h.node,fun y hy=>⟨x,rfl,hle y hy⟩,fun q hq=>by cases hq;exact hh,fun q hq y hy=>by cases hq;exact hs y hy⟩
 ·by_cases h2:x.2=clk c x.1+1
  ·have hmem:x ∉ c.l:=fun hm=>by have:=h.above x hm;omega
   have hh:¬af c x=true:=by
    rw[aF]
    rintro (hm|hm)
    ·exact hmem hm
    ·omega
   have e1:cR c x=setClk c x.1 x.2:=by unfold cR;rw[if_neg hh,if_pos h2]
   have e2:step c p x=setClk c x.1 x.2:=by unfold step;rw[if_neg h1,if_pos h2]
   rw[e1,e2]
   refine ⟨rfl,?_,?_,?_,?_,fun q hq y hy=>by cases hq;exact hs y hy⟩
   ·intro y hy
    rw[dR] at hy
    have hyn:=h.node y hy
    rw[dE c x.1 x.2 y.1 hn.1 hn.2.1 hyn.1 hyn.2]
    have hya:=h.above y hy
    split
    ·rename_i hyx
     have hl:=(fO y x).1 (hle y hy)
     rw[hyx] at hya
     omega
    ·exact hya
   ·intro y hy;rw[dR] at hy;exact h.node y hy
   ·intro y hy;rw[dR] at hy;exact ⟨x,rfl,hle y hy⟩
   ·intro q hq
    cases hq
    refine (aF _ _).2 (oR ⟨hn.1,by omega,hn.2.2.1,?_⟩)
    rw[dE c x.1 x.2 x.1 hn.1 hn.2.1 hn.1 hn.2.1,if_pos rfl]
    exact Int.le_refl _
  ·by_cases h3:p=some x
   ·have hh:af c x=true:=h.has x h3
    have e1:cR c x=c:=by simp[cR,hh]
    have e2:step c p x=c:=by unfold step;rw[if_neg h1,if_neg h2,if_pos h3]
    rw[e1,e2]
    exact ⟨rfl,h.above,h.node,fun y hy=>⟨x,rfl,hle y hy⟩,fun q hq=>by cases hq;exact hh,fun q hq y hy=>by cases hq;exact hs y hy⟩
   ·have hmem:x ∉ c.l:=fun hm=>by
     obtain ⟨q,hq,hxq⟩:=h.last x hm
     have:=vC hxq (h.rest q hq x (mS ..))
     exact h3 (by rw[hq,this])
    have hh:¬af c x=true:=by
     rw[aF]
     rintro (hm|hm)
     ·exact hmem hm
     ·omega
    have e1:cR c x={ c with l:=c.l++[x] }:=by unfold cR;rw[if_neg hh,if_neg h2]
    have e2:step c p x={ c with l:=c.l++[x] }:=by unfold step;rw[if_neg h1,if_neg h2,if_neg h3]
    rw[e1,e2]
    have hclk:∀a,clk { c with l:=c.l++[x] } a=clk c a:=fun _=>rfl
    refine ⟨rfl,?_,?_,?_,?_,fun q hq y hy=>by cases hq;exact hs y hy⟩
    ·intro y hy
     rw[hclk]
     rcases List.mem_append.1 hy with hy|hy
     ·exact h.above y hy
     ·obtain rfl:y=x:=by simpa using hy
      omega
    ·intro y hy
     rcases List.mem_append.1 hy with hy|hy
     ·exact h.node y hy
     ·obtain rfl:y=x:=by simpa using hy
      exact ⟨hn.1,hn.2.1⟩
    ·intro y hy
     rcases List.mem_append.1 hy with hy|hy
     ·exact ⟨x,rfl,hle y hy⟩
     ·obtain rfl:y=x:=by simpa using hy
      exact ⟨y,rfl,uD y⟩
    ·intro q hq
     cases hq
     exact (aF _ _).2 (oL (List.mem_append.2 (oR (by simp))))

theorem pz (l:List (Int×Int)):∀(c:Ctx) (p:Option (Int×Int)),Mid c p l→l.Pairwise leD→(∀x∈l,al x=true)→l.foldl cR c=j6 c p l:=by
 induction l with
 | nil=>intro c p _ _ _;rfl
 | cons x l ih =>
  intro c p h hs hr
  have hp:=List.pairwise_cons.1 hs
  have hm:=lA h (hr x (mS ..)) hp.1
  show l.foldl cR (cR c x)=j6 (step c p x) (some x) l
  rw[hm.1]
  exact ih _ _ hm.2 hp.2 (fun y hy=>hr y (mC _ hy))

theorem mP {c:Ctx} (hc:c.l=[]) (l:List (Int×Int)):Mid c none l where
 above y hy:=by rw[hc] at hy;cases hy
 node y hy:=by rw[hc] at hy;cases hy
 last y hy:=by rw[hc] at hy;cases hy
 has q hq:=by cases hq
 rest q hq:=by cases hq

theorem jU {c:Ctx} (hc:c.l=[]) {l:List (Int×Int)} (hr:∀x∈l,al x=true):dS c l=(srt l).foldl cR c:=by
 unfold dS
 rw[qv]
 exact (pz (srt l) c none (mP hc _) (l7 l) (fun x hx=>hr x (iZ hx))).symm


theorem lf {c:Ctx} (h:aJ c=0):bu c=true:=by
 unfold aJ at h
 cases hk:bu c
 ·simp[hk] at h
 ·rfl

def bv (c:Ctx) (n:Int):(Int×Int)×Int:=if aJ c=0 then (if inB n 0 3=true then (jn c n,kg c n) else ((0,0),1)) else ((0,0),aJ c)

theorem vJ (c:Ctx) (A:Option Addr) (cap:Nat) (n:Int) (w:World) (hl:c.l.length≤maxLen) (hr:Row w A c.l) :
  Calls Tryz.prog 154 #[.agg #[.int .i64 c.c0,.int .i64 c.c1,.int .i64 c.c2,.int .i64 c.c3,.slice A c.l.length cap],.int .i64 n] w fun e w'=>e= .returned (.tuple #[.agg #[.int .i64 (bv c n).1.1,.int .i64 (bv c n).1.2],.int .i64 (bv c n).2])∧Gr w w':=by
 have hchk:=eM c A cap ((w.alloc (.cells #[.int .i64 c.c0,.int .i64 c.c1,.int .i64 c.c2,.int .i64 c.c3,.slice A c.l.length cap] 38)).alloc (.cells #[.int .i64 0,.int .i64 0] 95)) hl (hr.gr (((gR _).alloc _).alloc _))
 have hchkH:Hid _:=hchk
 clear hchk
 unfold maxLen at hl
 go_enter Tryz.func154,Tryz.ntmps154
 go_wp2_with fail
 refine cM (show Calls _ _ _ _ _ from hchkH.out) ?_
 rintro e w1 ⟨rfl,hgr⟩
 clear hchkH
 have r0:=lX hgr (j:=0) rfl
 have r1:=lX hgr (j:=1) rfl
 have r0f:=oB hgr 0
 have r1f:=oB hgr 1
 by_cases he:aJ c=0
 ·have heH:Hid (aJ c=0):=he
  rw[he]
  clear he
  cases hin:inB n 0 3
  ·have hA:Hid (bv c n=((0,0),1)):=by show bv c n=_;simp[bv,heH.out,hin]
   go_wp2_with (go_at_call 92;refine (ft hin _).mono ?_;rintro e w' ⟨rfl,rfl⟩)
   rw[hA.out]
   exact bodyPost_ret (v:= .tuple #[.agg #[.int .i64 0,.int .i64 0],.int .i64 1]) (by simp[results,Tryz.results154,go_sem,r0,r1]) rfl ⟨rfl,(((bQ (bQ hgr)).setCell (by simp) _).setCell (by simp) _)⟩
  ·have hn:0≤n∧n<4:=by simp[inB] at hin;omega
   have hA:Hid (bv c n=(jn c n,kg c n)):=by show bv c n=_;simp[bv,heH.out,hin]
   have kc:=aa (gJ hgr) (ie (c:=c) hn.1 hn.2)
   have k4:=aa (gJ hgr) (j:=4) rfl
   have hcl:=ch (lf heH.out) n hn.1 hn.2
   go_wp2_with (go_at_call 92;refine (ft hin _).mono ?_;rintro e w' ⟨rfl,rfl⟩)
   clear kc k4 r0 r1 r0f r1f
   go_loopw [7,27] (fun m i wr=>∃k:Nat,k≤c.l.length∧i= .int .i64 k∧m= .int .i64 (et c n (c.l.take k))∧Gr ((w.alloc (.cells #[.int .i64 c.c0,.int .i64 c.c1,.int .i64 c.c2,.int .i64 c.c3,.slice A c.l.length cap] 38)).alloc (.cells #[.int .i64 0,.int .i64 0] 95)) wr) (fun _ i _=>c.l.length-(intOf i).toNat)
   case atStart=>exact ⟨0,by omega,rfl,rfl,hgr⟩
   case round =>
    clear hgr
    obtain ⟨k,hk,rfl,rfl,hgr⟩:=hrel
    have r0:=lX hgr (j:=0) rfl
    have r1:=lX hgr (j:=1) rfl
    have r0f:=oB hgr 0
    have r1f:=oB hgr 1
    have hlo:=rC c n (c.l.take k)
    by_cases hlt:k<c.l.length
    ·have hltz:(k:Int)<(c.l.length:Int):=by omega
     obtain ⟨b,off,rfl,hb,hcs⟩:=(hr.gr (bQ (bQ hgr))).at hlt
     obtain ⟨x,y,hx⟩:∃x y,c.l[k]=(x,y):=⟨_,_,rfl⟩
     have e0:=(hcs k hlt).1
     have e1:=(hcs k hlt).2
     rw[hx] at e0 e1
     have hst:Hid (et c n (c.l.take (k+1))=if x=n then max (et c n (c.l.take k)) y else et c n (c.l.take k)):=sK c n k hlt hx
     clear hcs hx
     by_cases hxn:x=n
     ·subst hxn
      go_wp2
      go_roundw
      case rel=>exact ⟨k+1,by omega,by go_num,by rw[hst.out,if_pos rfl],hgr.alloc _⟩
      case measure=>simp[intOf];omega
     ·have hxb:(x==n)=false:=by simpa using hxn
      have hxH:Hid (¬x=n):=hxn
      clear hxn
      go_wp2
      go_roundw
      case rel=>exact ⟨k+1,by omega,by go_num,by rw[hst.out,if_neg hxH.out],hgr.alloc _⟩
      case measure=>simp[intOf];omega
    ·have hltz:¬(k:Int)<(c.l.length:Int):=by omega
     have hke:c.l.take k=c.l:=List.take_of_length_le (by omega)
     rw[hke] at hlo ⊢
     clear hke
     by_cases htop:1099511627776≤et c n c.l
     ·have hD:Hid (jn c n=(0,0)∧kg c n=2):=by
       show _∧_
       simp[jn,kg,htop]
      go_wp2
      rw[hA.out,hD.out.1,hD.out.2]
      exact bodyPost_ret (v:= .tuple #[.agg #[.int .i64 0,.int .i64 0],.int .i64 2]) (by simp[results,Tryz.results154,go_sem,r0,r1]) rfl ⟨rfl,(((bQ (bQ hgr)).setCell (by simp) _).setCell (by simp) _)⟩
     ·have hD:Hid (jn c n=(n,et c n c.l+1)∧kg c n=0):=by
       show _∧_
       simp[jn,kg,htop]
      go_wp2
      rw[hA.out,hD.out.1,hD.out.2]
      exact bodyPost_ret (v:= .tuple #[.agg #[.int .i64 n,.int .i64 (et c n c.l+1)],.int .i64 0]) (by simp[results,Tryz.results154,go_sem,r0,r1]) rfl ⟨rfl,(((bQ (bQ hgr)).setCell (by simp) _).setCell (by simp) _)⟩
 ·have hA:Hid (bv c n=((0,0),aJ c)):=by show bv c n=_;simp[bv,he]
  have heb:(aJ c != 0)=true:=by simpa using he
  clear he
  go_wp2
  rw[hA.out]
  exact bodyPost_ret (v:= .tuple #[.agg #[.int .i64 0,.int .i64 0],.int .i64 (aJ c)]) (by simp[results,Tryz.results154,go_sem,r0,r1]) rfl ⟨rfl,(((bQ (bQ hgr)).setCell (by simp) _).setCell (by simp) _)⟩

def eU (a b:Ctx):Int:=if aJ a=0 then aJ b else aJ a

theorem lS (a b:Ctx) (A B:Option Addr) (ca cb:Nat) (w:World) (hal:a.l.length≤maxLen) (hbl:b.l.length≤maxLen) (hra:Row w A a.l) (hrb:Row w B b.l) :
  Calls Tryz.prog 162 #[.agg #[.int .i64 a.c0,.int .i64 a.c1,.int .i64 a.c2,.int .i64 a.c3,.slice A a.l.length ca],.agg #[.int .i64 b.c0,.int .i64 b.c1,.int .i64 b.c2,.int .i64 b.c3,.slice B b.l.length cb]] w fun e w'=>e= .returned (.int .i64 (eU a b))∧Gr w w':=by
 have hg0:Gr w ((w.alloc (.cells #[.int .i64 a.c0,.int .i64 a.c1,.int .i64 a.c2,.int .i64 a.c3,.slice A a.l.length ca] 38)).alloc (.cells #[.int .i64 b.c0,.int .i64 b.c1,.int .i64 b.c2,.int .i64 b.c3,.slice B b.l.length cb] 38)):=((gR w).alloc _).alloc _
 have hb0:CtxAt ((w.alloc (.cells #[.int .i64 a.c0,.int .i64 a.c1,.int .i64 a.c2,.int .i64 a.c3,.slice A a.l.length ca] 38)).alloc (.cells #[.int .i64 b.c0,.int .i64 b.c1,.int .i64 b.c2,.int .i64 b.c3,.slice B b.l.length cb] 38)) (w.heap.size+1) b B cb:=CtxAt.new 38 (hrb.gr ((gR _).alloc _)) (by simp)
 go_enter Tryz.func162,Tryz.ntmps162
 go_wp2_with fail
 refine (eM a A ca _ hal (hra.gr hg0)).mono ?_
 rintro e w1 ⟨rfl,hg1⟩
 by_cases he:aJ a=0
 ·have hE:Hid (eU a b=aJ b):=by show eU a b=_;simp[eU,he]
  have heb:(aJ a != 0)=false:=by simpa using he
  clear he
  obtain ⟨k0,k1,k2,k3,k4,_,hrow⟩:=hb0.gr hg1
  go_wp2_with fail
  refine (eM b B cb _ hbl hrow).mono ?_
  rintro e w2 ⟨rfl,hg2⟩
  go_wp2
  go_ret
  rw[hE.out]
  exact ⟨rfl,(hg0.trans hg1).trans hg2⟩
 ·have hE:Hid (eU a b=aJ a):=by show eU a b=_;simp[eU,he]
  have heb:(aJ a != 0)=true:=by simpa using he
  clear he
  go_wp2
  go_ret
  rw[hE.out]
  exact ⟨rfl,hg0.trans hg1⟩

theorem kv {a b:Ctx} (h:eU a b=0):aJ a=0∧aJ b=0:=by
 unfold eU at h
 by_cases ha:aJ a=0
 ·rw[if_pos ha] at h;exact ⟨ha,h⟩
 ·rw[if_neg ha] at h;exact absurd h ha
theorem bw {c:Ctx} (h:aJ c=0):bu c=true∧c.l.length≤400∧∀k,k<c.l.length→ij c k=true:=by
 have h1:=lf h
 unfold aJ at h
 rw[h1] at h
 by_cases hl:400<c.l.length
 ·simp[hl] at h
 ·refine ⟨h1,by omega,?_⟩
  cases ha:(List.range c.l.length).all (ij c)
  ·simp[hl,ha] at h
  ·intro k hk
   rw[List.all_eq_true] at ha
   exact ha k (by simpa using hk)
theorem iS {c:Ctx} (h:aJ c=0):∀x∈c.l,al x=true:=by
 intro x hx
 obtain ⟨j,hj,rfl⟩:=List.getElem_of_mem hx
 have:=(bw h).2.2 j hj
 cases j with
 | zero=>rw[eO hj rfl] at this;simp at this;exact this.1
 | succ m=>rw[dJ hj rfl rfl] at this;simp at this;exact this.1.1

structure TbP (P:Nat→Prop) (w:World) (t:Tab) (A:Option Addr) (ca:Nat) (D:Option Addr) (cd:Nat):Prop where
 row:Row w A t.c.l
 cel:bj w D t.e
 pr:PIn P A t.c.l
 pc:PIn P D t.e
 nr:A=none→ca=0
 nc:D=none→cd=0
 ok:aq t=0
theorem TbP.agr {P:Nat→Prop} {w w':World} {t:Tab} {A:Option Addr} {ca:Nat} {D:Option Addr} {cd:Nat} (h:TbP P w t A ca D cd) (q:Agr P w w'):TbP P w' t A ca D cd:=⟨h.row.agr h.pr q,h.cel.agr h.pc q,h.pr,h.pc,h.nr,h.nc,h.ok⟩
theorem TbP.below {P:Nat→Prop} {w w':World} {t:Tab} {A:Option Addr} {ca:Nat} {D:Option Addr} {cd:Nat} (h:TbP P w t A ca D cd) (q:Below w.heap.size w w'):TbP P w' t A ca D cd:=h.agr (Agr.of q)
theorem TbP.mono {P Q:Nat→Prop} {w:World} {t:Tab} {A:Option Addr} {ca:Nat} {D:Option Addr} {cd:Nat} (h:TbP P w t A ca D cd) (k:∀b,P b→Q b):TbP Q w t A ca D cd:=⟨h.row,h.cel,h.pr.mono k,h.pc.mono k,h.nr,h.nc,h.ok⟩
theorem TbP.len {P:Nat→Prop} {w:World} {t:Tab} {A:Option Addr} {ca:Nat} {D:Option Addr} {cd:Nat} (h:TbP P w t A ca D cd):t.c.l.length≤maxLen∧t.e.length≤maxLen:=by
 have h1:=(bw (ag h.ok).1).2.1
 have h2:=(ag h.ok).2.1
 unfold maxLen
 omega

theorem Agr.set {P:Nat→Prop} {w:World} {V j:Nat} (v:Value) (h:¬P V):Agr P w (w.setCell ⟨V,j,none⟩ v):=(Wr.set (lo:=j) (hi:=j+1) w v (nR _) (by omega)).agr h
theorem jr {W:World} {A B:Option Addr} {c d:Nat} {l r:List Itm} (h:Lv W A c l) (h':Lv W B d r) {m:List Zit} (hm:aN (l.map Itm.z) (r.map Itm.z)=m) :
  Calls Tryz.prog 112 #[.slice A l.length c,.slice B r.length d] W fun e w'=>∃(L:List Itm) (C:Option Addr) (k:Nat),e= .returned (.slice C L.length k)∧L.map Itm.z=m∧LvP (fun b=>W.heap.size≤b∧b<w'.heap.size) w' C k L∧Below W.heap.size W w':=by
 obtain ⟨E,hE⟩:∃E,aP (l.map Itm.z) (r.map Itm.z)=E:=⟨_,rfl⟩
 have hA0:=pj h h' rfl rfl
 rw[hm,hE] at hA0
 have hA:Hid _:=hA0
 clear hA0 h h' hm hE
 go_enter Tryz.func112,Tryz.ntmps112
 go_wp2_with fail
 refine cM (show Calls _ _ _ _ _ from hA.out) ?_
 rintro e w1 ⟨L,C,k,rfl,h1,h2,h3,h4⟩
 have hfin:Hid (L.map Itm.z=m∧LvP (fun b=>W.heap.size≤b∧b<w1.heap.size) w1 C k L∧Below W.heap.size W w1):=⟨h1,LvP.new h2 h4.new,h3⟩
 clear h1 h2 h3 h4 hA
 go_wp2
 go_ret
 exact ⟨L,C,k,rfl,hfin.out⟩
theorem oN (a b c d e f g h i j k l:Value) (w:World):(Instr.index 48 (.agg #[a,b,c,d,e,f,g,h,i,j,k,l]) (.int .i64 0)).run Tryz.prog w= .ok (.agg #[a,b,c,d,e,f]) w:=by kernel_rfl
theorem pl (a b c d e f g h i j k l:Value) (w:World):(Instr.index 48 (.agg #[a,b,c,d,e,f,g,h,i,j,k,l]) (.int .i64 1)).run Tryz.prog w= .ok (.agg #[g,h,i,j,k,l]) w:=by kernel_rfl
theorem yw (x y:Value) (w:World):(Instr.index 71 (.agg #[x,y]) (.int .i64 0)).run Tryz.prog w= .ok x w:=by kernel_rfl
theorem zj (x y:Value) (w:World):(Instr.index 71 (.agg #[x,y]) (.int .i64 1)).run Tryz.prog w= .ok y w:=by kernel_rfl

theorem qX (wa:World) (T:TypeId) {w1:World} {n:Nat} (hw:(wa.alloc (.cells #[.slice none 0 0,.slice none 0 0] T)).alloc (.cells #[.slice none 0 0,.slice none 0 0] T)=w1) (hn:wa.heap.size=n):Cls w1 n [.slice none 0 0,.slice none 0 0]∧Cls w1 (n+1) [.slice none 0 0,.slice none 0 0]:=by
 subst hn
 subst hw
 have h1:=Cls.new wa #[.slice none 0 0,.slice none 0 0] T
 have h2:=Cls.new (wa.alloc (.cells #[.slice none 0 0,.slice none 0 0] T)) #[.slice none 0 0,.slice none 0 0] T
 rw[show (wa.alloc (.cells #[.slice none 0 0,.slice none 0 0] T)).heap.size=wa.heap.size+1 by simp] at h2
 exact ⟨h1.gr ((gR _).alloc _),h2⟩
theorem py {L:List Itm} {t:Tab} (h:L.map Itm.z=ofR t) (e:aq t=0):L.length≤maxLen:=by
 have h1:=congrArg List.length h
 rw[List.length_map] at h1
 have h2:=(TS.of e).len
 unfold maxLen
 omega
theorem iT {P:Nat→Prop} (s t:Tab) (A B C D:Option Addr) (ca cb cc cd:Nat) (w:World) (hs:TbP P w s A ca C cc) (ht:TbP P w t B cb D cd) :
  Calls Tryz.prog 81 #[.agg (T2 s A ca C cc t B cb D cd).toArray] w fun e w'=>∃(L M:List Itm) (X Y:Option Addr) (k m:Nat),e= .returned (.agg #[.slice X L.length k,.slice Y M.length m])∧L.map Itm.z=ofR s∧M.map Itm.z=ofR t∧LvP (fun b=>w.heap.size≤b∧b<w'.heap.size) w' X k L∧LvP (fun b=>w.heap.size≤b∧b<w'.heap.size) w' Y m M∧Below w.heap.size w w':=by
 have hx0:=oN (.int .i64 s.c.c0) (.int .i64 s.c.c1) (.int .i64 s.c.c2) (.int .i64 s.c.c3) (.slice A s.c.l.length ca) (.slice C s.e.length cc) (.int .i64 t.c.c0) (.int .i64 t.c.c1) (.int .i64 t.c.c2) (.int .i64 t.c.c3) (.slice B t.c.l.length cb) (.slice D t.e.length cd)
 have hx1:=pl (.int .i64 s.c.c0) (.int .i64 s.c.c1) (.int .i64 s.c.c2) (.int .i64 s.c.c3) (.slice A s.c.l.length ca) (.slice C s.e.length cc) (.int .i64 t.c.c0) (.int .i64 t.c.c1) (.int .i64 t.c.c2) (.int .i64 t.c.c3) (.slice B t.c.l.length cb) (.slice D t.e.length cd)
 have hHst:Hid (TbP P w s A ca C cc∧TbP P w t B cb D cd):=⟨hs,ht⟩
 clear hs ht
 go_enter Tryz.func81,Tryz.ntmps81
 go_wp2
 obtain ⟨wa,hwa⟩:∃W,w.alloc (.cells #[.int .i64 s.c.c0,.int .i64 s.c.c1,.int .i64 s.c.c2,.int .i64 s.c.c3,.slice A s.c.l.length ca,.slice C s.e.length cc,.int .i64 t.c.c0,.int .i64 t.c.c1,.int .i64 t.c.c2,.int .i64 t.c.c3,.slice B t.c.l.length cb,.slice D t.e.length cd] 48)=W:=⟨_,rfl⟩
 rw[hwa]
 have hga:Gr w wa:=by rw[←hwa];exact (gR w).alloc _
 have hsa:wa.heap.size=w.heap.size+1:=by rw[←hwa];simp
 clear hwa
 obtain ⟨w1,hw1⟩:∃W,(wa.alloc (.cells #[.slice none 0 0,.slice none 0 0] 71)).alloc (.cells #[.slice none 0 0,.slice none 0 0] 71)=W:=⟨_,rfl⟩
 rw[hw1]
 have hHc:=qX wa 71 hw1 hsa
 have hg1:Gr w w1:=by rw[←hw1];exact (hga.alloc _).alloc _
 have hs1:w1.heap.size=w.heap.size+1+1+1:=by rw[←hw1];simp[hsa]
 have hO0:=qn s A ca C cc (w1.alloc (.cells #[.int .i64 s.c.c0,.int .i64 s.c.c1,.int .i64 s.c.c2,.int .i64 s.c.c3,.slice A s.c.l.length ca,.slice C s.e.length cc] 41)) hHst.out.1.len.1 hHst.out.1.len.2 (hHst.out.1.row.gr (hg1.alloc _)) (hHst.out.1.cel.gr (hg1.alloc _))
 rw[hHst.out.1.ok] at hO0
 have hO:Hid _:=hO0
 have hH:Hid (Gr w w1∧Cls w1 (w.heap.size+1) [.slice none 0 0,.slice none 0 0]∧Cls w1 (w.heap.size+1+1) [.slice none 0 0,.slice none 0 0]∧w1.heap.size=w.heap.size+1+1+1):=⟨hg1,hHc.1,hHc.2,hs1⟩
 clear hO0 hg1 hs1 hHc hga hsa hw1
 refine wp_loop_rounds 3 ?_
 rw[rounds_succ]
 go_wp2_with fail
 refine cM (show Calls _ _ _ _ _ from hO.out) ?_
 rintro e w3 ⟨L,X,k,rfl,l1,l2,l3,l4,l5⟩
 have hb3:Below w1.heap.size w1 w3:=((gR w1).alloc _).below.trans (l4.mono (by simp))
 have hL3:=hH.out.2.2.1.below hb3
 have p0:=hL3.cell (j:=0) rfl
 have z0:=hL3.fz 0
 have hll:L.length≤maxLen:=py l1 hHst.out.1.ok
 have hLP:Hid (LvP (fun b=>w1.heap.size≤b∧b<w3.heap.size) w3 X k L∧L.map Itm.z=ofR s):=⟨(LvP.new ⟨l2,l3,hll⟩ l5).mono fun b hb=>⟨nT (by simp) hb.1,hb.2⟩,l1⟩
 have hR3:Hid (Cls w3 (w.heap.size+1) [.slice none 0 0,.slice none 0 0]∧Cls w3 (w.heap.size+1+1) [.slice none 0 0,.slice none 0 0]∧Below w1.heap.size w1 w3):=⟨hH.out.2.1.below hb3,hL3,hb3⟩
 clear l1 l2 l3 l4 l5 hO hb3 hL3 hll
 go_wp2
 clear p0 z0
 obtain ⟨w4,hw4⟩:∃W,w3.setCell ⟨w.heap.size+1+1,0,none⟩ (.slice X L.length k)=W:=⟨_,rfl⟩
 rw[hw4]
 have hs4:w4.heap.size=w3.heap.size:=by rw[←hw4];simp
 have h4:Hid (Cls w4 (w.heap.size+1) [.slice none 0 0,.slice none 0 0]∧Cls w4 (w.heap.size+1+1) [.slice X L.length k,.slice none 0 0]∧LvP (fun b=>w1.heap.size≤b∧b<w4.heap.size) w4 X k L∧Below w.heap.size w w4∧w1.heap.size≤w4.heap.size):=by
  have hs1:=hH.out.2.2.2
  have hb:=hH.out.1.below.trans (hR3.out.2.2.mono hH.out.1.size)
  refine ⟨?_,?_,?_,?_,?_⟩
  ·rw[←hw4];exact hR3.out.1.oth (by omega) _
  ·rw[←hw4];exact hR3.out.2.1.put 0 _
  ·rw[hs4,←hw4];exact hLP.out.1.agr (Agr.set _ fun h=>by omega)
  ·rw[←hw4];exact hb.setCell (by show _≤w.heap.size+1+1;omega) _
  ·rw[hs4];exact hR3.out.2.2.size
 clear hw4 hs4 hR3
 rw[rounds_succ]
 have hO0:=qn t B cb D cd (w4.alloc (.cells #[.int .i64 t.c.c0,.int .i64 t.c.c1,.int .i64 t.c.c2,.int .i64 t.c.c3,.slice B t.c.l.length cb,.slice D t.e.length cd] 41)) hHst.out.2.len.1 hHst.out.2.len.2 ((hHst.out.2.row.below h4.out.2.2.2.1).gr ((gR _).alloc _)) ((hHst.out.2.cel.below h4.out.2.2.2.1).gr ((gR _).alloc _))
 rw[hHst.out.2.ok] at hO0
 have hO:Hid _:=hO0
 clear hO0
 go_wp2_with fail
 refine cM (show Calls _ _ _ _ _ from hO.out) ?_
 rintro e w5 ⟨M,Y,m,rfl,l1,l2,l3,l4,l5⟩
 have hb5:Below w4.heap.size w4 w5:=((gR w4).alloc _).below.trans (l4.mono (by simp))
 have hL5:=h4.out.2.1.below hb5
 have p0:=hL5.cell (j:=1) rfl
 have z0:=hL5.fz 1
 have hll:M.length≤maxLen:=py l1 hHst.out.2.ok
 have hMP:Hid (LvP (fun b=>w1.heap.size≤b∧b<w5.heap.size) w5 X k L∧LvP (fun b=>w1.heap.size≤b∧b<w5.heap.size) w5 Y m M∧M.map Itm.z=ofR t):=⟨(h4.out.2.2.1.below hb5).mono fun b hb=>⟨hb.1,nL hb.2 hb5.size⟩,(LvP.new ⟨l2,l3,hll⟩ l5).mono fun b hb=>⟨nT h4.out.2.2.2.2 (nT (by simp) hb.1),hb.2⟩,l1⟩
 have hR5:Hid (Cls w5 (w.heap.size+1) [.slice none 0 0,.slice none 0 0]∧Cls w5 (w.heap.size+1+1) [.slice X L.length k,.slice none 0 0]∧Below w.heap.size w w5):=⟨h4.out.1.below hb5,hL5,h4.out.2.2.2.1.trans (hb5.mono h4.out.2.2.2.1.size)⟩
 clear l1 l2 l3 l4 l5 hO hb5 hL5 hll
 go_wp2
 clear p0 z0
 obtain ⟨w6,hw6⟩:∃W,w5.setCell ⟨w.heap.size+1+1,1,none⟩ (.slice Y M.length m)=W:=⟨_,rfl⟩
 rw[hw6]
 have hs6:w6.heap.size=w5.heap.size:=by rw[←hw6];simp
 have h6:Hid (Cls w6 (w.heap.size+1) [.slice none 0 0,.slice none 0 0]∧Cls w6 (w.heap.size+1+1) [.slice X L.length k,.slice Y M.length m]∧LvP (fun b=>w1.heap.size≤b∧b<w6.heap.size) w6 X k L∧LvP (fun b=>w1.heap.size≤b∧b<w6.heap.size) w6 Y m M∧Below w.heap.size w w6):=by
  have hs1:=hH.out.2.2.2
  refine ⟨?_,?_,?_,?_,?_⟩
  ·rw[←hw6];exact hR5.out.1.oth (by omega) _
  ·rw[←hw6];exact hR5.out.2.1.put 1 _
  ·rw[hs6,←hw6];exact hMP.out.1.agr (Agr.set _ fun h=>by omega)
  ·rw[hs6,←hw6];exact hMP.out.2.1.agr (Agr.set _ fun h=>by omega)
  ·rw[←hw6];exact hR5.out.2.2.setCell (by show _≤w.heap.size+1+1;omega) _
 clear hw6 hs6 hR5
 rw[rounds_succ]
 have q0:=h6.out.2.1.cell (j:=0) rfl
 have q1:=h6.out.2.1.cell (j:=1) rfl
 have r0:=h6.out.1.cell (j:=0) rfl
 have r1:=h6.out.1.cell (j:=1) rfl
 have z0:=h6.out.1.fz 0
 have z1:=h6.out.1.fz 1
 go_wp2
 have hs1:=hH.out.2.2.2
 have hge:w.heap.size≤w.heap.size+1:=by omega
 refine bodyPost_ret (v:= .agg #[.slice X L.length k,.slice Y M.length m]) (by simp[results,Tryz.results81,go_sem,r0,r1]) rfl ⟨L,M,X,Y,k,m,rfl,hLP.out.2,hMP.out.2.2,?_,?_,(h6.out.2.2.2.2.setCell hge _).setCell hge _⟩
 ·exact ((h6.out.2.2.1.agr (Agr.set _ fun h=>by omega)).agr (Agr.set _ fun h=>by omega)).mono fun b hb=>⟨by omega,by simpa using hb.2⟩
 ·exact ((h6.out.2.2.2.1.agr (Agr.set _ fun h=>by omega)).agr (Agr.set _ fun h=>by omega)).mono fun b hb=>⟨by omega,by simpa using hb.2⟩
theorem o7 {W:World} {A:Option Addr} {c:Nat} {l:List Itm} (h:Lv W A c l) (hz:TS (l.map Itm.z)) :
  Calls Tryz.prog 137 #[.slice A l.length c] W fun e w'=>∃(L:List Itm) (C:Option Addr) (k:Nat),e= .returned (.tuple #[.slice C L.length k,.int .i64 0])∧L.map Itm.z=gm (l.map Itm.z)∧Lv w' C k L∧Below W.heap.size W w':=by
 have:=yJ h rfl
 rw[hz.ok] at this
 exact this
theorem kU (a b c d:List Itm) (A B C D:Option Addr) (ca cb cc cd:Nat) (w:World) (ha:Lv w A ca a) (hb:Lv w B cb b) (hc:Lv w C cc c) (hd:Lv w D cd d) (ta:TS (a.map Itm.z)) (tb:TS (b.map Itm.z)) (tc:TS (c.map Itm.z)) (td:TS (d.map Itm.z)) :
  Calls Tryz.prog 109 #[.agg #[.slice A a.length ca,.slice B b.length cb],.agg #[.slice C c.length cc,.slice D d.length cd]] w fun e w'=>∃(L M:List Itm) (X Y:Option Addr) (k m:Nat),e= .returned (.agg #[.slice X L.length k,.slice Y M.length m])∧L.map Itm.z=aX (a.map Itm.z) (c.map Itm.z)∧M.map Itm.z=aX (b.map Itm.z) (d.map Itm.z)∧LvP (fun b=>w.heap.size≤b∧b<w'.heap.size) w' X k L∧LvP (fun b=>w.heap.size≤b∧b<w'.heap.size) w' Y m M∧Below w.heap.size w w':=by
 have hHst:Hid (Lv w A ca a∧Lv w B cb b∧Lv w C cc c∧Lv w D cd d∧TS (a.map Itm.z)∧TS (b.map Itm.z)∧TS (c.map Itm.z)∧TS (d.map Itm.z)):=⟨ha,hb,hc,hd,ta,tb,tc,td⟩
 clear ha hb hc hd ta tb tc td
 go_enter Tryz.func109,Tryz.ntmps109
 go_wp2
 obtain ⟨wa,hwa⟩:∃W,(w.alloc (.cells #[.slice A a.length ca,.slice B b.length cb] 71)).alloc (.cells #[.slice C c.length cc,.slice D d.length cd] 71)=W:=⟨_,rfl⟩
 rw[hwa]
 have hga:Gr w wa:=by rw[←hwa];exact ((gR w).alloc _).alloc _
 have hsa:wa.heap.size=w.heap.size+1+1:=by rw[←hwa];simp
 have hN:Cls wa w.heap.size [.slice A a.length ca,.slice B b.length cb]:=by rw[←hwa];exact (Cls.new w _ _).gr ((gR _).alloc _)
 have hO:Cls wa (w.heap.size+1) [.slice C c.length cc,.slice D d.length cd]:=by
  have:=Cls.new (w.alloc (.cells #[.slice A a.length ca,.slice B b.length cb] 71)) #[.slice C c.length cc,.slice D d.length cd] 71
  rw[hwa,show (w.alloc (.cells #[.slice A a.length ca,.slice B b.length cb] 71)).heap.size=w.heap.size+1 by simp] at this
  exact this
 clear hwa
 obtain ⟨w1,hw1⟩:∃W,(wa.alloc (.cells #[.slice none 0 0,.slice none 0 0] 71)).alloc (.cells #[.slice none 0 0,.slice none 0 0] 71)=W:=⟨_,rfl⟩
 rw[hw1]
 have hHc:=qX wa 71 hw1 hsa
 have hga1:Gr wa w1:=by rw[←hw1];exact ((gR _).alloc _).alloc _
 have hg1:Gr w w1:=hga.trans hga1
 have hs1:w1.heap.size=w.heap.size+1+1+1+1:=by rw[←hw1];simp[hsa]
 have hH:Hid (Gr w w1∧Cls w1 w.heap.size [.slice A a.length ca,.slice B b.length cb]∧Cls w1 (w.heap.size+1) [.slice C c.length cc,.slice D d.length cd]∧Cls w1 (w.heap.size+1+1) [.slice none 0 0,.slice none 0 0]∧Cls w1 (w.heap.size+1+1+1) [.slice none 0 0,.slice none 0 0]∧w1.heap.size=w.heap.size+1+1+1+1):=⟨hg1,hN.gr hga1,hO.gr hga1,hHc.1,hHc.2,hs1⟩
 clear hg1 hs1 hHc hga hsa hw1 hN hO hga1
 have q0:=hH.out.2.1.cell (j:=0) rfl
 have q1:=hH.out.2.2.1.cell (j:=0) rfl
 refine wp_loop_rounds 3 ?_
 rw[rounds_succ]
 have hC0:=o7 (hHst.out.2.2.1.gr hH.out.1) hHst.out.2.2.2.2.2.2.1
 have hC:Hid _:=hC0
 clear hC0
 go_wp2_with fail
 clear q0 q1
 refine cM (show Calls _ _ _ _ _ from hC.out) ?_
 rintro e w2 ⟨T,TA,tk,rfl,t1,t2,t3⟩
 have hT:Hid (Lv w2 TA tk T∧T.map Itm.z=gm (c.map Itm.z)∧Below w1.heap.size w1 w2):=⟨t2,t1,t3⟩
 clear t1 t2 t3 hC
 have q0:=(hH.out.2.1.below hT.out.2.2).cell (j:=0) rfl
 have hC0:=jr ((hHst.out.1.gr hH.out.1).below hT.out.2.2) hT.out.1 (m:=aX (a.map Itm.z) (c.map Itm.z)) (by rw[hT.out.2.1];exact (mT hHst.out.2.2.2.2.1 hHst.out.2.2.2.2.2.2.1).2)
 have hC:Hid _:=hC0
 clear hC0
 go_wp2_with fail
 clear q0
 refine cM (show Calls _ _ _ _ _ from hC.out) ?_
 rintro e w3 ⟨L,X,k,rfl,l1,l2,l3⟩
 have hb3:Below w1.heap.size w1 w3:=hT.out.2.2.trans (l3.mono hT.out.2.2.size)
 have hL3:=hH.out.2.2.2.2.1.below hb3
 have p0:=hL3.cell (j:=0) rfl
 have z0:=hL3.fz 0
 have hLP:Hid (LvP (fun b=>w1.heap.size≤b∧b<w3.heap.size) w3 X k L∧L.map Itm.z=aX (a.map Itm.z) (c.map Itm.z)):=⟨l2.mono fun b hb=>⟨nT hT.out.2.2.size hb.1,hb.2⟩,l1⟩
 have hR3:Hid (Below w1.heap.size w1 w3):=hb3
 clear l1 l2 l3 hC hb3 hL3
 go_wp2
 clear p0 z0
 obtain ⟨w4,hw4⟩:∃W,w3.setCell ⟨w.heap.size+1+1+1,0,none⟩ (.slice X L.length k)=W:=⟨_,rfl⟩
 rw[hw4]
 have hs4:w4.heap.size=w3.heap.size:=by rw[←hw4];simp
 have h4:Hid (Cls w4 w.heap.size [.slice A a.length ca,.slice B b.length cb]∧Cls w4 (w.heap.size+1) [.slice C c.length cc,.slice D d.length cd]∧Cls w4 (w.heap.size+1+1) [.slice none 0 0,.slice none 0 0]∧Cls w4 (w.heap.size+1+1+1) [.slice X L.length k,.slice none 0 0]∧LvP (fun b=>w1.heap.size≤b∧b<w4.heap.size) w4 X k L∧Below w.heap.size w w4∧w1.heap.size≤w4.heap.size):=by
  have hs1:=hH.out.2.2.2.2.2
  have hb:=hH.out.1.below.trans (hR3.out.mono hH.out.1.size)
  refine ⟨?_,?_,?_,?_,?_,?_,?_⟩
  ·rw[←hw4];exact (hH.out.2.1.below hR3.out).oth (by omega) _
  ·rw[←hw4];exact (hH.out.2.2.1.below hR3.out).oth (by omega) _
  ·rw[←hw4];exact (hH.out.2.2.2.1.below hR3.out).oth (by omega) _
  ·rw[←hw4];exact (hH.out.2.2.2.2.1.below hR3.out).put 0 _
  ·rw[hs4,←hw4];exact hLP.out.1.agr (Agr.set _ fun h=>by omega)
  ·rw[←hw4];exact hb.setCell (by show _≤w.heap.size+1+1+1;omega) _
  ·rw[hs4];exact hR3.out.size
 clear hw4 hs4 hR3 hT
 rw[rounds_succ]
 have q0:=h4.out.1.cell (j:=1) rfl
 have q1:=h4.out.2.1.cell (j:=1) rfl
 have hC0:=o7 (hHst.out.2.2.2.1.below h4.out.2.2.2.2.2.1) hHst.out.2.2.2.2.2.2.2
 have hC:Hid _:=hC0
 clear hC0
 go_wp2_with fail
 clear q0 q1
 refine cM (show Calls _ _ _ _ _ from hC.out) ?_
 rintro e w5 ⟨U,UA,uk,rfl,t1,t2,t3⟩
 have hT:Hid (Lv w5 UA uk U∧U.map Itm.z=gm (d.map Itm.z)∧Below w4.heap.size w4 w5):=⟨t2,t1,t3⟩
 clear t1 t2 t3 hC
 have q0:=(h4.out.1.below hT.out.2.2).cell (j:=1) rfl
 have hC0:=jr ((hHst.out.2.1.below h4.out.2.2.2.2.2.1).below hT.out.2.2) hT.out.1 (m:=aX (b.map Itm.z) (d.map Itm.z)) (by rw[hT.out.2.1];exact (mT hHst.out.2.2.2.2.2.1 hHst.out.2.2.2.2.2.2.2).2)
 have hC:Hid _:=hC0
 clear hC0
 go_wp2_with fail
 clear q0
 refine cM (show Calls _ _ _ _ _ from hC.out) ?_
 rintro e w6 ⟨M,Y,m,rfl,l1,l2,l3⟩
 have hb6:Below w4.heap.size w4 w6:=hT.out.2.2.trans (l3.mono hT.out.2.2.size)
 have hL6:=h4.out.2.2.2.1.below hb6
 have p0:=hL6.cell (j:=1) rfl
 have z0:=hL6.fz 1
 have hMP:Hid (LvP (fun b=>w1.heap.size≤b∧b<w6.heap.size) w6 X k L∧LvP (fun b=>w1.heap.size≤b∧b<w6.heap.size) w6 Y m M∧M.map Itm.z=aX (b.map Itm.z) (d.map Itm.z)):=⟨(h4.out.2.2.2.2.1.below hb6).mono fun b hb=>⟨hb.1,nL hb.2 hb6.size⟩,l2.mono fun b hb=>⟨nT h4.out.2.2.2.2.2.2 (nT hT.out.2.2.size hb.1),hb.2⟩,l1⟩
 have hR6:Hid (Cls w6 (w.heap.size+1+1) [.slice none 0 0,.slice none 0 0]∧Cls w6 (w.heap.size+1+1+1) [.slice X L.length k,.slice none 0 0]∧Below w.heap.size w w6):=⟨h4.out.2.2.1.below hb6,hL6,h4.out.2.2.2.2.2.1.trans (hb6.mono h4.out.2.2.2.2.2.1.size)⟩
 clear l1 l2 l3 hC hb6 hL6
 go_wp2
 clear p0 z0
 obtain ⟨w7,hw7⟩:∃W,w6.setCell ⟨w.heap.size+1+1+1,1,none⟩ (.slice Y M.length m)=W:=⟨_,rfl⟩
 rw[hw7]
 have hs7:w7.heap.size=w6.heap.size:=by rw[←hw7];simp
 have h7:Hid (Cls w7 (w.heap.size+1+1) [.slice none 0 0,.slice none 0 0]∧Cls w7 (w.heap.size+1+1+1) [.slice X L.length k,.slice Y M.length m]∧LvP (fun b=>w1.heap.size≤b∧b<w7.heap.size) w7 X k L∧LvP (fun b=>w1.heap.size≤b∧b<w7.heap.size) w7 Y m M∧Below w.heap.size w w7):=by
  have hs1:=hH.out.2.2.2.2.2
  refine ⟨?_,?_,?_,?_,?_⟩
  ·rw[←hw7];exact hR6.out.1.oth (by omega) _
  ·rw[←hw7];exact hR6.out.2.1.put 1 _
  ·rw[hs7,←hw7];exact hMP.out.1.agr (Agr.set _ fun h=>by omega)
  ·rw[hs7,←hw7];exact hMP.out.2.1.agr (Agr.set _ fun h=>by omega)
  ·rw[←hw7];exact hR6.out.2.2.setCell (by show _≤w.heap.size+1+1+1;omega) _
 clear hw7 hs7 hR6 hT
 rw[rounds_succ]
 have q0:=h7.out.2.1.cell (j:=0) rfl
 have q1:=h7.out.2.1.cell (j:=1) rfl
 have r0:=h7.out.1.cell (j:=0) rfl
 have r1:=h7.out.1.cell (j:=1) rfl
 have z0:=h7.out.1.fz 0
 have z1:=h7.out.1.fz 1
 go_wp2
 have hs1:=hH.out.2.2.2.2.2
 have hge:w.heap.size≤w.heap.size+1+1:=by omega
 refine bodyPost_ret (v:= .agg #[.slice X L.length k,.slice Y M.length m]) (by simp[results,Tryz.results109,go_sem,r0,r1]) rfl ⟨L,M,X,Y,k,m,rfl,hLP.out.2,hMP.out.2.2,?_,?_,(h7.out.2.2.2.2.setCell hge _).setCell hge _⟩
 ·exact ((h7.out.2.2.1.agr (Agr.set _ fun h=>by omega)).agr (Agr.set _ fun h=>by omega)).mono fun b hb=>⟨by omega,by simpa using hb.2⟩
 ·exact ((h7.out.2.2.2.1.agr (Agr.set _ fun h=>by omega)).agr (Agr.set _ fun h=>by omega)).mono fun b hb=>⟨by omega,by simpa using hb.2⟩
abbrev aS:=@Agr.set
end Go.Proofs.YtckeonpnfankhaaGreatDoor
