/-
  (*Node).Do: a node's edit.
  What a net's parts do: isNode, (*Net).edit.
  (*view).tell: what the query tells of the tables, with its error.
  node.New, (*Node).Views, View, Watch.
  net.New: a net without edits and packets.
-/
import Derived.Test.YtkefkplnamkicaaGreatDoorM32
import Derived.Test.YtkefkplnamkicaaGreatDoorM33
import Derived.Deep.MidRow
set_option maxRecDepth 100000
set_option maxHeartbeats 8000000
open Go.Ending renaming returned → H
open Go.IntKind renaming i64 → I
open Go.Obj renaming cells → R
open Go.Proofs.Tryz renaming prog → Z
open Go.Value renaming int → S, slice → J, pointer → K, tuple → T, bool → f, agg → r
namespace Go.Proofs.YtkefkplnamkicaaGreatDoor
open Go.RowKit Go.Sort

theorem Aq {w:World} {N O:Nat} {P:Nat→Prop} {id:Int} {s t:Tab} {qs:List (List Stp)} (h:Nd w N O P id s t qs) (k x2 x3 x4 x5:Int) :
  Calls Z 51 #[K (some ⟨N,O,none⟩),r #[S I k,S I x2,S I x3,S I x4,S I x5]] w fun e w'=>e= H (S I (ndE s t id k x2 x3 x4 x5))∧Nd w' N O (ag P w.heap.size w'.heap.size) id (ndS s id k x2 x3 x4 x5) (ndT t id k x2 x3 x4 x5) qs∧Wr N (O+1) (O+37) w w':=by
 by_cases h0:x2=0
 ·subst h0
  exact yU h k x3 x4 x5
 ·by_cases h1:x2=1
  ·subst h1
   exact yV h k x3 x4 x5
  ·have e1:ndE s t id k x2 x3 x4 x5=1:=by unfold ndE;rw[if_neg h0,if_neg h1]
   have e2:ndS s id k x2 x3 x4 x5=s:=by unfold ndS;rw[if_neg h0]
   have e3:ndT t id k x2 x3 x4 x5=t:=by unfold ndT;rw[if_neg h1]
   rw[e1,e2,e3]
   have hH:Hid (Nd w N O P id s t qs):=h
   clear h e1 e2 e3
   have hg:Hid (Gr w (w.alloc (R #[S I k,S I x2,S I x3,S I x4,S I x5] 28))):=(gR w).alloc _
   have hfin:Hid (Nd (w.alloc (R #[S I k,S I x2,S I x3,S I x4,S I x5] 28)) N O (ag P w.heap.size (w.alloc (R #[S I k,S I x2,S I x3,S I x4,S I x5] 28)).heap.size) id s t qs∧Wr N (O+1) (O+37) w (w.alloc (R #[S I k,S I x2,S I x3,S I x4,S I x5] 28))):=by
    have hn:=hH.out.below hg.out.below
    exact ⟨hn.mono (fun b hb=>ag.old b hb) (cZ hH.out.out hH.out.blk.lt) (fa fun b hb=>hn.up b hb),Wr.of hg.out.below hH.out.blk.lt⟩
   by_cases h2:x2<0
   ·go_enter Tryz.func51,Tryz.ntmps51
    go_wp2
    go_ret
    exact ⟨rfl,hfin.out⟩
   ·have h3:2≤x2:=by omega
    go_enter Tryz.func51,Tryz.ntmps51
    go_wp2
    go_ret
    exact ⟨rfl,hfin.out⟩

def bk (w:World) (B:Nat) (P:Nat→Prop) (w':World) (M:NetM) (Q:Nat→List (List Stp)):Prop:=(∃P',NetP w' B P' M Q∧∀b,P' b→P b∨w.heap.size≤b)∧Wr B 0 153 w w'
section
variable {w w1 w':World} {B:Nat} {P:Nat→Prop} {M M':NetM} {Q Q':Nat→List (List Stp)}
theorem bk.same (h:NetP w B P M Q) (k:Below w.heap.size w w'):bk w B P w' M Q:=⟨⟨P,h.below k,fun _ h=>oL h⟩,Wr.of k h.lt⟩
theorem bk.ahead (k:Below w.heap.size w w1) (hB:B<w.heap.size) (h:bk w1 B P w' M Q):bk w B P w' M Q:=by
 obtain ⟨⟨P',h1,h2⟩,h3⟩:=h
 exact ⟨⟨P',h1,fun b hb=>(h2 b hb).imp id fun h=>nT k.size h⟩,(Wr.of k hB).trans h3⟩
theorem bk.behind (h:bk w B P w1 M Q) (k:Below w1.heap.size w1 w'):bk w B P w' M Q:=by
 obtain ⟨⟨P',h1,h2⟩,h3⟩:=h
 exact ⟨⟨P',h1.below k,h2⟩,h3.trans (Wr.of k h1.lt)⟩
theorem bk.then (h:bk w B P w1 M Q) (k:∀P',NetP w1 B P' M Q→bk w1 B P' w' M' Q'):bk w B P w' M' Q':=by
 obtain ⟨⟨P',h1,h2⟩,h3⟩:=h
 obtain ⟨⟨P2,k1,k2⟩,k3⟩:=k P' h1
 exact ⟨⟨P2,k1,fun b hb=>(k2 b hb).elim (h2 b) fun h=>oR (nT h3.size h)⟩,h3.trans k3⟩
theorem NetP.call (h:NetP w B P M Q) {i lo hi:Nat} (hi4:i<4) {s t:Tab} {qs:List (List Stp)} (f1:Nd w' B (i*38) (ag P w.heap.size w'.heap.size) i s t qs) (f2:Wr B (i*38+lo) (i*38+hi) w w') (hh:hi≤38):bk w B P w' ⟨upd M.s i s,upd M.t i t,M.pk⟩ (eo Q i qs) :=
 have k:=h.wrote hi4 f1 f2 hh
 ⟨⟨_,k.1,fun _ hb=>hb.imp id fun h=>h.1⟩,k.2⟩
end
theorem cK (i:Nat) (hi:i<4) (w:World):Calls Z 33 #[S I i] w fun e w'=>e= H (f true)∧w'=w:=by
 have h0:(0:Int)≤(i:Int):=by omega
 have h4:(i:Int)<4:=by omega
 go_enter Tryz.func33,Tryz.ntmps33
 go_wp2
 go_ret
 exact ⟨rfl,rfl⟩
theorem iO (a:Int) (h:¬isN a) (w:World):Calls Z 33 #[S I a] w fun e w'=>e= H (f false)∧w'=w:=by
 by_cases h0:0≤a
 ·have h4:¬a<4:=fun k=>h ⟨h0,k⟩
  go_enter Tryz.func33,Tryz.ntmps33
  go_wp2
  go_ret
  exact ⟨rfl,rfl⟩
 ·go_enter Tryz.func33,Tryz.ntmps33
  go_wp2
  go_ret
  exact ⟨rfl,rfl⟩
theorem iN {a:Int} (h:isN a):∃i:Nat,a=i∧i<4:=⟨a.toNat,by have:=h.1;omega,by have:=h.1;have:=h.2;omega⟩
theorem yW {w:World} {B:Nat} {P:Nat→Prop} {M:NetM} {Q:Nat→List (List Stp)} (h:NetP w B P M Q) (a k x2 x3 x4 x5:Int) (ha:¬isN a) :
  Calls Z 29 #[K (some ⟨B,0,none⟩),S I a,r #[S I k,S I x2,S I x3,S I x4,S I x5]] w fun e w'=>e= H (S I 4)∧bk w B P w' M Q:=by
 have hH:Hid (bk w B P (w.alloc (R #[S I k,S I x2,S I x3,S I x4,S I x5] 28)) M Q):=bk.same h ((gR w).alloc _).below
 have hN:Hid (∀W,Calls Z 33 #[S I a] W fun e w'=>e= H (f false)∧w'=W):=iO a ha
 clear h ha
 go_enter Tryz.func29,Tryz.ntmps29
 go_wp2_with fail
 refine cM (hN.out _) ?_
 rintro e w1 ⟨rfl,rfl⟩
 go_wp2
 go_ret
 exact ⟨rfl,hH.out⟩
theorem wF {w:World} {B:Nat} {P:Nat→Prop} {M:NetM} {Q:Nat→List (List Stp)} (h:NetP w B P M Q) (i:Nat) (hi:i<4) (k x2 x3 x4 x5:Int) :
  Calls Z 29 #[K (some ⟨B,0,none⟩),S I i,r #[S I k,S I x2,S I x3,S I x4,S I x5]] w fun e w'=>e= H (S I (ndE (M.s i) (M.t i) i k x2 x3 x4 x5))∧bk w B P w' ⟨upd M.s i (ndS (M.s i) i k x2 x3 x4 x5),upd M.t i (ndT (M.t i) i k x2 x3 x4 x5),M.pk⟩ Q:=by
 have mixed:Tryz.prog.follows .mixedOrders=true:=by kernel_rfl
 obtain ⟨w1,hw1⟩:∃W,w.alloc (R #[S I k,S I x2,S I x3,S I x4,S I x5] 28)=W:=⟨_,rfl⟩
 have hg1:Gr w w1:=by rw[←hw1];exact (gR w).alloc _
 have hBx:Cls w1 w.heap.size [S I k,S I x2,S I x3,S I x4,S I x5]:=by rw[←hw1];exact Cls.new w _ _
 obtain ⟨b0,b1,b2,b3,b4⟩:=wg hBx
 have hi4:(i:Int)<4:=by omega
 have hH:Hid (NetP w B P M Q∧Gr w w1∧i<4):=⟨h,hg1,hi⟩
 obtain ⟨E,hE⟩:∃E,ndE (M.s i) (M.t i) i k x2 x3 x4 x5=E:=⟨_,rfl⟩
 have hN:Hid (∀W,Calls Z 33 #[S I i] W fun e w'=>e= H (f true)∧w'=W):=cK i hi
 have hD:Hid (∀W,Gr w1 W→Calls Z 51 #[K (some ⟨B,i*38,none⟩),r #[S I k,S I x2,S I x3,S I x4,S I x5]] W fun e w'=>e= H (S I E)∧bk w B P w' ⟨upd M.s i (ndS (M.s i) i k x2 x3 x4 x5),upd M.t i (ndT (M.t i) i k x2 x3 x4 x5),M.pk⟩ Q):=fun W hW=>by
  have hgW:=hg1.trans hW
  have hn:=h.below hgW.below
  have hd:=Aq (hn.nd i hi) k x2 x3 x4 x5
  rw[hE] at hd
  refine hd.mono ?_
  rintro e w' ⟨rfl,f1,f2⟩
  refine ⟨rfl,bk.ahead hgW.below h.lt ?_⟩
  have hc:=hn.call hi f1 f2 (by omega)
  rw[iX] at hc
  exact hc
 rw[hE]
 clear h hg1 hBx hE
 go_enter Tryz.func29,Tryz.ntmps29
 go_wp2_with fail
 try rw[hw1]
 clear hw1
 refine cM (hN.out _) ?_
 rintro e w2 ⟨rfl,rfl⟩
 go_wp2
 go_region_with (go_at_call 51;refine cM (hD.out _ (gR _).drew) ?_;rintro e w3 ⟨rfl,f1⟩;have hF:Hid _:=f1;clear f1)
 all_goals
  go_wp2
  go_ret
  exact ⟨rfl,hF.out⟩

theorem ym {w:World} {V o:Nat} {P:Nat→Prop} {q:List Stp} {z y:List Zit} (h:VwN w V o P q z y) :
  Calls Z 71 #[K (some ⟨V,o,none⟩)] w fun e w'=>∃(L:List Itm) (C:Option Addr) (k:Nat),e= H (T #[J C L.length k,S I (bY q z y)])∧L.map Itm.z=e7 q z y∧Lv w' C k L∧Below w.heap.size w w'∧NwT w' k w.heap.size C L:=by
 obtain ⟨k,l,⟨q',QA,cq,a,A,ca,b,B,cb,x,X,cx,u,U,cu,h1,hq,ha,hb,hx,hu⟩,tk,tl,h0⟩:=h
 have mixed:Tryz.prog.follows .mixedOrders=true:=by kernel_rfl
 have c5:=h1.c5
 obtain ⟨E,hE⟩:∃E,bY q z y=E:=⟨_,rfl⟩
 rw[hE] at c5 h0 ⊢
 have hV:=qp w V o P q' QA cq a A ca b B cb h1.vo
 have hVH:Hid _:=hV
 have hEH:Hid (bY q z y=E∧(E=0→k=z∧l=y)∧q'.map bare=q.map bare∧a.map Itm.z=k∧b.map Itm.z=l):=⟨hE,h0,hq,ha,hb⟩
 clear h1 hq ha hb hx hu tk tl h0 hE hV
 go_enter Tryz.func71,Tryz.ntmps71
 cases hn:(E != 0)
 ·have hE0:E=0:=by simpa using hn
  go_wp2_with fail
  refine cM (show Calls _ _ _ _ _ from hVH.out) ?_
  rintro e w1 ⟨L,C,k',rfl,f1,f2,f3,f4⟩
  have hfin:Hid (L.map Itm.z=e7 q z y∧Lv w1 C k' L∧Below w.heap.size w w1∧NwT w1 k' w.heap.size C L):=by
   refine ⟨?_,f2,f3,f4⟩
   rw[f1,hEH.out.2.2.2.1,hEH.out.2.2.2.2,(hEH.out.2.1 hE0).1,(hEH.out.2.1 hE0).2]
   exact kL hEH.out.2.2.1 _ _
  subst hE0
  clear f1 f2 f3 f4 hVH
  go_wp2
  go_ret2
  exact ⟨L,C,k',rfl,hfin.out⟩
 ·have hE0:¬E=0:=by simpa using hn
  have hfin:Hid (e7 q z y=[]):=sk (by rw[hEH.out.1];exact hE0)
  clear hE0 hVH
  go_wp2
  go_region
  all_goals
   go_wp2
   go_ret2
   exact ⟨[],none,0,rfl,by rw[hfin.out];rfl,(LvP.none (fun _=>True) _).lv,(gR w).drew.below,NwT.none _ _⟩

theorem vK {w:World} {N O:Nat} {P:Nat→Prop} {id:Int} {s t:Tab} {qs:List (List Stp)} (h:Nd w N O P id s t qs) {i:Int} (hi:i<0∨(qs.length:Int)≤i) :
  Calls Z 47 #[K (some ⟨N,O,none⟩),S I i] w fun e w'=>e= H (T #[J none 0 0,S I 4])∧w'=w:=by
 have c37:=h.cnt
 clear h
 by_cases h0:i<0
 ·go_enter Tryz.func47,Tryz.ntmps47
  go_wp2
  go_ret2
  exact ⟨rfl,rfl⟩
 ·have h1:(qs.length:Int)≤i:=by omega
  go_enter Tryz.func47,Tryz.ntmps47
  go_wp2
  go_ret2
  exact ⟨rfl,rfl⟩
theorem rO {w:World} {N O:Nat} {P:Nat→Prop} {id:Int} {s t:Tab} {qs:List (List Stp)} (h:Nd w N O P id s t qs) {j:Nat} (hj:j<qs.length) :
  Calls Z 47 #[K (some ⟨N,O,none⟩),S I j] w fun e w'=>∃(L:List Itm) (C:Option Addr) (k:Nat),e= H (T #[J C L.length k,S I (bY qs[j] (ofR s) (ofR t))])∧L.map Itm.z=e7 qs[j] (ofR s) (ofR t)∧Lv w' C k L∧Below w.heap.size w w'∧NwT w' k w.heap.size C L:=by
 have c37:=h.cnt
 have hle:=h.le
 have h0:¬(j:Int)<0:=by omega
 have h1:¬(qs.length:Int)≤(j:Int):=by omega
 have h4:(j:Int)<4:=by omega
 obtain ⟨E,hE⟩:∃E,bY qs[j] (ofR s) (ofR t)=E:=⟨_,rfl⟩
 obtain ⟨F,hF⟩:∃F,e7 qs[j] (ofR s) (ofR t)=F:=⟨_,rfl⟩
 have hT0:=ym (h.view hj)
 rw[hE,hF] at hT0 ⊢
 have hT:Hid _:=hT0
 clear hT0 h hE hF hle
 go_enter Tryz.func47,Tryz.ntmps47
 go_wp2_with fail
 refine cM (show Calls _ _ _ _ _ from hT.out) ?_
 rintro e w1 ⟨L,C,k,rfl,f1,f2,f3,f4⟩
 have hfin:Hid (L.map Itm.z=F∧Lv w1 C k L∧Below w.heap.size w w1∧NwT w1 k w.heap.size C L):=⟨f1,f2,f3,f4⟩
 clear f1 f2 f3 f4 hT
 go_wp2
 go_ret2
 exact ⟨L,C,k,rfl,hfin.out⟩

def wtE (q:List Stp) (qs:List (List Stp)):Int:=if bV q=0 then (if qs.length=4 then 2 else 0) else bV q
def wtQ (q:List Stp) (qs:List (List Stp)):List (List Stp):=if wtE q qs=0 then qs++[q] else qs
theorem VwN.move {w w':World} {V o N o':Nat} {P:Nat→Prop} {q:List Stp} {z y:List Zit} (h:VwN w V o P q z y) (hA:Agr P w w') (hl:N<w'.heap.size) (hf:∀j,w'.frozen? ⟨N,j,none⟩=false) (hc:∀j,j<6→w'.cell? ⟨N,o'+j,none⟩=w.cell? ⟨V,o+j,none⟩):VwN w' N o' P q z y:=by
 obtain ⟨k,l,⟨q',QA,cq,a,A,ca,b,B,cb,x,X,cx,u,U,cu,h1,h2⟩,h3⟩:=h
 exact ⟨k,l,⟨q',QA,cq,a,A,ca,b,B,cb,x,X,cx,u,U,cu,⟨⟨hl,hf,(hc 0 (by omega)).trans h1.vo.c0,(hc 1 (by omega)).trans h1.vo.c1,(hc 2 (by omega)).trans h1.vo.c2,h1.vo.st.agr hA,h1.vo.len,h1.vo.la.agr hA,h1.vo.lb.agr hA⟩,(hc 3 (by omega)).trans h1.c3,(hc 4 (by omega)).trans h1.c4,(hc 5 (by omega)).trans h1.c5,h1.lx.agr hA,h1.ly.agr hA⟩,h2⟩,h3⟩
theorem Nd.more {w w':World} {N O:Nat} {P P':Nat→Prop} {id:Int} {s t:Tab} {qs:List (List Stp)} {q:List Stp} (h:Nd w N O P id s t qs) (h4:qs.length<4) (hPP:∀b,P b→P' b) (hN:¬P' N) (hup:∀b,P' b→b<w'.heap.size) (hW:Wr N (O+13+qs.length*6) (O+38) w w') (hv:VwN w' N (O+13+qs.length*6) P' q (ofR s) (ofR t)) (hn:w'.cell? ⟨N,O+37,none⟩=some (S I ((qs.length:Int)+1))):Nd w' N O P' id s t (qs++[q]):=by
 have hb:=hW.blo h.blk
 have hA:Agr P w w':=hW.agr fun k=>hN (hPP _ k)
 have hc:∀j,j<O+13+qs.length*6→w'.cell? ⟨N,j,none⟩=w.cell? ⟨N,j,none⟩:=fun j hj=>hW.celo h.blk (oL hj)
 refine ⟨hb,hN,hup,(hc O (by omega)).trans h.cid,(h.ts.keep hA fun j _ _=>hc j (by omega)).mono hPP,(h.tt.keep hA fun j _ _=>hc j (by omega)).mono hPP,by rw[hn];simp,by simp;omega,fun j hj=> ?_⟩
 rw[List.length_append,List.length_singleton] at hj
 rw[if_pos (by omega),if_pos (by omega)]
 by_cases e:j=qs.length
 ·subst e
  rw[List.getElem_append_right (Nat.le_refl _)]
  simpa using hv
 ·rw[List.getElem_append_left (by omega)]
  exact ((h.view (by omega)).keep hA hb.lt hb.fz fun i h1 h2=>hc i (by omega)).mono hPP
theorem vM {w:World} {N O:Nat} {P:Nat→Prop} {id:Int} {s t:Tab} {qs:List (List Stp)} (h:Nd w N O P id s t qs) (q:List Stp) (QA:Option Addr) (cq:Nat) (hl:q.length≤maxLen) (hq:Stps w QA q) :
  Calls Z 55 #[K (some ⟨N,O,none⟩),J QA q.length cq] w fun e w'=>e= H (S I (wtE q qs))∧Nd w' N O (ag P w.heap.size w'.heap.size) id s t (wtQ q qs)∧Wr N (O+13) (O+38) w w':=by
 have mixed:Tryz.prog.follows .mixedOrders=true:=by kernel_rfl
 obtain ⟨A,ca,C,cc,hcs,hts⟩:=h.ts
 obtain ⟨B,cb,D,cd,hct,htt⟩:=h.tt
 have hH:Hid (Nd w N O P id s t qs∧w.cell? ⟨N,O+37,none⟩=some (S I (qs.length:Int))∧TbC w N (O+1) s A ca C cc∧TbC w N (O+7) t B cb D cd∧TbP P w s A ca C cc∧TbP P w t B cb D cd∧N<w.heap.size∧qs.length≤4):=⟨h,h.cnt,hcs,hct,hts,htt,h.blk.lt,h.le⟩
 have hold:Hid (∀W,Below w.heap.size w W→Nd W N O (ag P w.heap.size W.heap.size) id s t qs∧Wr N (O+13) (O+38) w W):=fun W hW=>by
  have hn:=hH.out.1.below hW
  exact ⟨hn.mono (fun b hb=>ag.old b hb) (cZ hH.out.1.out hH.out.1.blk.lt) (fa fun b hb=>hn.up b hb),Wr.of hW hH.out.1.blk.lt⟩
 clear h hcs hct hts htt
 by_cases he:bV q=0
 rotate_left
 ·have hC0:=zx q QA cq w hl hq he
  obtain ⟨E,hE⟩:∃E,bV q=E:=⟨_,rfl⟩
  have hfin:Hid (wtE q qs=E∧wtQ q qs=qs):=by
   have h1:wtE q qs=bV q:=by unfold wtE;rw[if_neg he]
   exact ⟨h1.trans hE,by unfold wtQ;rw[h1,if_neg he]⟩
  rw[hE] at hC0 he
  have hE0:(E != 0)=true:=by simpa using he
  have hC:Hid _:=hC0
  clear hC0 hq hl he hE
  go_enter Tryz.func55,Tryz.ntmps55
  go_wp2_with fail
  refine cM (show Calls _ _ _ _ _ from hC.out) ?_
  rintro e w1 ⟨rfl,hb1⟩
  have hbH:Hid (Below w.heap.size w w1):=hb1
  clear hb1 hC
  go_wp2
  go_ret
  refine ⟨by rw[hfin.out.1];rfl,?_⟩
  rw[hfin.out.2]
  exact hold.out w1 hbH.out
 have hC0:=AA q QA cq w hl hq he
 have hC:Hid _:=hC0
 have heH:Hid (bV q=0):=he
 clear hC0 hq hl he
 go_enter Tryz.func55,Tryz.ntmps55
 go_wp2_with fail
 refine cM (show Calls _ _ _ _ _ from hC.out) ?_
 rintro e w1 ⟨V,q',QB,cr,rfl,f1,f2,f3,f4⟩
 have hV:Hid (q'.map bare=q.map bare∧Vo w1 V 0 (fun b=>w.heap.size≤b∧b<V) q' QB cr [] none 0 [] none 0∧w.heap.size≤V∧Below w.heap.size w w1):=⟨f1,f2,f3,f4⟩
 clear f1 f2 f3 f4 hC
 have c37:=(hV.out.2.2.2.cell (p:=⟨N,O+37,none⟩) hH.out.2.2.2.2.2.2.1).trans hH.out.2.1
 by_cases h4:qs.length=4
 ·have h4z:((qs.length:Int)==4)=true:=by simp;omega
  have hfin:Hid (wtE q qs=2∧wtQ q qs=qs):=by
   have h1:wtE q qs=2:=by unfold wtE;rw[if_pos heH.out,if_pos h4]
   exact ⟨h1,by unfold wtQ;rw[h1,if_neg (by decide)]⟩
  clear h4
  go_wp2
  go_ret
  refine ⟨by rw[hfin.out.1];rfl,?_⟩
  rw[hfin.out.2]
  exact hold.out w1 hV.out.2.2.2
 have h4z:((qs.length:Int)==4)=false:=by simp;omega
 have h4H:Hid (qs.length<4):=by have:=hH.out.2.2.2.2.2.2.2;show _<_;omega
 have hfin:Hid (wtE q qs=0∧wtQ q qs=qs++[q]):=by
  have h1:wtE q qs=0:=by unfold wtE;rw[if_pos heH.out,if_neg h4]
  exact ⟨h1,by unfold wtQ;rw[h1,if_pos rfl]⟩
 clear h4
 have v0:=hV.out.2.1.c0
 have v1:=hV.out.2.1.c1
 have v2:=hV.out.2.1.c2
 go_upto_region 7 with fail
 obtain ⟨w2,hw2⟩:∃W,w1.alloc (R #[J QB q'.length cr,J none 0 0,J none 0 0,J none 0 0,J none 0 0,S I 0] 73)=W:=⟨_,rfl⟩
 rw[hw2]
 have h2:Hid (Cls w2 w1.heap.size [J QB q'.length cr,J none 0 0,J none 0 0,J none 0 0,J none 0 0,S I 0]∧Gr w1 w2∧Below w.heap.size w w2∧Blk w2 w1.heap.size 73 6):=by
  have hg:Gr w1 w2:=by rw[←hw2];exact (gR _).alloc _
  exact ⟨by rw[←hw2];exact Cls.new w1 _ _,hg,hV.out.2.2.2.trans (hg.below.mono hV.out.2.2.2.size),by rw[←hw2];exact ⟨_,(MapKept.heap_alloc _ _).1,rfl⟩⟩
 clear hw2 c37 v0 v1 v2
 have hlt:=hH.out.2.2.2.2.2.2.1
 have n1:=(h2.out.2.2.1.cell (p:=⟨N,O+1,none⟩) hlt).trans hH.out.2.2.1.k0
 have n2:=(h2.out.2.2.1.cell (p:=⟨N,O+2,none⟩) hlt).trans hH.out.2.2.1.k1
 have n3:=(h2.out.2.2.1.cell (p:=⟨N,O+3,none⟩) hlt).trans hH.out.2.2.1.k2
 have n4:=(h2.out.2.2.1.cell (p:=⟨N,O+4,none⟩) hlt).trans hH.out.2.2.1.k3
 have n5:=(h2.out.2.2.1.cell (p:=⟨N,O+5,none⟩) hlt).trans hH.out.2.2.1.k4
 have n6:=(h2.out.2.2.1.cell (p:=⟨N,O+6,none⟩) hlt).trans hH.out.2.2.1.k5
 have n7:=(h2.out.2.2.1.cell (p:=⟨N,O+7,none⟩) hlt).trans hH.out.2.2.2.1.k0
 have n8:=(h2.out.2.2.1.cell (p:=⟨N,O+8,none⟩) hlt).trans hH.out.2.2.2.1.k1
 have n9:=(h2.out.2.2.1.cell (p:=⟨N,O+9,none⟩) hlt).trans hH.out.2.2.2.1.k2
 have n10:=(h2.out.2.2.1.cell (p:=⟨N,O+10,none⟩) hlt).trans hH.out.2.2.2.1.k3
 have n11:=(h2.out.2.2.1.cell (p:=⟨N,O+11,none⟩) hlt).trans hH.out.2.2.2.1.k4
 have n12:=(h2.out.2.2.1.cell (p:=⟨N,O+12,none⟩) hlt).trans hH.out.2.2.2.1.k5
 have hS0:=jv s t A B C D ca cb cc cd w2 (hH.out.2.2.2.2.1.below h2.out.2.2.1) (hH.out.2.2.2.2.2.1.below h2.out.2.2.1)
 have hS:Hid _:=hS0
 clear hS0 hlt
 go_wp2_with fail
 clear n1 n2 n3 n4 n5 n6 n7 n8 n9 n10 n11 n12
 refine cM (show Calls _ _ _ _ _ from hS.out) ?_
 rintro e w3 ⟨L,M,X,Y,lk,mk,rfl,f1,f2,f3,f4,f5⟩
 have h3:Hid (L.map Itm.z=ofR s∧M.map Itm.z=ofR t∧LvP (fun b=>w2.heap.size≤b∧b<w3.heap.size) w3 X lk L∧LvP (fun b=>w2.heap.size≤b∧b<w3.heap.size) w3 Y mk M∧Below w2.heap.size w2 w3):=⟨f1,f2,f3,f4,f5⟩
 clear f1 f2 f3 f4 f5 hS
 have hVl:Hid (w.heap.size≤V∧V<w1.heap.size∧w1.heap.size<w2.heap.size):=⟨hV.out.2.2.1,hV.out.2.1.lt,h2.out.1.lt⟩
 have hT0:Calls Z 80 #[K (some ⟨w1.heap.size,0,none⟩),r #[J X L.length lk,J Y M.length mk]] w3 fun e w'=>e= H (T #[])∧VwN w' w1.heap.size 0 (ag (fun b=>w.heap.size≤b∧b<V) w3.heap.size w'.heap.size) q (ofR s) (ofR t)∧Wr w1.heap.size 0 (0+6) w3 w':=by
  have hC3:=h2.out.1.below h3.out.2.2.2.2
  have hb13:=h2.out.2.1.below.trans (h3.out.2.2.2.2.mono h2.out.2.1.size)
  have ts:=TS.of hH.out.2.2.2.2.1.ok
  have tt:=TS.of hH.out.2.2.2.2.2.1.ok
  have hvl:=hVl.out
  refine rL (h2.out.2.2.2.below h3.out.2.2.2.2) (fun h=>by omega) (fun h=>by omega) (k:=[]) (l:=[]) (z:=[]) (y:=[]) (e0:=0) ⟨q',QB,cr,[],none,0,[],none,0,[],none,0,[],none,0,⟨⟨hC3.lt,hC3.fz,hC3.cell rfl,hC3.cell rfl,hC3.cell rfl,hV.out.2.1.st.below hb13,hV.out.2.1.len,LvP.none _ _,LvP.none _ _⟩,hC3.cell rfl,hC3.cell rfl,hC3.cell rfl,LvP.none _ _,LvP.none _ _⟩,hV.out.1,rfl,rfl,rfl,rfl⟩ TS.nil TS.nil TS.nil TS.nil ts tt h3.out.2.2.1 h3.out.2.2.2.1 (by rw[h3.out.1,qC ts.ok]) (by rw[h3.out.2.1,qC tt.ok])
 have hT:Hid _:=hT0
 clear hT0
 go_wp2_with fail
 refine cM (show Calls _ _ _ _ _ from hT.out) ?_
 rintro e w4 ⟨rfl,f1,f2⟩
 obtain ⟨kk,ll,⟨q2,QC,cq2,a,PA,pca,b,PB,pcb,x,PX,pcx,u,PU,pcu,g1,g2⟩,g3⟩:=f1
 have h4:Hid (VwN w4 w1.heap.size 0 (ag (fun b=>w.heap.size≤b∧b<V) w3.heap.size w4.heap.size) q (ofR s) (ofR t)∧Wr w1.heap.size 0 (0+6) w3 w4):=⟨⟨kk,ll,⟨q2,QC,cq2,a,PA,pca,b,PB,pcb,x,PX,pcx,u,PU,pcu,g1,g2⟩,g3⟩,f2⟩
 have c0:=g1.vo.c0
 have c1:=g1.vo.c1
 have c2:=g1.vo.c2
 have c3:=g1.c3
 have c4:=g1.c4
 have c5:=g1.c5
 have hbw:Hid (Below w.heap.size w w4∧Nd w4 N O P id s t qs∧N<w.heap.size):=by
  have hb:=h2.out.2.2.1.trans (h3.out.2.2.2.2.mono h2.out.2.2.1.size)
  have hvl:=hVl.out
  have hb4:Below w.heap.size w w4:=⟨f2.os.trans hb.os,f2.tape.trans hb.tape,f2.output.trans hb.output,nT hb.size f2.size,fun g hg=>(f2.oth g (nL hg hb.size) (by omega)).trans (hb.block g hg)⟩
  exact ⟨hb4,hH.out.1.below hb4,hH.out.2.2.2.2.2.2.1⟩
 clear f2 g1 g2 g3 hT
 have c37:=hbw.out.2.1.cnt
 have hb4:=hbw.out.2.1.blk
 obtain ⟨j,hj⟩:∃j,qs.length=j:=⟨_,rfl⟩
 have hjH:Hid (qs.length=j):=hj
 rw[hj] at c37
 have hj4:(j:Int)<4:=by have:=h4H.out;omega
 have hj4n:j<4:=by have:=h4H.out;omega
 obtain ⟨ov0,o0⟩:=hb4.some (j:=O+13+j*6) (by omega)
 have zz0:=hb4.fz (O+13+j*6)
 obtain ⟨ov1,o1⟩:=hb4.some (j:=O+13+j*6+1) (by omega)
 have zz1:=hb4.fz (O+13+j*6+1)
 obtain ⟨ov2,o2⟩:=hb4.some (j:=O+13+j*6+2) (by omega)
 have zz2:=hb4.fz (O+13+j*6+2)
 obtain ⟨ov3,o3⟩:=hb4.some (j:=O+13+j*6+3) (by omega)
 have zz3:=hb4.fz (O+13+j*6+3)
 obtain ⟨ov4,o4⟩:=hb4.some (j:=O+13+j*6+4) (by omega)
 have zz4:=hb4.fz (O+13+j*6+4)
 obtain ⟨ov5,o5⟩:=hb4.some (j:=O+13+j*6+5) (by omega)
 have zz5:=hb4.fz (O+13+j*6+5)
 have z37:=hb4.fz (O+37)
 have hbl:Hid (Blo w4 N O):=hb4
 clear hj hb4
 go_wp2
 go_region
 all_goals
  obtain ⟨w5,hw5⟩:∃W,((((((w4.setCell ⟨N,O+13+j*6,none⟩ (J QC q2.length cq2)).setCell ⟨N,O+13+j*6+1,none⟩ (J PA a.length pca)).setCell ⟨N,O+13+j*6+2,none⟩ (J PB b.length pcb)).setCell ⟨N,O+13+j*6+3,none⟩ (J PX x.length pcx)).setCell ⟨N,O+13+j*6+4,none⟩ (J PU u.length pcu)).setCell ⟨N,O+13+j*6+5,none⟩ (S I (bY q (ofR s) (ofR t))))=W:=⟨_,rfl⟩
  rw[hw5]
  have h5:Hid (Wr N (O+13+j*6) (O+13+j*6+6) w4 w5∧(∀i v,[J QC q2.length cq2,J PA a.length pca,J PB b.length pcb,J PX x.length pcx,J PU u.length pcu,S I (bY q (ofR s) (ofR t))][i]? = some v→w5.cell? ⟨N,O+13+j*6+i,none⟩=some v)∧w5.heap.size=w4.heap.size):=by
   have hw5':fk N w4 (O+13+j*6) [J QC q2.length cq2,J PA a.length pca,J PB b.length pcb,J PX x.length pcx,J PU u.length pcu,S I (bY q (ofR s) (ofR t))]=w5:=hw5
   refine ⟨by rw[←hw5'];exact gk N _ w4 _ _ _ (nR _) (nR _),fun i v hv=> ?_,by rw[←hw5'];exact fG _ _ _ _⟩
   rw[←hw5']
   obtain ⟨T0,n0,hb0,hn0⟩:=hbl.out
   exact fF _ w4 _ hb0 (by show O+13+j*6+6≤n0;omega) i v hv
  clear hw5 o0 zz0 o1 zz1 o2 zz2 o3 zz3 o4 zz4 o5 zz5
  have d37:=(h5.out.1.celo hbl.out (j:=O+37) (oR (by omega))).trans c37
  have y37:=(h5.out.1.blo hbl.out).fz (O+37)
  go_wp2
  go_ret
  have h6:Nd (w5.setCell ⟨N,O+37,none⟩ (S I ((j:Int)+1))) N O (ag P w.heap.size (w5.setCell ⟨N,O+37,none⟩ (S I ((j:Int)+1))).heap.size) id s t (qs++[q]):=by
   have hj:=hjH.out
   have hsz:=h5.out.2.2
   have hvl:=hVl.out
   have hNw:=hbw.out.2.2
   have hs4:=h4.out.2.size
   have hs3:=h3.out.2.2.2.2.size
   have hwN:Wr N (O+13+qs.length*6) (O+38) w4 (w5.setCell ⟨N,O+37,none⟩ (S I ((j:Int)+1))):=by
    rw[hj]
    exact (h5.out.1.mono (nR _) (by omega)).trans (Wr.set _ _ (by omega) (by omega))
   have hNP:¬ag P w.heap.size (w5.setCell ⟨N,O+37,none⟩ (S I ((j:Int)+1))).heap.size N:=cZ hH.out.1.out hNw
   have hPv:∀b,ag (fun b=>w.heap.size≤b∧b<V) w3.heap.size w4.heap.size b→ag P w.heap.size (w5.setCell ⟨N,O+37,none⟩ (S I ((j:Int)+1))).heap.size b:=fun b hb=>by
    have hz:(w5.setCell ⟨N,O+37,none⟩ (S I ((j:Int)+1))).heap.size=w4.heap.size:=by simp[hsz]
    rw[hz]
    rcases hb with hb|hb
    ·exact oR ⟨hb.1,by omega⟩
    ·exact oR ⟨by omega,hb.2⟩
   refine Nd.more hbw.out.2.1 h4H.out (fun b hb=>ag.old b hb) hNP (fa fun b hb=> ?_) hwN ?_ ?_
   ·have:=hbw.out.2.1.up b hb
    simp[hsz];omega
   ·rw[hj]
    have hb5:=hwN.blo hbw.out.2.1.blk
    refine (h4.out.1.move (w':=w5.setCell ⟨N,O+37,none⟩ (S I ((j:Int)+1))) (N:=N) (o':=O+13+j*6) (hwN.agr fun h=>hNP (hPv _ h)) hb5.lt hb5.fz fun i hi=> ?_).mono hPv
    rw[cG (by omega)]
    match i,hi with
    | 0,_=>exact (h5.out.2.1 0 _ rfl).trans c0.symm
    | 1,_=>exact (h5.out.2.1 1 _ rfl).trans c1.symm
    | 2,_=>exact (h5.out.2.1 2 _ rfl).trans c2.symm
    | 3,_=>exact (h5.out.2.1 3 _ rfl).trans c3.symm
    | 4,_=>exact (h5.out.2.1 4 _ rfl).trans c4.symm
    | 5,_=>exact (h5.out.2.1 5 _ rfl).trans c5.symm
   ·rw[World.cell?_setCell_same _ _ _ d37,hj]
  have h7:Wr N (O+13) (O+38) w (w5.setCell ⟨N,O+37,none⟩ (S I ((j:Int)+1))):=(Wr.of hbw.out.1 hbw.out.2.2).trans ((h5.out.1.mono (by omega) (by omega)).trans (Wr.set _ _ (by omega) (by omega)))
  refine ⟨by rw[hfin.out.1];rfl,?_,h7.trans (Wr.of (gR _).drew.below h6.blk.lt)⟩
  rw[hfin.out.2]
  exact h6.below (gR _).drew.below

def fD (id:Int):List Value:=[S I id,S I 0,S I 0,S I 0,S I 0,J none 0 0,J none 0 0,S I 0,S I 0,S I 0,S I 0,J none 0 0,J none 0 0,J none 0 0,J none 0 0,J none 0 0,J none 0 0,J none 0 0,S I 0,J none 0 0,J none 0 0,J none 0 0,J none 0 0,J none 0 0,S I 0,J none 0 0,J none 0 0,J none 0 0,J none 0 0,J none 0 0,S I 0,J none 0 0,J none 0 0,J none 0 0,J none 0 0,J none 0 0,S I 0,S I 0]
theorem uZ (id:Int):∀u∈fD id,u.oneCell'=true:=by
 intro u hu
 have h:(fD id).all (·.oneCell')=true:=rfl
 exact List.all_eq_true.1 h u hu
theorem jY (b:Nat):∀(l:List Value) (o:Nat) (w:World),w.setCells b o l=fk b w o l
 | [],_,_=>rfl
 | _::l,o,_=>jY b l (o+1) _
theorem Nd.zero {w:World} {N O:Nat} {id:Int} (hb:Blo w N O) (hc:∀j v,(fD id)[j]? = some v→w.cell? ⟨N,O+j,none⟩=some v):Nd w N O (fun _=>False) id cH cH []:=by
 have ht:TbP (fun _=>False) w cH none 0 none 0:=⟨oL rfl,oL rfl,fun _ h=>(by cases h),fun _ h=>(by cases h),fun _=>rfl,fun _=>rfl,rQ⟩
 exact ⟨hb,fun h=>h,fun _ h=>h.elim,hc 0 _ rfl,⟨none,0,none,0,⟨hc 1 _ rfl,hc 2 _ rfl,hc 3 _ rfl,hc 4 _ rfl,hc 5 _ rfl,hc 6 _ rfl⟩,ht⟩,⟨none,0,none,0,⟨hc 7 _ rfl,hc 8 _ rfl,hc 9 _ rfl,hc 10 _ rfl,hc 11 _ rfl,hc 12 _ rfl⟩,ht⟩,hc 37 _ rfl,nZ _,fun j hj=>absurd hj (Nat.not_lt_zero _)⟩
theorem xB (w:World) (i:Nat) (hi:i<4):Calls Z 28 #[S I i] w fun e w'=>e= H (T #[K (some ⟨w.heap.size,0,none⟩),S I 0])∧Cls w' w.heap.size (fD i)∧Below w.heap.size w w':=by
 have h4:¬(i:Int)<0:=by omega
 have h5:¬(4:Int)≤i:=by omega
 have hfin:Hid (Cls (w.alloc (R (fD i).toArray 76)) w.heap.size (fD i)∧Below w.heap.size w (w.alloc (R (fD i).toArray 76))):=⟨Cls.new w _ _,((gR w).alloc _).below⟩
 clear hi
 go_enter Tryz.func28,Tryz.ntmps28
 go_wp2
 go_ret2
 exact ⟨rfl,hfin.out⟩
theorem eH (w:World):Calls Z 10 #[] w fun e w'=>e= H (K (some ⟨w.heap.size,0,none⟩))∧NetP w' w.heap.size (fun _=>False) aG (fun _=>[])∧Below w.heap.size w w':=by
 go_enter Tryz.func10,Tryz.ntmps10
 go_wp2
 go_loopw [5] (fun v5 wr=>∃i:Nat,i≤4∧v5= S I i∧Hid (Blk wr w.heap.size 80 153∧Below w.heap.size w wr∧wr.cell? ⟨w.heap.size,152,none⟩=some (J none 0 0)∧∀j,j<i→Nd wr w.heap.size (j*38) (fun _=>False) j cH cH [])) (fun v5 _=>4-(intOf v5).toNat)
 case atStart=>exact ⟨0,by omega,rfl,⟨_,(MapKept.heap_alloc _ _).1,rfl⟩,((gR w).alloc _).below,(Cls.new w _ _).cell rfl,fun j hj=>absurd hj (Nat.not_lt_zero _)⟩
 case round =>
  obtain ⟨i,hi,rfl,hI⟩:=hrel
  by_cases hi4:i<4
  rotate_left
  ·have hz:¬(i:Int)<4:=by omega
   obtain rfl:i=4:=by omega
   go_wp2
   go_ret
   exact ⟨rfl,⟨hI.out.1,hI.out.2.2.2,[],none,0,hI.out.2.2.1,oL rfl,fun a h=>(by cases h),fun _=>rfl,nR _,rfl,nZ _,fun p hp=>(by cases hp)⟩,hI.out.2.1⟩
  have hiz:(i:Int)<4:=by omega
  have hC:Hid _:=xB wr i hi4
  go_wp2_with fail
  refine cM (show Calls _ _ _ _ _ from hC.out) ?_
  rintro e w2 ⟨rfl,f1,f2⟩
  have hlt:w.heap.size<wr.heap.size:=hI.out.1.lt
  have hF:Hid (Cls w2 wr.heap.size (fD i)∧Below wr.heap.size wr w2∧Blk w2 w.heap.size 80 153):=⟨f1,f2,hI.out.1.below f2⟩
  have hld:Hid (w2.rangeAt wr.heap.size 0 (fD i)):=fun j v hv=>by rw[Nat.zero_add];exact f1.cell hv
  have hth:Hid (w2.there w.heap.size (i*38) (fD i).toArray.size):=fun j hj=>by
   have hj38:j<38:=hj
   obtain ⟨v,hv⟩:=hF.out.2.2.some (j:=i*38+j) (by omega)
   exact ⟨by rw[hv];rfl,hF.out.2.2.fz _⟩
  have hone:Hid ((fD i).toArray.all (·.oneCell')=true):=all_oneCell_toArray (uZ i)
  clear f1 f2 hC
  go_upto_region 7 with (first
   | (with_reducible refine wpList_load_mid rfl 76 (.tmp 15) rfl wr.heap.size 0 rfl (fD i) _ hld.out Tryz.underlying76 rfl (by kernel_rfl) ?_)
   | (with_reducible refine wpList_store_mid rfl 76 (.tmp 18) (.tmp 16) rfl w.heap.size (i*38) (fD i).toArray rfl rfl hth.out (by kernel_rfl) hone.out ?_))
  obtain ⟨w3,hw3⟩:∃W,w2.setCells w.heap.size (i*38) (fD i)=W:=⟨_,rfl⟩
  rw[hw3]
  have hG:Hid (Blk w3 w.heap.size 80 153∧Below w.heap.size w w3∧w3.cell? ⟨w.heap.size,152,none⟩=some (J none 0 0)∧∀j,j<i+1→Nd w3 w.heap.size (j*38) (fun _=>False) j cH cH []):=by
   rw[jY] at hw3
   have hW:Wr w.heap.size (i*38) (i*38+38) w2 w3:=by rw[←hw3];exact gk _ _ w2 _ _ _ (nR _) (nR _)
   have hb2:Below w.heap.size w w2:=hI.out.2.1.trans (hF.out.2.1.mono hI.out.2.1.size)
   have hb3:Blk w3 w.heap.size 80 153:=hW.block hF.out.2.2
   refine ⟨hb3,⟨hW.os.trans hb2.os,hW.tape.trans hb2.tape,hW.output.trans hb2.output,nT hb2.size hW.size,fun g hg=>(hW.oth g (nL hg hb2.size) (by omega)).trans (hb2.block g hg)⟩,?_,fun j hj=> ?_⟩
   ·rw[hW.cell hF.out.2.2 (Or.inr (by omega))]
    exact (hF.out.2.1.cell (p:=⟨w.heap.size,152,none⟩) hlt).trans hI.out.2.2.1
   ·by_cases e:j=i
    ·subst e
     refine Nd.zero ⟨_,_,hb3,by omega⟩ fun k v hv=> ?_
     rw[←hw3]
     exact fF _ w2 _ hF.out.2.2 (by show j*38+38≤153;omega) k v hv
    ·exact ((hI.out.2.2.2 j (by omega)).below hF.out.2.1).wr hW (by omega)
  clear hI hF hw3 hld hth hone
  go_wp2
  go_roundw
  case rel=>exact ⟨i+1,by omega,by go_num,hG⟩
  case measure=>simp[intOf];omega
end Go.Proofs.YtkefkplnamkicaaGreatDoor
