/-
  (*Node).Do: a node's edit.
  (*view).tell: what the query tells of the tables, with its error.
  node.New, (*Node).Views, View, Watch.
-/
import Derived.Test.YtkadjjmkokhldaaGreatM43
import Derived.Test.YtkadjjmkokhldaaGreatM31
import Derived.Test.YtkadjjmkokhldaaGreatM42
namespace Go.Proofs.YtkadjjmkokhldaaGreat
open Go.RowKit Go.Sort

set_option maxRecDepth 100000 in
set_option maxHeartbeats 1000000 in
theorem do_any {w:World} {N:Nat} {P:Nat→Prop} {id:Int} {s t:Tab} {qs:List (List Stp)} (h:Nd w N P id s t qs) (k x2 x3 x4 x5:Int) :
  Calls Tryz.prog 5 #[.pointer (some ⟨N,0,none⟩),.agg #[.int .i64 k,.int .i64 x2,.int .i64 x3,.int .i64 x4,.int .i64 x5]] w fun e w'=>e= .returned (.int .i64 (ndE s t id k x2 x3 x4 x5))∧Nd w' N (plusP P w.heap.size w'.heap.size) id (ndS s id k x2 x3 x4 x5) (ndT t id k x2 x3 x4 x5) qs∧Wr N 1 37 w w':=by
 by_cases h0:x2=0
 ·subst h0
  exact do0_any h k x3 x4 x5
 ·by_cases h1:x2=1
  ·subst h1
   exact do1_any h k x3 x4 x5
  ·have e1:ndE s t id k x2 x3 x4 x5=1:=by unfold ndE;rw[if_neg h0,if_neg h1]
   have e2:ndS s id k x2 x3 x4 x5=s:=by unfold ndS;rw[if_neg h0]
   have e3:ndT t id k x2 x3 x4 x5=t:=by unfold ndT;rw[if_neg h1]
   rw[e1,e2,e3]
   have hH:Hid (Nd w N P id s t qs):=h
   clear h e1 e2 e3
   have hg:Hid (Gr w (w.alloc (.cells #[.int .i64 k,.int .i64 x2,.int .i64 x3,.int .i64 x4,.int .i64 x5] 29))):=(Gr.refl w).alloc _
   have hfin:Hid (Nd (w.alloc (.cells #[.int .i64 k,.int .i64 x2,.int .i64 x3,.int .i64 x4,.int .i64 x5] 29)) N (plusP P w.heap.size (w.alloc (.cells #[.int .i64 k,.int .i64 x2,.int .i64 x3,.int .i64 x4,.int .i64 x5] 29)).heap.size) id s t qs∧Wr N 1 37 w (w.alloc (.cells #[.int .i64 k,.int .i64 x2,.int .i64 x3,.int .i64 x4,.int .i64 x5] 29))):=by
    have hn:=hH.out.below hg.out.below
    exact ⟨hn.mono (fun b hb=>plusP.old b hb) (plus_out hH.out.out hH.out.blk.lt) (plus_up fun b hb=>hn.up b hb),Wr.of hg.out.below hH.out.blk.lt⟩
   by_cases h2:x2<0
   ·go_enter Tryz.func5,Tryz.ntmps5
    go_wp2
    go_ret
    exact ⟨rfl,hfin.out⟩
   ·have h3:2≤x2:=by omega
    go_enter Tryz.func5,Tryz.ntmps5
    go_wp2
    go_ret
    exact ⟨rfl,hfin.out⟩
end Go.Proofs.YtkadjjmkokhldaaGreat

namespace Go.Proofs.YtkadjjmkokhldaaGreat
open Go.RowKit Go.Sort

set_option maxRecDepth 100000 in
set_option maxHeartbeats 4000000 in
theorem tell_any {w:World} {V o:Nat} {P:Nat→Prop} {q:List Stp} {z y:List Zit} (h:VwN w V o P q z y) :
  Calls Tryz.prog 29 #[.pointer (some ⟨V,o,none⟩)] w fun e w'=>∃(L:List Itm) (C:Option Addr) (k:Nat),e= .returned (.tuple #[.slice C L.length k,.int .i64 (plnE q z y)])∧L.map Itm.z=evlF q z y∧Lv w' C k L∧Below w.heap.size w w'∧NwT w' k w.heap.size C L:=by
 obtain ⟨k,l,⟨q',QA,cq,a,A,ca,b,B,cb,x,X,cx,u,U,cu,h1,hq,ha,hb,hx,hu⟩,tk,tl,h0⟩:=h
 have mixed:Tryz.prog.follows .mixedOrders=true:=by kernel_rfl
 have c5:=h1.c5
 obtain ⟨E,hE⟩:∃E,plnE q z y=E:=⟨_,rfl⟩
 rw[hE] at c5 h0 ⊢
 have hV:=allO_any w V o P q' QA cq a A ca b B cb h1.vo
 have hVH:Hid _:=hV
 have hEH:Hid (plnE q z y=E∧(E=0→k=z∧l=y)∧q'.map bare=q.map bare∧a.map Itm.z=k∧b.map Itm.z=l):=⟨hE,h0,hq,ha,hb⟩
 clear h1 hq ha hb hx hu tk tl h0 hE hV
 go_enter Tryz.func29,Tryz.ntmps29
 cases hn:(E != 0)
 ·have hE0:E=0:=by simpa using hn
  go_wp2_with fail
  refine Calls.mono (show Calls _ _ _ _ _ from hVH.out) ?_
  rintro e w1 ⟨L,C,k',rfl,f1,f2,f3,f4⟩
  have hfin:Hid (L.map Itm.z=evlF q z y∧Lv w1 C k' L∧Below w.heap.size w w1∧NwT w1 k' w.heap.size C L):=by
   refine ⟨?_,f2,f3,f4⟩
   rw[f1,hEH.out.2.2.2.1,hEH.out.2.2.2.2,(hEH.out.2.1 hE0).1,(hEH.out.2.1 hE0).2]
   exact same_evlF hEH.out.2.2.1 _ _
  subst hE0
  clear f1 f2 f3 f4 hVH
  go_wp2
  go_ret2
  exact ⟨L,C,k',rfl,hfin.out⟩
 ·have hE0:¬E=0:=by simpa using hn
  have hfin:Hid (evlF q z y=[]):=evl_no (by rw[hEH.out.1];exact hE0)
  clear hE0 hVH
  go_wp2
  go_region
  all_goals
   go_wp2
   go_ret2
   exact ⟨[],none,0,rfl,by rw[hfin.out];rfl,(LvP.none (fun _=>True) _).lv,(Gr.refl w).drew.below,NwT.none _ _⟩
end Go.Proofs.YtkadjjmkokhldaaGreat

namespace Go.Proofs.YtkadjjmkokhldaaGreat
open Go.RowKit Go.Sort

def noneT:Tab:=⟨⟨0,0,0,0,[]⟩,[]⟩
theorem noneT_ok:errT noneT=0:=by decide
set_option maxRecDepth 100000 in
set_option maxHeartbeats 1000000 in
theorem newN_any (w:World) (id:Int) (h0:0≤id) (h3:id≤3) :
  Calls Tryz.prog 4 #[.int .i64 id] w fun e w'=>e= .returned (.tuple #[.pointer (some ⟨w.heap.size,0,none⟩),.int .i64 0])∧Nd w' w.heap.size (fun _=>False) id noneT noneT []∧Below w.heap.size w w':=by
 have h4:¬id<0:=by omega
 have h5:¬ 4≤id:=by omega
 have hfin:Hid (Nd (w.alloc (.cells #[.int .i64 id,.int .i64 0,.int .i64 0,.int .i64 0,.int .i64 0,.slice none 0 0,.slice none 0 0,.int .i64 0,.int .i64 0,.int .i64 0,.int .i64 0,.slice none 0 0,.slice none 0 0,.slice none 0 0,.slice none 0 0,.slice none 0 0,.slice none 0 0,.slice none 0 0,.int .i64 0,.slice none 0 0,.slice none 0 0,.slice none 0 0,.slice none 0 0,.slice none 0 0,.int .i64 0,.slice none 0 0,.slice none 0 0,.slice none 0 0,.slice none 0 0,.slice none 0 0,.int .i64 0,.slice none 0 0,.slice none 0 0,.slice none 0 0,.slice none 0 0,.slice none 0 0,.int .i64 0,.int .i64 0] 77)) w.heap.size (fun _=>False) id noneT noneT []∧Below w.heap.size w (w.alloc (.cells #[.int .i64 id,.int .i64 0,.int .i64 0,.int .i64 0,.int .i64 0,.slice none 0 0,.slice none 0 0,.int .i64 0,.int .i64 0,.int .i64 0,.int .i64 0,.slice none 0 0,.slice none 0 0,.slice none 0 0,.slice none 0 0,.slice none 0 0,.slice none 0 0,.slice none 0 0,.int .i64 0,.slice none 0 0,.slice none 0 0,.slice none 0 0,.slice none 0 0,.slice none 0 0,.int .i64 0,.slice none 0 0,.slice none 0 0,.slice none 0 0,.slice none 0 0,.slice none 0 0,.int .i64 0,.slice none 0 0,.slice none 0 0,.slice none 0 0,.slice none 0 0,.slice none 0 0,.int .i64 0,.int .i64 0] 77))):=by
  have hC:=Cls.new w #[.int .i64 id,.int .i64 0,.int .i64 0,.int .i64 0,.int .i64 0,.slice none 0 0,.slice none 0 0,.int .i64 0,.int .i64 0,.int .i64 0,.int .i64 0,.slice none 0 0,.slice none 0 0,.slice none 0 0,.slice none 0 0,.slice none 0 0,.slice none 0 0,.slice none 0 0,.int .i64 0,.slice none 0 0,.slice none 0 0,.slice none 0 0,.slice none 0 0,.slice none 0 0,.int .i64 0,.slice none 0 0,.slice none 0 0,.slice none 0 0,.slice none 0 0,.slice none 0 0,.int .i64 0,.slice none 0 0,.slice none 0 0,.slice none 0 0,.slice none 0 0,.slice none 0 0,.int .i64 0,.int .i64 0] 77
  refine ⟨⟨⟨_,(MapKept.heap_alloc _ _).1,rfl⟩,fun h=>h,fun b h=>h.elim,hC.cell rfl,⟨none,0,none,0,⟨hC.cell rfl,hC.cell rfl,hC.cell rfl,hC.cell rfl,hC.cell rfl,hC.cell rfl⟩,⟨Or.inl rfl,Or.inl rfl,fun _ _ h=>absurd rfl h,fun _ _ h=>absurd rfl h,fun _=>rfl,fun _=>rfl,noneT_ok⟩⟩,⟨none,0,none,0,⟨hC.cell rfl,hC.cell rfl,hC.cell rfl,hC.cell rfl,hC.cell rfl,hC.cell rfl⟩,⟨Or.inl rfl,Or.inl rfl,fun _ _ h=>absurd rfl h,fun _ _ h=>absurd rfl h,fun _=>rfl,fun _=>rfl,noneT_ok⟩⟩,hC.cell rfl,Nat.zero_le _,fun j hj=>absurd hj (Nat.not_lt_zero _)⟩,((Gr.refl w).alloc _).below⟩
 go_enter Tryz.func4,Tryz.ntmps4
 go_wp2
 go_ret2
 exact ⟨rfl,hfin.out⟩
set_option maxRecDepth 100000 in
theorem views_any {w:World} {N:Nat} {P:Nat→Prop} {id:Int} {s t:Tab} {qs:List (List Stp)} (h:Nd w N P id s t qs) :
  Calls Tryz.prog 6 #[.pointer (some ⟨N,0,none⟩)] w fun e w'=>e= .returned (.int .i64 (qs.length:Int))∧w'=w:=by
 have c37:=h.cnt
 clear h
 go_enter Tryz.func6,Tryz.ntmps6
 go_wp2
 go_ret
 exact ⟨rfl,rfl⟩
set_option maxRecDepth 100000 in
set_option maxHeartbeats 1000000 in
theorem view_any {w:World} {N:Nat} {P:Nat→Prop} {id:Int} {s t:Tab} {qs:List (List Stp)} (h:Nd w N P id s t qs) {j:Nat} (hj:j<qs.length) :
  Calls Tryz.prog 18 #[.pointer (some ⟨N,0,none⟩),.int .i64 j] w fun e w'=>∃(L:List Itm) (C:Option Addr) (k:Nat),e= .returned (.tuple #[.slice C L.length k,.int .i64 (plnE qs[j] (ofR s) (ofR t))])∧L.map Itm.z=evlF qs[j] (ofR s) (ofR t)∧Lv w' C k L∧Below w.heap.size w w'∧NwT w' k w.heap.size C L:=by
 have c37:=h.cnt
 have hle:=h.le
 have h0:¬(j:Int)<0:=by omega
 have h1:¬(qs.length:Int)≤(j:Int):=by omega
 have h4:(j:Int)<4:=by omega
 obtain ⟨E,hE⟩:∃E,plnE qs[j] (ofR s) (ofR t)=E:=⟨_,rfl⟩
 obtain ⟨F,hF⟩:∃F,evlF qs[j] (ofR s) (ofR t)=F:=⟨_,rfl⟩
 have hT0:=tell_any (h.view hj)
 rw[hE,hF] at hT0 ⊢
 have hT:Hid _:=hT0
 clear hT0 h hE hF hle
 go_enter Tryz.func18,Tryz.ntmps18
 go_wp2_with fail
 refine Calls.mono (show Calls _ _ _ _ _ from hT.out) ?_
 rintro e w1 ⟨L,C,k,rfl,f1,f2,f3,f4⟩
 have hfin:Hid (L.map Itm.z=F∧Lv w1 C k L∧Below w.heap.size w w1∧NwT w1 k w.heap.size C L):=⟨f1,f2,f3,f4⟩
 clear f1 f2 f3 f4 hT
 go_wp2
 go_ret2
 exact ⟨L,C,k,rfl,hfin.out⟩

/-- What Watch tells. -/
def wtE (q:List Stp) (qs:List (List Stp)):Int:=if errQ q=0 then (if qs.length=4 then 2 else 0) else errQ q
def wtQ (q:List Stp) (qs:List (List Stp)):List (List Stp):=if wtE q qs=0 then qs++[q] else qs
/-- A view's cells, somewhere else. -/
theorem VwN.move {w w':World} {V o N o':Nat} {P:Nat→Prop} {q:List Stp} {z y:List Zit} (h:VwN w V o P q z y) (hA:Agr P w w') (hl:N<w'.heap.size) (hf:∀j,w'.frozen? ⟨N,j,none⟩=false) (hc:∀j,j<6→w'.cell? ⟨N,o'+j,none⟩=w.cell? ⟨V,o+j,none⟩):VwN w' N o' P q z y:=by
 obtain ⟨k,l,⟨q',QA,cq,a,A,ca,b,B,cb,x,X,cx,u,U,cu,h1,h2⟩,h3⟩:=h
 exact ⟨k,l,⟨q',QA,cq,a,A,ca,b,B,cb,x,X,cx,u,U,cu,⟨⟨hl,hf,(hc 0 (by omega)).trans h1.vo.c0,(hc 1 (by omega)).trans h1.vo.c1,(hc 2 (by omega)).trans h1.vo.c2,h1.vo.st.agr hA,h1.vo.len,h1.vo.la.agr hA,h1.vo.lb.agr hA⟩,(hc 3 (by omega)).trans h1.c3,(hc 4 (by omega)).trans h1.c4,(hc 5 (by omega)).trans h1.c5,h1.lx.agr hA,h1.ly.agr hA⟩,h2⟩,h3⟩
/-- One more view is laid behind the others. -/
theorem Nd.more {w w':World} {N:Nat} {P P':Nat→Prop} {id:Int} {s t:Tab} {qs:List (List Stp)} {q:List Stp} (h:Nd w N P id s t qs) (h4:qs.length<4) (hPP:∀b,P b→P' b) (hN:¬P' N) (hup:∀b,P' b→b<w'.heap.size) (hW:Wr N (13+qs.length*6) 38 w w') (hv:VwN w' N (13+qs.length*6) P' q (ofR s) (ofR t)) (hn:w'.cell? ⟨N,37,none⟩=some (.int .i64 ((qs.length:Int)+1))):Nd w' N P' id s t (qs++[q]):=by
 have hb:=hW.block h.blk
 have hA:Agr P w w':=hW.agr fun k=>hN (hPP _ k)
 have hc:∀j,j<13+qs.length*6→w'.cell? ⟨N,j,none⟩=w.cell? ⟨N,j,none⟩:=fun j hj=>hW.cell h.blk (Or.inl hj)
 refine ⟨hb,hN,hup,(hc 0 (by omega)).trans h.cid,(h.ts.keep hA fun j _ _=>hc j (by omega)).mono hPP,(h.tt.keep hA fun j _ _=>hc j (by omega)).mono hPP,by rw[hn];simp,by simp;omega,fun j hj=> ?_⟩
 rw[List.length_append,List.length_singleton] at hj
 rw[if_pos (by omega),if_pos (by omega)]
 by_cases e:j=qs.length
 ·subst e
  rw[List.getElem_append_right (Nat.le_refl _)]
  simpa using hv
 ·rw[List.getElem_append_left (by omega)]
  exact ((h.view (by omega)).keep hA hb.lt hb.fz fun i h1 h2=>hc i (by omega)).mono hPP
set_option maxRecDepth 100000 in
set_option maxHeartbeats 4000000 in
theorem watch_any {w:World} {N:Nat} {P:Nat→Prop} {id:Int} {s t:Tab} {qs:List (List Stp)} (h:Nd w N P id s t qs) (q:List Stp) (QA:Option Addr) (cq:Nat) (hl:q.length≤maxLen) (hq:Stps w QA q) :
  Calls Tryz.prog 13 #[.pointer (some ⟨N,0,none⟩),.slice QA q.length cq] w fun e w'=>e= .returned (.int .i64 (wtE q qs))∧Nd w' N (plusP P w.heap.size w'.heap.size) id s t (wtQ q qs)∧Wr N 13 38 w w':=by
 have mixed:Tryz.prog.follows .mixedOrders=true:=by kernel_rfl
 obtain ⟨A,ca,C,cc,hcs,hts⟩:=h.ts
 obtain ⟨B,cb,D,cd,hct,htt⟩:=h.tt
 have hH:Hid (Nd w N P id s t qs∧w.cell? ⟨N,37,none⟩=some (.int .i64 (qs.length:Int))∧TbC w N 1 s A ca C cc∧TbC w N 7 t B cb D cd∧TbP P w s A ca C cc∧TbP P w t B cb D cd∧N<w.heap.size∧qs.length≤4):=⟨h,h.cnt,hcs,hct,hts,htt,h.blk.lt,h.le⟩
 have hold:Hid (∀W,Below w.heap.size w W→Nd W N (plusP P w.heap.size W.heap.size) id s t qs∧Wr N 13 38 w W):=fun W hW=>by
  have hn:=hH.out.1.below hW
  exact ⟨hn.mono (fun b hb=>plusP.old b hb) (plus_out hH.out.1.out hH.out.1.blk.lt) (plus_up fun b hb=>hn.up b hb),Wr.of hW hH.out.1.blk.lt⟩
 clear h hcs hct hts htt
 by_cases he:errQ q=0
 rotate_left
 ·have hC0:=new_bad q QA cq w hl hq he
  obtain ⟨E,hE⟩:∃E,errQ q=E:=⟨_,rfl⟩
  have hfin:Hid (wtE q qs=E∧wtQ q qs=qs):=by
   have h1:wtE q qs=errQ q:=by unfold wtE;rw[if_neg he]
   exact ⟨h1.trans hE,by unfold wtQ;rw[h1,if_neg he]⟩
  rw[hE] at hC0 he
  have hE0:(E != 0)=true:=by simpa using he
  have hC:Hid _:=hC0
  clear hC0 hq hl he hE
  go_enter Tryz.func13,Tryz.ntmps13
  go_wp2_with fail
  refine Calls.mono (show Calls _ _ _ _ _ from hC.out) ?_
  rintro e w1 ⟨rfl,hb1⟩
  have hbH:Hid (Below w.heap.size w w1):=hb1
  clear hb1 hC
  go_wp2
  go_ret
  refine ⟨by rw[hfin.out.1];rfl,?_⟩
  rw[hfin.out.2]
  exact hold.out w1 hbH.out
 have hC0:=new_ok q QA cq w hl hq he
 have hC:Hid _:=hC0
 have heH:Hid (errQ q=0):=he
 clear hC0 hq hl he
 go_enter Tryz.func13,Tryz.ntmps13
 go_wp2_with fail
 refine Calls.mono (show Calls _ _ _ _ _ from hC.out) ?_
 rintro e w1 ⟨V,q',QB,cr,rfl,f1,f2,f3,f4⟩
 have hV:Hid (q'.map bare=q.map bare∧Vo w1 V 0 (fun b=>w.heap.size≤b∧b<V) q' QB cr [] none 0 [] none 0∧w.heap.size≤V∧Below w.heap.size w w1):=⟨f1,f2,f3,f4⟩
 clear f1 f2 f3 f4 hC
 have c37:=(hV.out.2.2.2.cell (p:=⟨N,37,none⟩) hH.out.2.2.2.2.2.2.1).trans hH.out.2.1
 by_cases h4:qs.length=4
 ·have h4z:((qs.length:Int)==4)=true:=by simp;omega
  have hfin:Hid (wtE q qs=2∧wtQ q qs=qs):=by
   have h1:wtE q qs=2:=by unfold wtE;rw[if_pos heH.out,if_pos h4]
   exact ⟨h1,by unfold wtQ;rw[h1,if_neg (by decide)]⟩
  clear h4
  go_wp2
  go_ret
  refine ⟨by rw[hfin.out.1];rfl,?_⟩
  rw[hfin.out.2]
  exact hold.out w1 hV.out.2.2.2
 have h4z:((qs.length:Int)==4)=false:=by simp;omega
 have h4H:Hid (qs.length<4):=by have:=hH.out.2.2.2.2.2.2.2;show _<_;omega
 have hfin:Hid (wtE q qs=0∧wtQ q qs=qs++[q]):=by
  have h1:wtE q qs=0:=by unfold wtE;rw[if_pos heH.out,if_neg h4]
  exact ⟨h1,by unfold wtQ;rw[h1,if_pos rfl]⟩
 clear h4
 have v0:=hV.out.2.1.c0
 have v1:=hV.out.2.1.c1
 have v2:=hV.out.2.1.c2
 go_upto_region 7 with fail
 obtain ⟨w2,hw2⟩:∃W,w1.alloc (.cells #[.slice QB q'.length cr,.slice none 0 0,.slice none 0 0,.slice none 0 0,.slice none 0 0,.int .i64 0] 74)=W:=⟨_,rfl⟩
 rw[hw2]
 have h2:Hid (Cls w2 w1.heap.size [.slice QB q'.length cr,.slice none 0 0,.slice none 0 0,.slice none 0 0,.slice none 0 0,.int .i64 0]∧Gr w1 w2∧Below w.heap.size w w2∧Blk w2 w1.heap.size 74 6):=by
  have hg:Gr w1 w2:=by rw[←hw2];exact (Gr.refl _).alloc _
  exact ⟨by rw[←hw2];exact Cls.new w1 _ _,hg,hV.out.2.2.2.trans (hg.below.mono hV.out.2.2.2.size),by rw[←hw2];exact ⟨_,(MapKept.heap_alloc _ _).1,rfl⟩⟩
 clear hw2 c37 v0 v1 v2
 have hlt:=hH.out.2.2.2.2.2.2.1
 have n1:=(h2.out.2.2.1.cell (p:=⟨N,1,none⟩) hlt).trans hH.out.2.2.1.k0
 have n2:=(h2.out.2.2.1.cell (p:=⟨N,2,none⟩) hlt).trans hH.out.2.2.1.k1
 have n3:=(h2.out.2.2.1.cell (p:=⟨N,3,none⟩) hlt).trans hH.out.2.2.1.k2
 have n4:=(h2.out.2.2.1.cell (p:=⟨N,4,none⟩) hlt).trans hH.out.2.2.1.k3
 have n5:=(h2.out.2.2.1.cell (p:=⟨N,5,none⟩) hlt).trans hH.out.2.2.1.k4
 have n6:=(h2.out.2.2.1.cell (p:=⟨N,6,none⟩) hlt).trans hH.out.2.2.1.k5
 have n7:=(h2.out.2.2.1.cell (p:=⟨N,7,none⟩) hlt).trans hH.out.2.2.2.1.k0
 have n8:=(h2.out.2.2.1.cell (p:=⟨N,8,none⟩) hlt).trans hH.out.2.2.2.1.k1
 have n9:=(h2.out.2.2.1.cell (p:=⟨N,9,none⟩) hlt).trans hH.out.2.2.2.1.k2
 have n10:=(h2.out.2.2.1.cell (p:=⟨N,10,none⟩) hlt).trans hH.out.2.2.2.1.k3
 have n11:=(h2.out.2.2.1.cell (p:=⟨N,11,none⟩) hlt).trans hH.out.2.2.2.1.k4
 have n12:=(h2.out.2.2.1.cell (p:=⟨N,12,none⟩) hlt).trans hH.out.2.2.2.1.k5
 have hS0:=setsOf_any s t A B C D ca cb cc cd w2 (hH.out.2.2.2.2.1.below h2.out.2.2.1) (hH.out.2.2.2.2.2.1.below h2.out.2.2.1)
 have hS:Hid _:=hS0
 clear hS0 hlt
 go_wp2_with fail
 clear n1 n2 n3 n4 n5 n6 n7 n8 n9 n10 n11 n12
 refine Calls.mono (show Calls _ _ _ _ _ from hS.out) ?_
 rintro e w3 ⟨L,M,X,Y,lk,mk,rfl,f1,f2,f3,f4,f5⟩
 have h3:Hid (L.map Itm.z=ofR s∧M.map Itm.z=ofR t∧LvP (fun b=>w2.heap.size≤b∧b<w3.heap.size) w3 X lk L∧LvP (fun b=>w2.heap.size≤b∧b<w3.heap.size) w3 Y mk M∧Below w2.heap.size w2 w3):=⟨f1,f2,f3,f4,f5⟩
 clear f1 f2 f3 f4 f5 hS
 have hVl:Hid (w.heap.size≤V∧V<w1.heap.size∧w1.heap.size<w2.heap.size):=⟨hV.out.2.2.1,hV.out.2.1.lt,h2.out.1.lt⟩
 have hT0:Calls Tryz.prog 27 #[.pointer (some ⟨w1.heap.size,0,none⟩),.agg #[.slice X L.length lk,.slice Y M.length mk]] w3 fun e w'=>e= .returned (.tuple #[])∧VwN w' w1.heap.size 0 (plusP (fun b=>w.heap.size≤b∧b<V) w3.heap.size w'.heap.size) q (ofR s) (ofR t)∧Wr w1.heap.size 0 (0+6) w3 w':=by
  have hC3:=h2.out.1.below h3.out.2.2.2.2
  have hb13:=h2.out.2.1.below.trans (h3.out.2.2.2.2.mono h2.out.2.1.size)
  have ts:=TS.of hH.out.2.2.2.2.1.ok
  have tt:=TS.of hH.out.2.2.2.2.2.1.ok
  have hvl:=hVl.out
  refine turn_any (h2.out.2.2.2.below h3.out.2.2.2.2) (fun h=>by omega) (fun h=>by omega) (k:=[]) (l:=[]) (z:=[]) (y:=[]) (e0:=0) ⟨q',QB,cr,[],none,0,[],none,0,[],none,0,[],none,0,⟨⟨hC3.lt,hC3.fz,hC3.cell rfl,hC3.cell rfl,hC3.cell rfl,hV.out.2.1.st.below hb13,hV.out.2.1.len,LvP.none _ _,LvP.none _ _⟩,hC3.cell rfl,hC3.cell rfl,hC3.cell rfl,LvP.none _ _,LvP.none _ _⟩,hV.out.1,rfl,rfl,rfl,rfl⟩ TS.nil TS.nil TS.nil TS.nil ts tt h3.out.2.2.1 h3.out.2.2.2.1 (by rw[h3.out.1,dif_none ts.ok]) (by rw[h3.out.2.1,dif_none tt.ok])
 have hT:Hid _:=hT0
 clear hT0
 go_wp2_with fail
 refine Calls.mono (show Calls _ _ _ _ _ from hT.out) ?_
 rintro e w4 ⟨rfl,f1,f2⟩
 obtain ⟨kk,ll,⟨q2,QC,cq2,a,PA,pca,b,PB,pcb,x,PX,pcx,u,PU,pcu,g1,g2⟩,g3⟩:=f1
 have h4:Hid (VwN w4 w1.heap.size 0 (plusP (fun b=>w.heap.size≤b∧b<V) w3.heap.size w4.heap.size) q (ofR s) (ofR t)∧Wr w1.heap.size 0 (0+6) w3 w4):=⟨⟨kk,ll,⟨q2,QC,cq2,a,PA,pca,b,PB,pcb,x,PX,pcx,u,PU,pcu,g1,g2⟩,g3⟩,f2⟩
 have c0:=g1.vo.c0
 have c1:=g1.vo.c1
 have c2:=g1.vo.c2
 have c3:=g1.c3
 have c4:=g1.c4
 have c5:=g1.c5
 have hbw:Hid (Below w.heap.size w w4∧Nd w4 N P id s t qs∧N<w.heap.size):=by
  have hb:=h2.out.2.2.1.trans (h3.out.2.2.2.2.mono h2.out.2.2.1.size)
  have hvl:=hVl.out
  have hb4:Below w.heap.size w w4:=⟨f2.os.trans hb.os,f2.tape.trans hb.tape,f2.output.trans hb.output,Nat.le_trans hb.size f2.size,fun g hg=>(f2.oth g (Nat.lt_of_lt_of_le hg hb.size) (by omega)).trans (hb.block g hg)⟩
  exact ⟨hb4,hH.out.1.below hb4,hH.out.2.2.2.2.2.2.1⟩
 clear f2 g1 g2 g3 hT
 have c37:=hbw.out.2.1.cnt
 have hb4:=hbw.out.2.1.blk
 obtain ⟨j,hj⟩:∃j,qs.length=j:=⟨_,rfl⟩
 have hjH:Hid (qs.length=j):=hj
 rw[hj] at c37
 have hj4:(j:Int)<4:=by have:=h4H.out;omega
 have hj4n:j<4:=by have:=h4H.out;omega
 obtain ⟨ov0,o0⟩:=hb4.some (j:=13+j*6) (by omega)
 have zz0:=hb4.fz (13+j*6)
 obtain ⟨ov1,o1⟩:=hb4.some (j:=13+j*6+1) (by omega)
 have zz1:=hb4.fz (13+j*6+1)
 obtain ⟨ov2,o2⟩:=hb4.some (j:=13+j*6+2) (by omega)
 have zz2:=hb4.fz (13+j*6+2)
 obtain ⟨ov3,o3⟩:=hb4.some (j:=13+j*6+3) (by omega)
 have zz3:=hb4.fz (13+j*6+3)
 obtain ⟨ov4,o4⟩:=hb4.some (j:=13+j*6+4) (by omega)
 have zz4:=hb4.fz (13+j*6+4)
 obtain ⟨ov5,o5⟩:=hb4.some (j:=13+j*6+5) (by omega)
 have zz5:=hb4.fz (13+j*6+5)
 have z37:=hb4.fz 37
 have hbl:Hid (Blk w4 N 77 38):=hb4
 clear hj hb4
 go_wp2
 go_region
 all_goals
  obtain ⟨w5,hw5⟩:∃W,((((((w4.setCell ⟨N,13+j*6,none⟩ (.slice QC q2.length cq2)).setCell ⟨N,13+j*6+1,none⟩ (.slice PA a.length pca)).setCell ⟨N,13+j*6+2,none⟩ (.slice PB b.length pcb)).setCell ⟨N,13+j*6+3,none⟩ (.slice PX x.length pcx)).setCell ⟨N,13+j*6+4,none⟩ (.slice PU u.length pcu)).setCell ⟨N,13+j*6+5,none⟩ (.int .i64 (plnE q (ofR s) (ofR t))))=W:=⟨_,rfl⟩
  rw[hw5]
  have h5:Hid (Wr N (13+j*6) (13+j*6+6) w4 w5∧(∀i v,[.slice QC q2.length cq2,.slice PA a.length pca,.slice PB b.length pcb,.slice PX x.length pcx,.slice PU u.length pcu,.int .i64 (plnE q (ofR s) (ofR t))][i]? = some v→w5.cell? ⟨N,13+j*6+i,none⟩=some v)∧w5.heap.size=w4.heap.size):=by
   have hw5':setAll N w4 (13+j*6) [.slice QC q2.length cq2,.slice PA a.length pca,.slice PB b.length pcb,.slice PX x.length pcx,.slice PU u.length pcu,.int .i64 (plnE q (ofR s) (ofR t))]=w5:=hw5
   refine ⟨by rw[←hw5'];exact setAll_wr N _ w4 _ _ _ (Nat.le_refl _) (Nat.le_refl _),fun i v hv=> ?_,by rw[←hw5'];exact setAll_size _ _ _ _⟩
   rw[←hw5']
   exact setAll_cell _ w4 _ hbl.out (by show 13+j*6+6≤38;omega) i v hv
  clear hw5 o0 zz0 o1 zz1 o2 zz2 o3 zz3 o4 zz4 o5 zz5
  have d37:=(h5.out.1.cell hbl.out (j:=37) (Or.inr (by omega))).trans c37
  have y37:=(h5.out.1.block hbl.out).fz 37
  go_wp2
  go_ret
  have h6:Nd (w5.setCell ⟨N,37,none⟩ (.int .i64 ((j:Int)+1))) N (plusP P w.heap.size (w5.setCell ⟨N,37,none⟩ (.int .i64 ((j:Int)+1))).heap.size) id s t (qs++[q]):=by
   have hj:=hjH.out
   have hsz:=h5.out.2.2
   have hvl:=hVl.out
   have hNw:=hbw.out.2.2
   have hs4:=h4.out.2.size
   have hs3:=h3.out.2.2.2.2.size
   have hwN:Wr N (13+qs.length*6) 38 w4 (w5.setCell ⟨N,37,none⟩ (.int .i64 ((j:Int)+1))):=by
    rw[hj]
    exact (h5.out.1.mono (Nat.le_refl _) (by omega)).trans (Wr.set _ _ (by omega) (by omega))
   have hNP:¬plusP P w.heap.size (w5.setCell ⟨N,37,none⟩ (.int .i64 ((j:Int)+1))).heap.size N:=plus_out hH.out.1.out hNw
   have hPv:∀b,plusP (fun b=>w.heap.size≤b∧b<V) w3.heap.size w4.heap.size b→plusP P w.heap.size (w5.setCell ⟨N,37,none⟩ (.int .i64 ((j:Int)+1))).heap.size b:=fun b hb=>by
    have hz:(w5.setCell ⟨N,37,none⟩ (.int .i64 ((j:Int)+1))).heap.size=w4.heap.size:=by simp[hsz]
    rw[hz]
    rcases hb with hb|hb
    ·exact Or.inr ⟨hb.1,by omega⟩
    ·exact Or.inr ⟨by omega,hb.2⟩
   refine Nd.more hbw.out.2.1 h4H.out (fun b hb=>plusP.old b hb) hNP (plus_up fun b hb=> ?_) hwN ?_ ?_
   ·have:=hbw.out.2.1.up b hb
    simp[hsz];omega
   ·rw[hj]
    have hb5:=hwN.block hbw.out.2.1.blk
    refine (h4.out.1.move (w':=w5.setCell ⟨N,37,none⟩ (.int .i64 ((j:Int)+1))) (N:=N) (o':=13+j*6) (hwN.agr fun h=>hNP (hPv _ h)) hb5.lt hb5.fz fun i hi=> ?_).mono hPv
    rw[cell_oth (by omega)]
    match i,hi with
    | 0,_=>exact (h5.out.2.1 0 _ rfl).trans c0.symm
    | 1,_=>exact (h5.out.2.1 1 _ rfl).trans c1.symm
    | 2,_=>exact (h5.out.2.1 2 _ rfl).trans c2.symm
    | 3,_=>exact (h5.out.2.1 3 _ rfl).trans c3.symm
    | 4,_=>exact (h5.out.2.1 4 _ rfl).trans c4.symm
    | 5,_=>exact (h5.out.2.1 5 _ rfl).trans c5.symm
   ·rw[World.cell?_setCell_same _ _ _ d37,hj]
  have h7:Wr N 13 38 w (w5.setCell ⟨N,37,none⟩ (.int .i64 ((j:Int)+1))):=(Wr.of hbw.out.1 hbw.out.2.2).trans ((h5.out.1.mono (by omega) (by omega)).trans (Wr.set _ _ (by omega) (by omega)))
  refine ⟨by rw[hfin.out.1];rfl,?_,h7.trans (Wr.of (Gr.refl _).drew.below h6.blk.lt)⟩
  rw[hfin.out.2]
  exact h6.below (Gr.refl _).drew.below
end Go.Proofs.YtkadjjmkokhldaaGreat
