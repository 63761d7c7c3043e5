/-
  The law NodesOwn.
-/
import Derived.Test.YtkadjjmkokhldaaGreatM46
namespace Go.Proofs.YtkadjjmkokhldaaGreat
open Go.RowKit Go.Sort Go.Maps

set_option maxRecDepth 100000 in
set_option maxHeartbeats 8000000 in
theorem nodesOwn_any (l:List Actm) (LA:Option Addr) (lc:Nat) (w:World) (hA:Acts w LA l) (hW:∀x∈l,ActW x) :
  Calls Tryz.prog 3 #[.slice LA l.length lc] w fun e w'=>e= .returned (.bool true)∧Below w.heap.size w w':=by
 have mixed:Tryz.prog.follows .mixedOrders=true:=by kernel_rfl
 have hAH:Hid (Acts w LA l∧∀x∈l,ActW x):=⟨hA,hW⟩
 clear hA hW
 have hC0:=newN_any w 2 (by omega) (by omega)
 have hC:Hid _:=hC0
 clear hC0
 go_enter Tryz.func3,Tryz.ntmps3
 go_wp2_with fail
 refine Calls.mono (show Calls _ _ _ _ _ from hC.out) ?_
 rintro e w1 ⟨rfl,f1,f2⟩
 have h1:Hid (Nd w1 w.heap.size (fun _=>False) 2 noneT noneT []∧Below w.heap.size w w1):=⟨f1,f2⟩
 clear f1 f2 hC
 have hC0:=newN_any w1 2 (by omega) (by omega)
 have hC:Hid _:=hC0
 clear hC0
 go_wp2_with fail
 refine Calls.mono (show Calls _ _ _ _ _ from hC.out) ?_
 rintro e w2 ⟨rfl,f1,f2⟩
 have h2:Hid (Twn w w2 w.heap.size w1.heap.size noneT noneT [] noneT noneT [] w2.heap.size w2.heap.size):=by
  have hk:=h1.out.1.below f2
  have hl:=h1.out.1.blk.lt
  exact ⟨⟨_,_,hk,f1,id,id,fun b h=>h.elim,fun b h=>h.elim⟩,h1.out.2.trans (f2.mono h1.out.2.size),Nat.le_refl _,h1.out.2.size,by omega,hk.blk.lt,f1.blk.lt⟩
 clear f1 f2 hC h1
 generalize w1.heap.size=M at h2 ⊢
 generalize hNN:w.heap.size=N at h2 ⊢
 have hN:Hid (w.heap.size=N):=hNN
 clear hNN
 have hC0:=doTw h2.out (Nat.le_refl _) 1 0 1 0 0
 rw[first_two.1,first_two.2.1,first_two.2.2] at hC0
 have hC:Hid _:=hC0
 clear hC0
 go_wp2_with fail
 refine Calls.mono (show Calls _ _ _ _ _ from hC.out) ?_
 rintro e w3 ⟨rfl,f1,f2⟩
 have h3:Hid (Twn w w3 N M twoT noneT [] noneT noneT [] w2.heap.size w2.heap.size):=f1
 have h3s:Hid (w2.heap.size≤w3.heap.size):=f2.size
 clear f1 f2 hC h2
 have hC0:=viewsTw h3.out
 rw[show ((([]:List (List Stp)).length:Nat):Int)=0 from rfl] at hC0
 have hC:Hid _:=hC0
 clear hC0
 go_wp2_with fail
 refine Calls.mono (show Calls _ _ _ _ _ from hC.out) ?_
 rintro e w3' ⟨rfl,hw3⟩
 subst hw3
 clear hC
 have hC0:=wholeTw h3.out
 rw[show twoT.e.length=1 from rfl] at hC0
 have hC:Hid _:=hC0
 clear hC0
 go_wp2_with fail
 refine Calls.mono (show Calls _ _ _ _ _ from hC.out) ?_
 rintro e w4 ⟨EA,eca,EC,ecc,EB,ecb,ED,ecd,rfl,_,_,f1⟩
 obtain ⟨w5,hw5⟩:∃W,w4.alloc (.cells #[.int .i64 twoT.c.c0,.int .i64 twoT.c.c1,.int .i64 twoT.c.c2,.int .i64 twoT.c.c3,.slice EA twoT.c.l.length eca,.slice EC 1 ecc,.int .i64 noneT.c.c0,.int .i64 noneT.c.c1,.int .i64 noneT.c.c2,.int .i64 noneT.c.c3,.slice EB noneT.c.l.length ecb,.slice ED noneT.e.length ecd] 40)=W:=⟨_,rfl⟩
 have h5:Hid (Twn w w5 N M twoT noneT [] noneT noneT [] w2.heap.size w2.heap.size∧w2.heap.size≤w5.heap.size∧w5.cell? ⟨w4.heap.size,5,none⟩=some (.slice EC 1 ecc)):=by
  have hg:Gr w4 w5:=by rw[←hw5];exact (Gr.refl _).alloc _
  have hb:=f1.trans (hg.below.mono f1.size)
  refine ⟨h3.out.below hb,Nat.le_trans h3s.out hb.size,?_⟩
  rw[←hw5]
  exact (Cls.new w4 _ _).cell (j:=5) rfl
 have t5:=h5.out.2.2
 clear f1 hC h3 h3s
 by_cases h60:60<l.length
 ·have h60z:60<(l.length:Int):=by omega
  go_wp2
  go_ret
  exact ⟨rfl,h5.out.1.bel⟩
 have h60z:¬ 60<(l.length:Int):=by omega
 have hC0:=doTw h5.out.1.swap h5.out.2.1 1 0 1 0 0
 rw[first_two.1,first_two.2.1,first_two.2.2] at hC0
 have hC:Hid _:=hC0
 clear hC0
 go_wp2_with fail
 refine Calls.mono (show Calls _ _ _ _ _ from hC.out) ?_
 rintro e w6 ⟨rfl,f1,f2⟩
 have h6:Hid (Twn w w6 N M twoT noneT [] twoT noneT [] w2.heap.size w2.heap.size):=f1.swap
 clear f1 f2 hC h5 t5
 generalize w2.heap.size=m0 at h6
 have hl60:l.length≤60:=by omega
 clear h60 h60z hw5
 go_wp2
 go_loopw [74] (fun i wr=>∃(k:Nat) (s t:Tab) (qs:List (List Stp)) (n0 n1:Nat),k≤l.length∧i= .int .i64 k∧Hid (Twn w wr N M s t qs s t qs n0 n1)) (fun i _=>l.length-(intOf i).toNat)
 case atStart=>exact ⟨0,twoT,noneT,[],m0,m0,Nat.zero_le _,rfl,h6⟩
 case round=>as_aux_lemma =>
  clear h6
  obtain ⟨k,s,t,qs,n00,n11,hk,rfl,hR⟩:=hrel
  by_cases hlt:k<l.length
  ·have hltz:(k:Int)<(l.length:Int):=by omega

   obtain ⟨bb,off,rfl,hb,hcs⟩:=(hAH.out.1.below hR.out.bel).at hlt
   obtain ⟨x,hx⟩:∃x,l[k]=x:=⟨_,rfl⟩
   have hxm:Hid (ActIn w x∧ActW x):=by
    rw[←hx]
    exact ⟨hAH.out.1.each _ (List.getElem_mem hlt),hAH.out.2 _ (List.getElem_mem hlt)⟩
   rw[hx] at hcs
   have hld:Hid (wr.rangeAt bb (off+k*19) [.int .i64 x.k,.int .i64 x.x1,.int .i64 x.x2,.int .i64 x.x3,.int .i64 x.x4,.int .i64 x.x5,.int .i64 x.a.c.c0,.int .i64 x.a.c.c1,.int .i64 x.a.c.c2,.int .i64 x.a.c.c3,.slice x.A x.a.c.l.length x.ca,.slice x.C x.a.e.length x.cc,.int .i64 x.b.c.c0,.int .i64 x.b.c.c1,.int .i64 x.b.c.c2,.int .i64 x.b.c.c3,.slice x.B x.b.c.l.length x.cb,.slice x.D x.b.e.length x.cd,.slice x.Q x.q.length x.cq]):=fun j v hv=>(hcs j (by have:=(List.getElem?_eq_some_iff.1 hv).1;simpa using this)).trans hv
   clear hcs hx hb
   have hth:Hid ((wr.alloc (.cells #[.int .i64 0,.int .i64 0,.int .i64 0,.int .i64 0,.int .i64 0,.int .i64 0,.int .i64 0,.int .i64 0,.int .i64 0,.int .i64 0,.slice none 0 0,.slice none 0 0,.int .i64 0,.int .i64 0,.int .i64 0,.int .i64 0,.slice none 0 0,.slice none 0 0,.slice none 0 0] 44)).there wr.heap.size 0 (#[.int .i64 x.k,.int .i64 x.x1,.int .i64 x.x2,.int .i64 x.x3,.int .i64 x.x4,.int .i64 x.x5,.int .i64 x.a.c.c0,.int .i64 x.a.c.c1,.int .i64 x.a.c.c2,.int .i64 x.a.c.c3,.slice x.A x.a.c.l.length x.ca,.slice x.C x.a.e.length x.cc,.int .i64 x.b.c.c0,.int .i64 x.b.c.c1,.int .i64 x.b.c.c2,.int .i64 x.b.c.c3,.slice x.B x.b.c.l.length x.cb,.slice x.D x.b.e.length x.cd,.slice x.Q x.q.length x.cq]:Array Value).size):=fun j hj=>by
    have hC:=Cls.new wr #[.int .i64 0,.int .i64 0,.int .i64 0,.int .i64 0,.int .i64 0,.int .i64 0,.int .i64 0,.int .i64 0,.int .i64 0,.int .i64 0,.slice none 0 0,.slice none 0 0,.int .i64 0,.int .i64 0,.int .i64 0,.int .i64 0,.slice none 0 0,.slice none 0 0,.slice none 0 0] 44
    have hjl:j<([.int .i64 0,.int .i64 0,.int .i64 0,.int .i64 0,.int .i64 0,.int .i64 0,.int .i64 0,.int .i64 0,.int .i64 0,.int .i64 0,.slice none 0 0,.slice none 0 0,.int .i64 0,.int .i64 0,.int .i64 0,.int .i64 0,.slice none 0 0,.slice none 0 0,.slice none 0 0]:List Value).length:=hj
    rw[Nat.zero_add,hC.cell (List.getElem?_eq_getElem hjl)]
    exact ⟨rfl,hC.fz j⟩
   have hone:Hid ((#[.int .i64 x.k,.int .i64 x.x1,.int .i64 x.x2,.int .i64 x.x3,.int .i64 x.x4,.int .i64 x.x5,.int .i64 x.a.c.c0,.int .i64 x.a.c.c1,.int .i64 x.a.c.c2,.int .i64 x.a.c.c3,.slice x.A x.a.c.l.length x.ca,.slice x.C x.a.e.length x.cc,.int .i64 x.b.c.c0,.int .i64 x.b.c.c1,.int .i64 x.b.c.c2,.int .i64 x.b.c.c3,.slice x.B x.b.c.l.length x.cb,.slice x.D x.b.e.length x.cd,.slice x.Q x.q.length x.cq]:Array Value).all (·.oneCell')=true):=all_oneCell_toArray (encA_one x)
   go_upto_region 12 with (first
    | (with_reducible refine wpList_load_mid rfl 44 (.tmp 76) rfl bb (off+k*19) rfl [.int .i64 x.k,.int .i64 x.x1,.int .i64 x.x2,.int .i64 x.x3,.int .i64 x.x4,.int .i64 x.x5,.int .i64 x.a.c.c0,.int .i64 x.a.c.c1,.int .i64 x.a.c.c2,.int .i64 x.a.c.c3,.slice x.A x.a.c.l.length x.ca,.slice x.C x.a.e.length x.cc,.int .i64 x.b.c.c0,.int .i64 x.b.c.c1,.int .i64 x.b.c.c2,.int .i64 x.b.c.c3,.slice x.B x.b.c.l.length x.cb,.slice x.D x.b.e.length x.cd,.slice x.Q x.q.length x.cq] _ hld.out Tryz.underlying44 rfl (by kernel_rfl) ?_)
    | (with_reducible refine wpList_store_mid rfl 44 (.tmp 9) (.tmp 77) rfl wr.heap.size 0 #[.int .i64 x.k,.int .i64 x.x1,.int .i64 x.x2,.int .i64 x.x3,.int .i64 x.x4,.int .i64 x.x5,.int .i64 x.a.c.c0,.int .i64 x.a.c.c1,.int .i64 x.a.c.c2,.int .i64 x.a.c.c3,.slice x.A x.a.c.l.length x.ca,.slice x.C x.a.e.length x.cc,.int .i64 x.b.c.c0,.int .i64 x.b.c.c1,.int .i64 x.b.c.c2,.int .i64 x.b.c.c3,.slice x.B x.b.c.l.length x.cb,.slice x.D x.b.e.length x.cd,.slice x.Q x.q.length x.cq] rfl rfl hth.out (by kernel_rfl) hone.out ?_))
   have hal:=alloc_sets 44 wr [.int .i64 x.k,.int .i64 x.x1,.int .i64 x.x2,.int .i64 x.x3,.int .i64 x.x4,.int .i64 x.x5,.int .i64 x.a.c.c0,.int .i64 x.a.c.c1,.int .i64 x.a.c.c2,.int .i64 x.a.c.c3,.slice x.A x.a.c.l.length x.ca,.slice x.C x.a.e.length x.cc,.int .i64 x.b.c.c0,.int .i64 x.b.c.c1,.int .i64 x.b.c.c2,.int .i64 x.b.c.c3,.slice x.B x.b.c.l.length x.cb,.slice x.D x.b.e.length x.cd,.slice x.Q x.q.length x.cq] [] [.int .i64 0,.int .i64 0,.int .i64 0,.int .i64 0,.int .i64 0,.int .i64 0,.int .i64 0,.int .i64 0,.int .i64 0,.int .i64 0,.slice none 0 0,.slice none 0 0,.int .i64 0,.int .i64 0,.int .i64 0,.int .i64 0,.slice none 0 0,.slice none 0 0,.slice none 0 0] rfl
   simp only[List.nil_append,List.length_nil] at hal
   obtain ⟨wa,hwa⟩:∃W,wr.alloc (.cells #[.int .i64 x.k,.int .i64 x.x1,.int .i64 x.x2,.int .i64 x.x3,.int .i64 x.x4,.int .i64 x.x5,.int .i64 x.a.c.c0,.int .i64 x.a.c.c1,.int .i64 x.a.c.c2,.int .i64 x.a.c.c3,.slice x.A x.a.c.l.length x.ca,.slice x.C x.a.e.length x.cc,.int .i64 x.b.c.c0,.int .i64 x.b.c.c1,.int .i64 x.b.c.c2,.int .i64 x.b.c.c3,.slice x.B x.b.c.l.length x.cb,.slice x.D x.b.e.length x.cd,.slice x.Q x.q.length x.cq] 44)=W:=⟨_,rfl⟩
   rw[hal,hwa]
   clear hal hth hone
   have hB:Hid ((∀m,Twn w wa N M s t qs s t qs wr.heap.size m)∧Cl 44 wa wr.heap.size (encA x)):=by
    have hg:Gr wr wa:=by rw[←hwa];exact (Gr.refl _).alloc _
    exact ⟨fun m=>(hR.out.again m).below hg.below,by rw[←hwa];exact Cl.new wr _ _⟩
   clear hwa hR hld
   generalize wr.heap.size=n0 at hB ⊢
   have a18:=hB.out.2.cell (j:=18) (v:= .slice x.Q x.q.length x.cq) rfl
   have hC0:=cloneQ_any x.q x.Q x.cq wa hxm.out.2.wq ((hxm.out.1.below (hB.out.1 0).bel).st.row) hxm.out.1.nq
   have hC:Hid _:=hC0
   clear hC0
   go_wp2_with fail
   refine Calls.mono (show Calls _ _ _ _ _ from hC.out) ?_
   rintro e wb ⟨Q,cq,rfl,f1,f2⟩
   have hD:Hid (Cop w wb N M s t qs n0 x x.q Q cq 0):=by
    have hT:=fun m=>(hB.out.1 m).below f2
    have hw0:=(hB.out.1 0).hN
    have hw1:=(hB.out.1 0).lN
    exact ⟨hT,hB.out.2.below f2,QI.start hxm.out.1.st hxm.out.2.wl (by omega) (hT 0).bel (Nat.le_of_lt hB.out.2.lt) f1⟩
   clear f1 f2 hC hB a18
   have hql:x.q.length≤maxLen:=hxm.out.1.lq
   unfold maxLen at hql
   go_wp2
   go_loopw [83] (fun i wr=>∃(j:Nat) (q':List Stp),j≤x.q.length∧i= .int .i64 j∧Hid (Cop w wr N M s t qs n0 x q' Q cq j)) (fun i _=>x.q.length-(intOf i).toNat)
   case atStart=>exact ⟨0,x.q,Nat.zero_le _,rfl,hD⟩
   case round=>as_aux_lemma =>
    clear hD
    rename World=>wy
    obtain ⟨j,q',hj,rfl,hR⟩:=hrel
    by_cases hjl:j<x.q.length
    ·have hjz:(j:Int)<(x.q.length:Int):=by omega
     have hjl':j<q'.length:=by rw[hR.out.qi.len];exact hjl
     obtain ⟨b,off',hQ,_,hcs⟩:=hR.out.qi.row.at hjl'
     subst hQ
     obtain ⟨_,ho0,_,_,cur,hcur0,hsz⟩:=hR.out.qi.rs.2.2 _ rfl
     simp only at ho0
     subst ho0
     have hcur:wy.heap[b]? = some (.cells cur 48 (0,0)):=hcur0
     obtain ⟨y,hy⟩:∃y,q'[j]=y:=⟨_,rfl⟩
     have c6:wy.cell? ⟨b,j*7+6,none⟩=some (.slice y.p y.l.length y.n):=by
      have:=hcs j hjl' 6 (by omega)
      rw[hy,show 0+j*7+6=j*7+6 by omega] at this
      exact this
     have hblt:b<wy.heap.size:=(Array.getElem?_eq_some_iff.1 hcur).1
     have hwt:=hR.out.qi.wt y (by rw[←hy];exact List.getElem_mem hjl')
     have hrow:RowI wy y.p y.l:=by rw[←hy];exact (hR.out.qi.old j hjl' (Nat.le_refl _)).1
     have hC0:=cloneN_any y.l y.p y.n wy hwt.1 hrow hwt.2.2
     have hC:Hid _:=hC0
     clear hC0 hcs hcur0 hsz hwt hrow
     have hyH:Hid (q'[j]=y∧wy.heap[b]? = some (.cells cur 48 (0,0))∧b<wy.heap.size):=⟨hy,hcur,hblt⟩
     clear hy hcur hblt
     go_wp2_with fail
     refine Calls.mono (show Calls _ _ _ _ _ from hC.out) ?_
     rintro e w1 ⟨C,cc,rfl,f1,f2⟩
     have d6:w1.cell? ⟨b,j*7+6,none⟩=some (.slice y.p y.l.length y.n):=(f2.cell (p:=⟨b,j*7+6,none⟩) hyH.out.2.2).trans c6
     have df:w1.frozen? ⟨b,j*7+6,none⟩=false:=frozen_heap ((f2.block b hyH.out.2.2).trans hyH.out.2.1) _
     have hfin:Hid (Cop w (w1.setCell ⟨b,j*7+6,none⟩ (.slice C y.l.length cc)) N M s t qs n0 x (q'.set j { q'[j] with p:=C,n:=cc }) (some ⟨b,0,none⟩) cq (j+1)):=by
      have h1:=hyH.out.1
      have h2:=hR.out.step hjl' (C:=C) (cc:=cc) f2 (by rw[h1];exact f1)
      rw[h1] at h2 ⊢
      exact h2
     clear f1 f2 hC c6 hR
     go_wp2
     go_roundw
     case rel=>exact ⟨j+1,_,by omega,by go_num,hfin⟩
     case measure=>simp[intOf];omega
    ·have hjz:¬(j:Int)<(x.q.length:Int):=by omega
     obtain rfl:j=x.q.length:=by omega
     clear hj hjl
     as_aux_lemma =>
     obtain ⟨wz,hwz⟩:∃W,wy.alloc (.cells #[.int .i64 0,.int .i64 0,.int .i64 0,.int .i64 0,.slice none 0 0,.slice none 0 0,.int .i64 0,.int .i64 0,.int .i64 0,.int .i64 0,.slice none 0 0,.slice none 0 0] 40)=W:=⟨_,rfl⟩
     have hE:Hid (Cop w wz N M s t qs n0 x q' Q cq x.q.length∧Cl 40 wz wy.heap.size [.int .i64 0,.int .i64 0,.int .i64 0,.int .i64 0,.slice none 0 0,.slice none 0 0,.int .i64 0,.int .i64 0,.int .i64 0,.int .i64 0,.slice none 0 0,.slice none 0 0]∧n0<wy.heap.size):=by
      have hg:Gr wy wz:=by rw[←hwz];exact (Gr.refl _).alloc _
      exact ⟨hR.out.below hg.below,by rw[←hwz];exact Cl.new wy _ _,hR.out.le⟩
     have a6:=hE.out.1.cx.cell (j:=6) (v:= .int .i64 x.a.c.c0) rfl
     have a7:=hE.out.1.cx.cell (j:=7) (v:= .int .i64 x.a.c.c1) rfl
     have a8:=hE.out.1.cx.cell (j:=8) (v:= .int .i64 x.a.c.c2) rfl
     have a9:=hE.out.1.cx.cell (j:=9) (v:= .int .i64 x.a.c.c3) rfl
     have a10:=hE.out.1.cx.cell (j:=10) (v:= .slice x.A x.a.c.l.length x.ca) rfl
     have a11:=hE.out.1.cx.cell (j:=11) (v:= .slice x.C x.a.e.length x.cc) rfl
     have a12:=hE.out.1.cx.cell (j:=12) (v:= .int .i64 x.b.c.c0) rfl
     have a13:=hE.out.1.cx.cell (j:=13) (v:= .int .i64 x.b.c.c1) rfl
     have a14:=hE.out.1.cx.cell (j:=14) (v:= .int .i64 x.b.c.c2) rfl
     have a15:=hE.out.1.cx.cell (j:=15) (v:= .int .i64 x.b.c.c3) rfl
     have a16:=hE.out.1.cx.cell (j:=16) (v:= .slice x.B x.b.c.l.length x.cb) rfl
     have a17:=hE.out.1.cx.cell (j:=17) (v:= .slice x.D x.b.e.length x.cd) rfl
     have hx0:=idxT0 (.int .i64 x.a.c.c0) (.int .i64 x.a.c.c1) (.int .i64 x.a.c.c2) (.int .i64 x.a.c.c3) (.slice x.A x.a.c.l.length x.ca) (.slice x.C x.a.e.length x.cc) (.int .i64 x.b.c.c0) (.int .i64 x.b.c.c1) (.int .i64 x.b.c.c2) (.int .i64 x.b.c.c3) (.slice x.B x.b.c.l.length x.cb) (.slice x.D x.b.e.length x.cd)
     have hx1:=idxT1 (.int .i64 x.a.c.c0) (.int .i64 x.a.c.c1) (.int .i64 x.a.c.c2) (.int .i64 x.a.c.c3) (.slice x.A x.a.c.l.length x.ca) (.slice x.C x.a.e.length x.cc) (.int .i64 x.b.c.c0) (.int .i64 x.b.c.c1) (.int .i64 x.b.c.c2) (.int .i64 x.b.c.c3) (.slice x.B x.b.c.l.length x.cb) (.slice x.D x.b.e.length x.cd)
     clear hR
     go_wp2
     clear hwz
     generalize wy.heap.size=PB at hE ⊢
     clear a6 a7 a8 a9 a10 a11 a12 a13 a14 a15 a16 a17
     refine wp_loop_rounds 3 ?_
     rw[rounds_succ]
     go_upto_region 22 with fail
     obtain ⟨wb0,hwb⟩:∃W,wz.alloc (.cells #[.int .i64 x.a.c.c0,.int .i64 x.a.c.c1,.int .i64 x.a.c.c2,.int .i64 x.a.c.c3,.slice x.A x.a.c.l.length x.ca,.slice x.C x.a.e.length x.cc] 37)=W:=⟨_,rfl⟩
     rw[hwb]
     have hA:Hid (Gr wz wb0∧Cop w wb0 N M s t qs n0 x q' Q cq x.q.length∧Cls wb0 wz.heap.size [.int .i64 x.a.c.c0,.int .i64 x.a.c.c1,.int .i64 x.a.c.c2,.int .i64 x.a.c.c3,.slice x.A x.a.c.l.length x.ca,.slice x.C x.a.e.length x.cc]∧Cl 40 wb0 PB [.int .i64 0,.int .i64 0,.int .i64 0,.int .i64 0,.slice none 0 0,.slice none 0 0,.int .i64 0,.int .i64 0,.int .i64 0,.int .i64 0,.slice none 0 0,.slice none 0 0]∧PB<wz.heap.size∧wz.heap.size<wb0.heap.size):=by
      have hg:Gr wz wb0:=by rw[←hwb];exact (Gr.refl _).alloc _
      exact ⟨hg,hE.out.1.below hg.below,by rw[←hwb];exact Cls.new wz _ _,hE.out.2.1.below hg.below,hE.out.2.1.lt,by rw[←hwb];simp⟩
     clear hwb
     have hD0:Hid (Below wb0.heap.size wb0 wb0.drew):=(Gr.refl wb0).drew.below
     have hCc:Hid (∀W,Below wb0.heap.size wb0 W→Calls Tryz.prog 10 #[.slice x.A x.a.c.l.length x.ca] W fun e w'=>∃B cb,e= .returned (.slice B x.a.c.l.length cb)∧Own w' W.heap.size (.slice B x.a.c.l.length cb) x.a.c.l∧Below W.heap.size W w'):=fun W hW=>by
      have hr:=hxm.out.1.below ((hA.out.2.1.two 0).bel.trans (hW.mono (hA.out.2.1.two 0).bel.size))
      exact cloneD_any x.a.c.l x.A x.ca W hxm.out.2.wa hr.ra hr.na
     have hCl:Hid (∀W,Below wb0.heap.size wb0 W→Calls Tryz.prog 11 #[.slice x.C x.a.e.length x.cc] W fun e w'=>∃C c,e= .returned (.slice C x.a.e.length c)∧OwnC w' W.heap.size (.slice C x.a.e.length c) x.a.e∧Below W.heap.size W w'):=fun W hW=>by
      have hr:=hxm.out.1.below ((hA.out.2.1.two 0).bel.trans (hW.mono (hA.out.2.1.two 0).bel.size))
      exact cloneC_any x.a.e x.C x.cc W hxm.out.2.wc hr.rc hr.nc
     have hKc:Hid (∀W,Cls W wz.heap.size [.int .i64 x.a.c.c0,.int .i64 x.a.c.c1,.int .i64 x.a.c.c2,.int .i64 x.a.c.c3,.slice x.A x.a.c.l.length x.ca,.slice x.C x.a.e.length x.cc]→(fun w'=>w'.cell? ⟨wz.heap.size,0,none⟩=some (.int .i64 x.a.c.c0)∧w'.cell? ⟨wz.heap.size,1,none⟩=some (.int .i64 x.a.c.c1)∧w'.cell? ⟨wz.heap.size,2,none⟩=some (.int .i64 x.a.c.c2)∧w'.cell? ⟨wz.heap.size,3,none⟩=some (.int .i64 x.a.c.c3)∧w'.cell? ⟨wz.heap.size,4,none⟩=some (.slice x.A x.a.c.l.length x.ca)∧w'.cell? ⟨wz.heap.size,5,none⟩=some (.slice x.C x.a.e.length x.cc)) W):=fun W hW=>⟨hW.cell (j:=0) rfl,hW.cell (j:=1) rfl,hW.cell (j:=2) rfl,hW.cell (j:=3) rfl,hW.cell (j:=4) rfl,hW.cell (j:=5) rfl⟩
     have hne:Hid (wz.heap.size≠PB):=by have:=hA.out.2.2.2.2.1;show _≠_;omega
     refine wp_region_noPanic ?_
     refine wp_region_held_drew (S:=(fun w'=>w'.cell? ⟨wz.heap.size,0,none⟩=some (.int .i64 x.a.c.c0)∧w'.cell? ⟨wz.heap.size,1,none⟩=some (.int .i64 x.a.c.c1)∧w'.cell? ⟨wz.heap.size,2,none⟩=some (.int .i64 x.a.c.c2)∧w'.cell? ⟨wz.heap.size,3,none⟩=some (.int .i64 x.a.c.c3)∧w'.cell? ⟨wz.heap.size,4,none⟩=some (.slice x.A x.a.c.l.length x.ca)∧w'.cell? ⟨wz.heap.size,5,none⟩=some (.slice x.C x.a.e.length x.cc))) (by kernel_rfl) (hKc.out _ (hA.out.2.2.1.below hD0.out)) (fun hHeld=> ?_)
     refine wpAnyH_take (i:=0) (oi:= ?ois01) (v:= ?vs01) ?hops01 ?hss01 ?hfs01 ?hrs01 ?hQs01 ?hys01 (by assumption) ?rests01
     case hops01=>(simp only[List.getElem?_toArray,List.getElem?_cons_zero];rfl)
     case hss01=>kernel_rfl
     case hfs01=>kernel_rfl
     case hrs01=>kernel_rfl
     case hQs01=>exact fun _ _ _ h=>h
     case hys01=>(refine Or.inl ⟨by rfl,?_⟩;intro w hSw;(try dsimp only at hSw);go_simp<;>with_reducible rfl)
     try simp only[Act.put,List.setIfInBounds_toArray,List.set_cons_zero,List.set_cons_succ]
     refine wpAnyH_take (i:=1) (oi:= ?ois02) (v:= ?vs02) ?hops02 ?hss02 ?hfs02 ?hrs02 ?hQs02 ?hys02 (by assumption) ?rests02
     case hops02=>(simp only[List.getElem?_toArray,List.getElem?_cons_zero,List.getElem?_cons_succ];rfl)
     case hss02=>kernel_rfl
     case hfs02=>kernel_rfl
     case hrs02=>kernel_rfl
     case hQs02=>exact fun _ _ _ h=>h
     case hys02=>(refine Or.inl ⟨by rfl,?_⟩;intro w hSw;(try dsimp only at hSw);go_simp<;>with_reducible rfl)
     try simp only[Act.put,List.setIfInBounds_toArray,List.set_cons_zero,List.set_cons_succ]
     refine wpAnyH_take (i:=2) (oi:= ?ois03) (v:= ?vs03) ?hops03 ?hss03 ?hfs03 ?hrs03 ?hQs03 ?hys03 (by assumption) ?rests03
     case hops03=>(simp only[List.getElem?_toArray,List.getElem?_cons_zero,List.getElem?_cons_succ];rfl)
     case hss03=>kernel_rfl
     case hfs03=>kernel_rfl
     case hrs03=>kernel_rfl
     case hQs03=>exact fun _ _ _ h=>h
     case hys03=>(refine Or.inl ⟨by rfl,?_⟩;intro w hSw;(try dsimp only at hSw);go_simp<;>with_reducible rfl)
     try simp only[Act.put,List.setIfInBounds_toArray,List.set_cons_zero,List.set_cons_succ]
     refine wpAnyH_take (i:=3) (oi:= ?ois04) (v:= ?vs04) ?hops04 ?hss04 ?hfs04 ?hrs04 ?hQs04 ?hys04 (by assumption) ?rests04
     case hops04=>(simp only[List.getElem?_toArray,List.getElem?_cons_zero,List.getElem?_cons_succ];rfl)
     case hss04=>kernel_rfl
     case hfs04=>kernel_rfl
     case hrs04=>kernel_rfl
     case hQs04=>exact fun _ _ _ h=>h
     case hys04=>(refine Or.inl ⟨by rfl,?_⟩;intro w hSw;(try dsimp only at hSw);go_simp<;>with_reducible rfl)
     try simp only[Act.put,List.setIfInBounds_toArray,List.set_cons_zero,List.set_cons_succ]
     refine wpAnyH_take (i:=4) (oi:= ?ois05) (v:= ?vs05) ?hops05 ?hss05 ?hfs05 ?hrs05 ?hQs05 ?hys05 (by assumption) ?rests05
     case hops05=>(simp only[List.getElem?_toArray,List.getElem?_cons_zero,List.getElem?_cons_succ];rfl)
     case hss05=>kernel_rfl
     case hfs05=>kernel_rfl
     case hrs05=>kernel_rfl
     case hQs05=>exact fun _ _ _ h=>h
     case hys05=>(refine Or.inl ⟨by rfl,?_⟩;intro w hSw;(try dsimp only at hSw);go_simp<;>with_reducible rfl)
     try simp only[Act.put,List.setIfInBounds_toArray,List.set_cons_zero,List.set_cons_succ]
     refine wpAnyH_take (i:=5) (oi:= ?ois06) (v:= ?vs06) ?hops06 ?hss06 ?hfs06 ?hrs06 ?hQs06 ?hys06 (by assumption) ?rests06
     case hops06=>(simp only[List.getElem?_toArray,List.getElem?_cons_zero,List.getElem?_cons_succ];rfl)
     case hss06=>kernel_rfl
     case hfs06=>kernel_rfl
     case hrs06=>kernel_rfl
     case hQs06=>exact fun _ _ _ h=>h
     case hys06=>(refine Or.inl ⟨by rfl,?_⟩;intro w hSw;(try dsimp only at hSw);go_simp<;>with_reducible rfl)
     try simp only[Act.put,List.setIfInBounds_toArray,List.set_cons_zero,List.set_cons_succ]
     refine wpAnyH_take (i:=6) (oi:= ?ois07) (v:= ?vs07) ?hops07 ?hss07 ?hfs07 ?hrs07 ?hQs07 ?hys07 (by assumption) ?rests07
     case hops07=>(simp only[List.getElem?_toArray,List.getElem?_cons_zero,List.getElem?_cons_succ];rfl)
     case hss07=>kernel_rfl
     case hfs07=>kernel_rfl
     case hrs07=>kernel_rfl
     case hQs07=>exact fun _ _ _ h=>h
     case hys07=>(refine Or.inl ⟨by rfl,?_⟩;intro w hSw;(try dsimp only at hSw);go_simp<;>with_reducible rfl)
     try simp only[Act.put,List.setIfInBounds_toArray,List.set_cons_zero,List.set_cons_succ]
     refine wpAnyH_take (i:=9) (oi:= ?ois08) (v:= ?vs08) ?hops08 ?hss08 ?hfs08 ?hrs08 ?hQs08 ?hys08 (by assumption) ?rests08
     case hops08=>(simp only[List.getElem?_toArray,List.getElem?_cons_zero,List.getElem?_cons_succ];rfl)
     case hss08=>kernel_rfl
     case hfs08=>kernel_rfl
     case hrs08=>kernel_rfl
     case hQs08=>exact fun _ _ _ h=>h
     case hys08=>(refine Or.inl ⟨by rfl,?_⟩;intro w hSw;(try dsimp only at hSw);go_simp<;>with_reducible rfl)
     try simp only[Act.put,List.setIfInBounds_toArray,List.set_cons_zero,List.set_cons_succ]
     refine wpAnyH_take (i:=10) (oi:= ?ois09) (v:= ?vs09) ?hops09 ?hss09 ?hfs09 ?hrs09 ?hQs09 ?hys09 (by assumption) ?rests09
     case hops09=>(simp only[List.getElem?_toArray,List.getElem?_cons_zero,List.getElem?_cons_succ];rfl)
     case hss09=>kernel_rfl
     case hfs09=>kernel_rfl
     case hrs09=>kernel_rfl
     case hQs09=>exact fun _ _ _ h=>h
     case hys09=>(refine Or.inl ⟨by rfl,?_⟩;intro w hSw;(try dsimp only at hSw);go_simp<;>with_reducible rfl)
     try simp only[Act.put,List.setIfInBounds_toArray,List.set_cons_zero,List.set_cons_succ]
     refine wpAnyH_take (i:=13) (oi:= ?ois010) (v:= ?vs010) ?hops010 ?hss010 ?hfs010 ?hrs010 ?hQs010 ?hys010 (by assumption) ?rests010
     case hops010=>(simp only[List.getElem?_toArray,List.getElem?_cons_zero,List.getElem?_cons_succ];rfl)
     case hss010=>kernel_rfl
     case hfs010=>kernel_rfl
     case hrs010=>kernel_rfl
     case hQs010=>exact fun _ _ _ h=>h
     case hys010=>(refine Or.inl ⟨by rfl,?_⟩;intro w hSw;(try dsimp only at hSw);go_simp<;>with_reducible rfl)
     try simp only[Act.put,List.setIfInBounds_toArray,List.set_cons_zero,List.set_cons_succ]
     refine wpAnyH_ready (rs:=[7]) (by kernel_rfl) (by simp) ?_
     refine AllReadyH.cons (o:= ?ois011) ?hops011 (fun K hK=> ?steps011) ?mores011
     case hops011=>(simp only[List.getElem?_toArray,List.getElem?_cons_zero,List.getElem?_cons_succ];rfl)
     case mores011=>exact AllReadyH.nil
     go_simp
     (go_at_call 10;(with_reducible refine Calls.mono (hCc.out _ hD0.out) ?_);rintro e w2 ⟨EA,eca,rfl,f1,f2⟩;have hF:Hid (Below wb0.heap.size wb0 w2∧Own w2 wb0.heap.size (.slice EA x.a.c.l.length eca) x.a.c.l):=⟨hD0.out.trans (f2.mono hD0.out.size),f1⟩;clear f1 f2)
     first|(go_wp2_with fail)|skip
     refine hK.out _ _ ?_ (fun hHeld=> ?_)
     ·(try dsimp only);first|with_reducible exact hKc.out _ (hA.out.2.2.1.below hG.out.1)|with_reducible exact hKc.out _ (hA.out.2.2.1.below hF.out.1)|exact hKc.out _ (((((((hA.out.2.2.1.below hG.out.1).oth hne.out _).oth hne.out _).oth hne.out _).oth hne.out _).oth hne.out _).oth hne.out _)
     clear hK K
     try simp only[Act.put,List.setIfInBounds_toArray,List.set_cons_zero,List.set_cons_succ]
     refine wpAnyH_take (i:=8) (oi:= ?ois012) (v:= ?vs012) ?hops012 ?hss012 ?hfs012 ?hrs012 ?hQs012 ?hys012 (by assumption) ?rests012
     case hops012=>(simp only[List.getElem?_toArray,List.getElem?_cons_zero,List.getElem?_cons_succ];rfl)
     case hss012=>kernel_rfl
     case hfs012=>kernel_rfl
     case hrs012=>kernel_rfl
     case hQs012=>exact fun _ _ _ h=>h
     case hys012=>(refine Or.inl ⟨by rfl,?_⟩;intro w _;refine (exec_buildX (a:=x.a.c.c0) (b:=x.a.c.c1) (c:=x.a.c.c2) (d:=x.a.c.c3) (A:=EA) (n:=x.a.c.l.length) (k:=eca) (.tmp 107) (.tmp 111) rfl rfl rfl w).trans ?_;with_reducible rfl)
     try simp only[Act.put,List.setIfInBounds_toArray,List.set_cons_zero,List.set_cons_succ]
     refine wpAnyH_ready (rs:=[11]) (by kernel_rfl) (by simp) ?_
     refine AllReadyH.cons (o:= ?ois013) ?hops013 (fun K hK=> ?steps013) ?mores013
     case hops013=>(simp only[List.getElem?_toArray,List.getElem?_cons_zero,List.getElem?_cons_succ];rfl)
     case mores013=>exact AllReadyH.nil
     go_simp
     (go_at_call 11;(with_reducible refine Calls.mono (hCl.out _ hF.out.1) ?_);rintro e w3 ⟨EC,ecc,rfl,f1,f2⟩;have hG:Hid (Below wb0.heap.size wb0 w3∧Own w3 wb0.heap.size (.slice EA x.a.c.l.length eca) x.a.c.l∧OwnC w3 wb0.heap.size (.slice EC x.a.e.length ecc) x.a.e):=⟨hF.out.1.trans (f2.mono hF.out.1.size),hF.out.2.below f2,f1.mono hF.out.1.size⟩;clear f1 f2;have p0:=(hA.out.2.2.2.1.below hG.out.1).cell (j:=0) rfl;have z0:=(hA.out.2.2.2.1.below hG.out.1).fz 0;have p1:=(hA.out.2.2.2.1.below hG.out.1).cell (j:=1) rfl;have z1:=(hA.out.2.2.2.1.below hG.out.1).fz 1;have p2:=(hA.out.2.2.2.1.below hG.out.1).cell (j:=2) rfl;have z2:=(hA.out.2.2.2.1.below hG.out.1).fz 2;have p3:=(hA.out.2.2.2.1.below hG.out.1).cell (j:=3) rfl;have z3:=(hA.out.2.2.2.1.below hG.out.1).fz 3;have p4:=(hA.out.2.2.2.1.below hG.out.1).cell (j:=4) rfl;have z4:=(hA.out.2.2.2.1.below hG.out.1).fz 4;have p5:=(hA.out.2.2.2.1.below hG.out.1).cell (j:=5) rfl;have z5:=(hA.out.2.2.2.1.below hG.out.1).fz 5)
     first|(go_wp2_with fail)|skip
     refine hK.out _ _ ?_ (fun hHeld=> ?_)
     ·(try dsimp only);first|with_reducible exact hKc.out _ (hA.out.2.2.1.below hG.out.1)|with_reducible exact hKc.out _ (hA.out.2.2.1.below hF.out.1)|exact hKc.out _ (((((((hA.out.2.2.1.below hG.out.1).oth hne.out _).oth hne.out _).oth hne.out _).oth hne.out _).oth hne.out _).oth hne.out _)
     clear hK K
     try simp only[Act.put,List.setIfInBounds_toArray,List.set_cons_zero,List.set_cons_succ]
     refine wpAnyH_take (i:=12) (oi:= ?ois014) (v:= ?vs014) ?hops014 ?hss014 ?hfs014 ?hrs014 ?hQs014 ?hys014 (by assumption) ?rests014
     case hops014=>(simp only[List.getElem?_toArray,List.getElem?_cons_zero,List.getElem?_cons_succ];rfl)
     case hss014=>kernel_rfl
     case hfs014=>kernel_rfl
     case hrs014=>kernel_rfl
     case hQs014=>exact fun _ _ _ h=>h
     case hys014=>(refine Or.inl ⟨by rfl,?_⟩;intro w _;refine (exec_buildT (a:=x.a.c.c0) (b:=x.a.c.c1) (c:=x.a.c.c2) (d:=x.a.c.c3) (A:=EA) (n:=x.a.c.l.length) (k:=eca) (B:=EC) (m:=x.a.e.length) (j:=ecc) (.tmp 112) (.tmp 115) rfl rfl rfl w).trans ?_;with_reducible rfl)
     try simp only[Act.put,List.setIfInBounds_toArray,List.set_cons_zero,List.set_cons_succ]
     refine wpAnyH_take (i:=14) (oi:= ?ois015) (v:= ?vs015) ?hops015 ?hss015 ?hfs015 ?hrs015 ?hQs015 ?hys015 (by assumption) ?rests015
     case hops015=>(simp only[List.getElem?_toArray,List.getElem?_cons_zero,List.getElem?_cons_succ];rfl)
     case hss015=>kernel_rfl
     case hfs015=>kernel_rfl
     case hrs015=>kernel_rfl
     case hQs015=>exact fun _ _ _ h=>h
     case hys015=>(refine Or.inl ⟨by rfl,?_⟩;intro w hSw;(try dsimp only at hSw);go_simp<;>with_reducible rfl)
     try simp only[Act.put,List.setIfInBounds_toArray,List.set_cons_zero,List.set_cons_succ]
     refine wpAnyH_ready (rs:=[15]) (by kernel_rfl) (by simp) ?_
     refine AllReadyH.cons (o:= ?ois016) ?hops016 (fun K hK=> ?steps016) ?mores016
     case hops016=>(simp only[List.getElem?_toArray,List.getElem?_cons_zero,List.getElem?_cons_succ];rfl)
     case mores016=>exact AllReadyH.nil
     go_simp
     refine hK.out _ _ ?_ (fun hHeld=> ?_)
     ·(try dsimp only);first|with_reducible exact hKc.out _ (hA.out.2.2.1.below hG.out.1)|with_reducible exact hKc.out _ (hA.out.2.2.1.below hF.out.1)|exact hKc.out _ (((((((hA.out.2.2.1.below hG.out.1).oth hne.out _).oth hne.out _).oth hne.out _).oth hne.out _).oth hne.out _).oth hne.out _)
     clear hK K
     try simp only[Act.put,List.setIfInBounds_toArray,List.set_cons_zero,List.set_cons_succ]
     refine wpAnyH_done (by kernel_rfl) ?_ _
     refine NoPanic.normal ?_
     go_wp2_with fail
     obtain ⟨wd0,hwd⟩:∃W,((((((w3.setCell ⟨PB,0,none⟩ (.int .i64 x.a.c.c0)).setCell ⟨PB,1,none⟩ (.int .i64 x.a.c.c1)).setCell ⟨PB,2,none⟩ (.int .i64 x.a.c.c2)).setCell ⟨PB,3,none⟩ (.int .i64 x.a.c.c3)).setCell ⟨PB,4,none⟩ (.slice EA x.a.c.l.length eca)).setCell ⟨PB,5,none⟩ (.slice EC x.a.e.length ecc))=W:=⟨_,rfl⟩
     rw[hwd]
     have hJ:Hid (Cop w wd0 N M s t qs n0 x q' Q cq x.q.length∧Cl 40 wd0 PB [.int .i64 x.a.c.c0,.int .i64 x.a.c.c1,.int .i64 x.a.c.c2,.int .i64 x.a.c.c3,.slice EA x.a.c.l.length eca,.slice EC x.a.e.length ecc,.int .i64 0,.int .i64 0,.int .i64 0,.int .i64 0,.slice none 0 0,.slice none 0 0]∧n0<PB∧Own wd0 wb0.heap.size (.slice EA x.a.c.l.length eca) x.a.c.l∧OwnC wd0 wb0.heap.size (.slice EC x.a.e.length ecc) x.a.e∧wb0.heap.size≤wd0.heap.size):=by
      have hp0:=hA.out.2.2.2.1.below hG.out.1
      have hs0:=hp0.sput 0 (.int .i64 x.a.c.c0)
      have hp1:=hp0.put 0 (.int .i64 x.a.c.c0)
      have hs1:=hp1.sput 1 (.int .i64 x.a.c.c1)
      have hp2:=hp1.put 1 (.int .i64 x.a.c.c1)
      have hs2:=hp2.sput 2 (.int .i64 x.a.c.c2)
      have hp3:=hp2.put 2 (.int .i64 x.a.c.c2)
      have hs3:=hp3.sput 3 (.int .i64 x.a.c.c3)
      have hp4:=hp3.put 3 (.int .i64 x.a.c.c3)
      have hs4:=hp4.sput 4 (.slice EA x.a.c.l.length eca)
      have hp5:=hp4.put 4 (.slice EA x.a.c.l.length eca)
      have hs5:=hp5.sput 5 (.slice EC x.a.e.length ecc)
      have hp6:=hp5.put 5 (.slice EC x.a.e.length ecc)
      have hn0:=hE.out.2.2
      have hq1:=hA.out.2.2.2.2.1
      have hq2:=hA.out.2.2.2.2.2
      rw[←hwd]
      exact ⟨(hA.out.2.1.below hG.out.1).put (hs0.trans (hs1.trans (hs2.trans (hs3.trans (hs4.trans hs5))))) hn0,hp6,hn0,own_agr hG.out.2.1 ((((((Agr.set _ fun h=>by omega).trans (Agr.set _ fun h=>by omega)).trans (Agr.set _ fun h=>by omega)).trans (Agr.set _ fun h=>by omega)).trans (Agr.set _ fun h=>by omega)).trans (Agr.set _ fun h=>by omega)),own_agr hG.out.2.2 ((((((Agr.set _ fun h=>by omega).trans (Agr.set _ fun h=>by omega)).trans (Agr.set _ fun h=>by omega)).trans (Agr.set _ fun h=>by omega)).trans (Agr.set _ fun h=>by omega)).trans (Agr.set _ fun h=>by omega)),Nat.le_trans hG.out.1.size (hs0.trans (hs1.trans (hs2.trans (hs3.trans (hs4.trans hs5))))).size⟩
     clear hwd hF hG hCc hCl hKc hne hD0 p0 z0 p1 z1 p2 z2 p3 z3 p4 z4 p5 z5
     have hE2:Hid (Cop w wd0 N M s t qs n0 x q' Q cq x.q.length∧Cl 40 wd0 PB [.int .i64 x.a.c.c0,.int .i64 x.a.c.c1,.int .i64 x.a.c.c2,.int .i64 x.a.c.c3,.slice EA x.a.c.l.length eca,.slice EC x.a.e.length ecc,.int .i64 0,.int .i64 0,.int .i64 0,.int .i64 0,.slice none 0 0,.slice none 0 0]∧n0<PB∧Own wd0 wb0.heap.size (.slice EA x.a.c.l.length eca) x.a.c.l∧OwnC wd0 wb0.heap.size (.slice EC x.a.e.length ecc) x.a.e∧(PB<wb0.heap.size∧wb0.heap.size≤wd0.heap.size)):=⟨hJ.out.1,hJ.out.2.1,hJ.out.2.2.1,hJ.out.2.2.2.1,hJ.out.2.2.2.2.1,by have h1:=hA.out.2.2.2.2.1;have h2:=hA.out.2.2.2.2.2;omega,hJ.out.2.2.2.2.2⟩
     clear hE hA hJ
     have hE:=hE2
     clear hE2
     rw[rounds_succ]
     go_upto_region 22 with fail
     obtain ⟨wb1,hwb⟩:∃W,wd0.alloc (.cells #[.int .i64 x.b.c.c0,.int .i64 x.b.c.c1,.int .i64 x.b.c.c2,.int .i64 x.b.c.c3,.slice x.B x.b.c.l.length x.cb,.slice x.D x.b.e.length x.cd] 37)=W:=⟨_,rfl⟩
     rw[hwb]
     have hA:Hid (Gr wd0 wb1∧Cop w wb1 N M s t qs n0 x q' Q cq x.q.length∧Cls wb1 wd0.heap.size [.int .i64 x.b.c.c0,.int .i64 x.b.c.c1,.int .i64 x.b.c.c2,.int .i64 x.b.c.c3,.slice x.B x.b.c.l.length x.cb,.slice x.D x.b.e.length x.cd]∧Cl 40 wb1 PB [.int .i64 x.a.c.c0,.int .i64 x.a.c.c1,.int .i64 x.a.c.c2,.int .i64 x.a.c.c3,.slice EA x.a.c.l.length eca,.slice EC x.a.e.length ecc,.int .i64 0,.int .i64 0,.int .i64 0,.int .i64 0,.slice none 0 0,.slice none 0 0]∧PB<wd0.heap.size∧wd0.heap.size<wb1.heap.size):=by
      have hg:Gr wd0 wb1:=by rw[←hwb];exact (Gr.refl _).alloc _
      exact ⟨hg,hE.out.1.below hg.below,by rw[←hwb];exact Cls.new wd0 _ _,hE.out.2.1.below hg.below,hE.out.2.1.lt,by rw[←hwb];simp⟩
     clear hwb
     have hD0:Hid (Below wb1.heap.size wb1 wb1.drew):=(Gr.refl wb1).drew.below
     have hCc:Hid (∀W,Below wb1.heap.size wb1 W→Calls Tryz.prog 10 #[.slice x.B x.b.c.l.length x.cb] W fun e w'=>∃B cb,e= .returned (.slice B x.b.c.l.length cb)∧Own w' W.heap.size (.slice B x.b.c.l.length cb) x.b.c.l∧Below W.heap.size W w'):=fun W hW=>by
      have hr:=hxm.out.1.below ((hA.out.2.1.two 0).bel.trans (hW.mono (hA.out.2.1.two 0).bel.size))
      exact cloneD_any x.b.c.l x.B x.cb W hxm.out.2.wb hr.rb hr.nb
     have hCl:Hid (∀W,Below wb1.heap.size wb1 W→Calls Tryz.prog 11 #[.slice x.D x.b.e.length x.cd] W fun e w'=>∃C c,e= .returned (.slice C x.b.e.length c)∧OwnC w' W.heap.size (.slice C x.b.e.length c) x.b.e∧Below W.heap.size W w'):=fun W hW=>by
      have hr:=hxm.out.1.below ((hA.out.2.1.two 0).bel.trans (hW.mono (hA.out.2.1.two 0).bel.size))
      exact cloneC_any x.b.e x.D x.cd W hxm.out.2.wd hr.rd hr.nd
     have hKc:Hid (∀W,Cls W wd0.heap.size [.int .i64 x.b.c.c0,.int .i64 x.b.c.c1,.int .i64 x.b.c.c2,.int .i64 x.b.c.c3,.slice x.B x.b.c.l.length x.cb,.slice x.D x.b.e.length x.cd]→(fun w'=>w'.cell? ⟨wd0.heap.size,0,none⟩=some (.int .i64 x.b.c.c0)∧w'.cell? ⟨wd0.heap.size,1,none⟩=some (.int .i64 x.b.c.c1)∧w'.cell? ⟨wd0.heap.size,2,none⟩=some (.int .i64 x.b.c.c2)∧w'.cell? ⟨wd0.heap.size,3,none⟩=some (.int .i64 x.b.c.c3)∧w'.cell? ⟨wd0.heap.size,4,none⟩=some (.slice x.B x.b.c.l.length x.cb)∧w'.cell? ⟨wd0.heap.size,5,none⟩=some (.slice x.D x.b.e.length x.cd)) W):=fun W hW=>⟨hW.cell (j:=0) rfl,hW.cell (j:=1) rfl,hW.cell (j:=2) rfl,hW.cell (j:=3) rfl,hW.cell (j:=4) rfl,hW.cell (j:=5) rfl⟩
     have hne:Hid (wd0.heap.size≠PB):=by have:=hA.out.2.2.2.2.1;show _≠_;omega
     refine wp_region_noPanic ?_
     refine wp_region_held_drew (S:=(fun w'=>w'.cell? ⟨wd0.heap.size,0,none⟩=some (.int .i64 x.b.c.c0)∧w'.cell? ⟨wd0.heap.size,1,none⟩=some (.int .i64 x.b.c.c1)∧w'.cell? ⟨wd0.heap.size,2,none⟩=some (.int .i64 x.b.c.c2)∧w'.cell? ⟨wd0.heap.size,3,none⟩=some (.int .i64 x.b.c.c3)∧w'.cell? ⟨wd0.heap.size,4,none⟩=some (.slice x.B x.b.c.l.length x.cb)∧w'.cell? ⟨wd0.heap.size,5,none⟩=some (.slice x.D x.b.e.length x.cd))) (by kernel_rfl) (hKc.out _ (hA.out.2.2.1.below hD0.out)) (fun hHeld=> ?_)
     refine wpAnyH_take (i:=0) (oi:= ?ois11) (v:= ?vs11) ?hops11 ?hss11 ?hfs11 ?hrs11 ?hQs11 ?hys11 (by assumption) ?rests11
     case hops11=>(simp only[List.getElem?_toArray,List.getElem?_cons_zero];rfl)
     case hss11=>kernel_rfl
     case hfs11=>kernel_rfl
     case hrs11=>kernel_rfl
     case hQs11=>exact fun _ _ _ h=>h
     case hys11=>(refine Or.inl ⟨by rfl,?_⟩;intro w hSw;(try dsimp only at hSw);go_simp<;>with_reducible rfl)
     try simp only[Act.put,List.setIfInBounds_toArray,List.set_cons_zero,List.set_cons_succ]
     refine wpAnyH_take (i:=1) (oi:= ?ois12) (v:= ?vs12) ?hops12 ?hss12 ?hfs12 ?hrs12 ?hQs12 ?hys12 (by assumption) ?rests12
     case hops12=>(simp only[List.getElem?_toArray,List.getElem?_cons_zero,List.getElem?_cons_succ];rfl)
     case hss12=>kernel_rfl
     case hfs12=>kernel_rfl
     case hrs12=>kernel_rfl
     case hQs12=>exact fun _ _ _ h=>h
     case hys12=>(refine Or.inl ⟨by rfl,?_⟩;intro w hSw;(try dsimp only at hSw);go_simp<;>with_reducible rfl)
     try simp only[Act.put,List.setIfInBounds_toArray,List.set_cons_zero,List.set_cons_succ]
     refine wpAnyH_take (i:=2) (oi:= ?ois13) (v:= ?vs13) ?hops13 ?hss13 ?hfs13 ?hrs13 ?hQs13 ?hys13 (by assumption) ?rests13
     case hops13=>(simp only[List.getElem?_toArray,List.getElem?_cons_zero,List.getElem?_cons_succ];rfl)
     case hss13=>kernel_rfl
     case hfs13=>kernel_rfl
     case hrs13=>kernel_rfl
     case hQs13=>exact fun _ _ _ h=>h
     case hys13=>(refine Or.inl ⟨by rfl,?_⟩;intro w hSw;(try dsimp only at hSw);go_simp<;>with_reducible rfl)
     try simp only[Act.put,List.setIfInBounds_toArray,List.set_cons_zero,List.set_cons_succ]
     refine wpAnyH_take (i:=3) (oi:= ?ois14) (v:= ?vs14) ?hops14 ?hss14 ?hfs14 ?hrs14 ?hQs14 ?hys14 (by assumption) ?rests14
     case hops14=>(simp only[List.getElem?_toArray,List.getElem?_cons_zero,List.getElem?_cons_succ];rfl)
     case hss14=>kernel_rfl
     case hfs14=>kernel_rfl
     case hrs14=>kernel_rfl
     case hQs14=>exact fun _ _ _ h=>h
     case hys14=>(refine Or.inl ⟨by rfl,?_⟩;intro w hSw;(try dsimp only at hSw);go_simp<;>with_reducible rfl)
     try simp only[Act.put,List.setIfInBounds_toArray,List.set_cons_zero,List.set_cons_succ]
     refine wpAnyH_take (i:=4) (oi:= ?ois15) (v:= ?vs15) ?hops15 ?hss15 ?hfs15 ?hrs15 ?hQs15 ?hys15 (by assumption) ?rests15
     case hops15=>(simp only[List.getElem?_toArray,List.getElem?_cons_zero,List.getElem?_cons_succ];rfl)
     case hss15=>kernel_rfl
     case hfs15=>kernel_rfl
     case hrs15=>kernel_rfl
     case hQs15=>exact fun _ _ _ h=>h
     case hys15=>(refine Or.inl ⟨by rfl,?_⟩;intro w hSw;(try dsimp only at hSw);go_simp<;>with_reducible rfl)
     try simp only[Act.put,List.setIfInBounds_toArray,List.set_cons_zero,List.set_cons_succ]
     refine wpAnyH_take (i:=5) (oi:= ?ois16) (v:= ?vs16) ?hops16 ?hss16 ?hfs16 ?hrs16 ?hQs16 ?hys16 (by assumption) ?rests16
     case hops16=>(simp only[List.getElem?_toArray,List.getElem?_cons_zero,List.getElem?_cons_succ];rfl)
     case hss16=>kernel_rfl
     case hfs16=>kernel_rfl
     case hrs16=>kernel_rfl
     case hQs16=>exact fun _ _ _ h=>h
     case hys16=>(refine Or.inl ⟨by rfl,?_⟩;intro w hSw;(try dsimp only at hSw);go_simp<;>with_reducible rfl)
     try simp only[Act.put,List.setIfInBounds_toArray,List.set_cons_zero,List.set_cons_succ]
     refine wpAnyH_take (i:=6) (oi:= ?ois17) (v:= ?vs17) ?hops17 ?hss17 ?hfs17 ?hrs17 ?hQs17 ?hys17 (by assumption) ?rests17
     case hops17=>(simp only[List.getElem?_toArray,List.getElem?_cons_zero,List.getElem?_cons_succ];rfl)
     case hss17=>kernel_rfl
     case hfs17=>kernel_rfl
     case hrs17=>kernel_rfl
     case hQs17=>exact fun _ _ _ h=>h
     case hys17=>(refine Or.inl ⟨by rfl,?_⟩;intro w hSw;(try dsimp only at hSw);go_simp<;>with_reducible rfl)
     try simp only[Act.put,List.setIfInBounds_toArray,List.set_cons_zero,List.set_cons_succ]
     refine wpAnyH_take (i:=9) (oi:= ?ois18) (v:= ?vs18) ?hops18 ?hss18 ?hfs18 ?hrs18 ?hQs18 ?hys18 (by assumption) ?rests18
     case hops18=>(simp only[List.getElem?_toArray,List.getElem?_cons_zero,List.getElem?_cons_succ];rfl)
     case hss18=>kernel_rfl
     case hfs18=>kernel_rfl
     case hrs18=>kernel_rfl
     case hQs18=>exact fun _ _ _ h=>h
     case hys18=>(refine Or.inl ⟨by rfl,?_⟩;intro w hSw;(try dsimp only at hSw);go_simp<;>with_reducible rfl)
     try simp only[Act.put,List.setIfInBounds_toArray,List.set_cons_zero,List.set_cons_succ]
     refine wpAnyH_take (i:=10) (oi:= ?ois19) (v:= ?vs19) ?hops19 ?hss19 ?hfs19 ?hrs19 ?hQs19 ?hys19 (by assumption) ?rests19
     case hops19=>(simp only[List.getElem?_toArray,List.getElem?_cons_zero,List.getElem?_cons_succ];rfl)
     case hss19=>kernel_rfl
     case hfs19=>kernel_rfl
     case hrs19=>kernel_rfl
     case hQs19=>exact fun _ _ _ h=>h
     case hys19=>(refine Or.inl ⟨by rfl,?_⟩;intro w hSw;(try dsimp only at hSw);go_simp<;>with_reducible rfl)
     try simp only[Act.put,List.setIfInBounds_toArray,List.set_cons_zero,List.set_cons_succ]
     refine wpAnyH_take (i:=13) (oi:= ?ois110) (v:= ?vs110) ?hops110 ?hss110 ?hfs110 ?hrs110 ?hQs110 ?hys110 (by assumption) ?rests110
     case hops110=>(simp only[List.getElem?_toArray,List.getElem?_cons_zero,List.getElem?_cons_succ];rfl)
     case hss110=>kernel_rfl
     case hfs110=>kernel_rfl
     case hrs110=>kernel_rfl
     case hQs110=>exact fun _ _ _ h=>h
     case hys110=>(refine Or.inl ⟨by rfl,?_⟩;intro w hSw;(try dsimp only at hSw);go_simp<;>with_reducible rfl)
     try simp only[Act.put,List.setIfInBounds_toArray,List.set_cons_zero,List.set_cons_succ]
     refine wpAnyH_ready (rs:=[7]) (by kernel_rfl) (by simp) ?_
     refine AllReadyH.cons (o:= ?ois111) ?hops111 (fun K hK=> ?steps111) ?mores111
     case hops111=>(simp only[List.getElem?_toArray,List.getElem?_cons_zero,List.getElem?_cons_succ];rfl)
     case mores111=>exact AllReadyH.nil
     go_simp
     (go_at_call 10;(with_reducible refine Calls.mono (hCc.out _ hD0.out) ?_);rintro e w2 ⟨EB,ecb,rfl,f1,f2⟩;have hF:Hid (Below wb1.heap.size wb1 w2∧Own w2 wb1.heap.size (.slice EB x.b.c.l.length ecb) x.b.c.l):=⟨hD0.out.trans (f2.mono hD0.out.size),f1⟩;clear f1 f2)
     first|(go_wp2_with fail)|skip
     refine hK.out _ _ ?_ (fun hHeld=> ?_)
     ·(try dsimp only);first|with_reducible exact hKc.out _ (hA.out.2.2.1.below hG.out.1)|with_reducible exact hKc.out _ (hA.out.2.2.1.below hF.out.1)|exact hKc.out _ (((((((hA.out.2.2.1.below hG.out.1).oth hne.out _).oth hne.out _).oth hne.out _).oth hne.out _).oth hne.out _).oth hne.out _)
     clear hK K
     try simp only[Act.put,List.setIfInBounds_toArray,List.set_cons_zero,List.set_cons_succ]
     refine wpAnyH_take (i:=8) (oi:= ?ois112) (v:= ?vs112) ?hops112 ?hss112 ?hfs112 ?hrs112 ?hQs112 ?hys112 (by assumption) ?rests112
     case hops112=>(simp only[List.getElem?_toArray,List.getElem?_cons_zero,List.getElem?_cons_succ];rfl)
     case hss112=>kernel_rfl
     case hfs112=>kernel_rfl
     case hrs112=>kernel_rfl
     case hQs112=>exact fun _ _ _ h=>h
     case hys112=>(refine Or.inl ⟨by rfl,?_⟩;intro w _;refine (exec_buildX (a:=x.b.c.c0) (b:=x.b.c.c1) (c:=x.b.c.c2) (d:=x.b.c.c3) (A:=EB) (n:=x.b.c.l.length) (k:=ecb) (.tmp 107) (.tmp 111) rfl rfl rfl w).trans ?_;with_reducible rfl)
     try simp only[Act.put,List.setIfInBounds_toArray,List.set_cons_zero,List.set_cons_succ]
     refine wpAnyH_ready (rs:=[11]) (by kernel_rfl) (by simp) ?_
     refine AllReadyH.cons (o:= ?ois113) ?hops113 (fun K hK=> ?steps113) ?mores113
     case hops113=>(simp only[List.getElem?_toArray,List.getElem?_cons_zero,List.getElem?_cons_succ];rfl)
     case mores113=>exact AllReadyH.nil
     go_simp
     (go_at_call 11;(with_reducible refine Calls.mono (hCl.out _ hF.out.1) ?_);rintro e w3 ⟨ED,ecd,rfl,f1,f2⟩;have hG:Hid (Below wb1.heap.size wb1 w3∧Own w3 wb1.heap.size (.slice EB x.b.c.l.length ecb) x.b.c.l∧OwnC w3 wb1.heap.size (.slice ED x.b.e.length ecd) x.b.e):=⟨hF.out.1.trans (f2.mono hF.out.1.size),hF.out.2.below f2,f1.mono hF.out.1.size⟩;clear f1 f2;have p6:=(hA.out.2.2.2.1.below hG.out.1).cell (j:=6) rfl;have z6:=(hA.out.2.2.2.1.below hG.out.1).fz 6;have p7:=(hA.out.2.2.2.1.below hG.out.1).cell (j:=7) rfl;have z7:=(hA.out.2.2.2.1.below hG.out.1).fz 7;have p8:=(hA.out.2.2.2.1.below hG.out.1).cell (j:=8) rfl;have z8:=(hA.out.2.2.2.1.below hG.out.1).fz 8;have p9:=(hA.out.2.2.2.1.below hG.out.1).cell (j:=9) rfl;have z9:=(hA.out.2.2.2.1.below hG.out.1).fz 9;have p10:=(hA.out.2.2.2.1.below hG.out.1).cell (j:=10) rfl;have z10:=(hA.out.2.2.2.1.below hG.out.1).fz 10;have p11:=(hA.out.2.2.2.1.below hG.out.1).cell (j:=11) rfl;have z11:=(hA.out.2.2.2.1.below hG.out.1).fz 11)
     first|(go_wp2_with fail)|skip
     refine hK.out _ _ ?_ (fun hHeld=> ?_)
     ·(try dsimp only);first|with_reducible exact hKc.out _ (hA.out.2.2.1.below hG.out.1)|with_reducible exact hKc.out _ (hA.out.2.2.1.below hF.out.1)|exact hKc.out _ (((((((hA.out.2.2.1.below hG.out.1).oth hne.out _).oth hne.out _).oth hne.out _).oth hne.out _).oth hne.out _).oth hne.out _)
     clear hK K
     try simp only[Act.put,List.setIfInBounds_toArray,List.set_cons_zero,List.set_cons_succ]
     refine wpAnyH_take (i:=12) (oi:= ?ois114) (v:= ?vs114) ?hops114 ?hss114 ?hfs114 ?hrs114 ?hQs114 ?hys114 (by assumption) ?rests114
     case hops114=>(simp only[List.getElem?_toArray,List.getElem?_cons_zero,List.getElem?_cons_succ];rfl)
     case hss114=>kernel_rfl
     case hfs114=>kernel_rfl
     case hrs114=>kernel_rfl
     case hQs114=>exact fun _ _ _ h=>h
     case hys114=>(refine Or.inl ⟨by rfl,?_⟩;intro w _;refine (exec_buildT (a:=x.b.c.c0) (b:=x.b.c.c1) (c:=x.b.c.c2) (d:=x.b.c.c3) (A:=EB) (n:=x.b.c.l.length) (k:=ecb) (B:=ED) (m:=x.b.e.length) (j:=ecd) (.tmp 112) (.tmp 115) rfl rfl rfl w).trans ?_;with_reducible rfl)
     try simp only[Act.put,List.setIfInBounds_toArray,List.set_cons_zero,List.set_cons_succ]
     refine wpAnyH_take (i:=14) (oi:= ?ois115) (v:= ?vs115) ?hops115 ?hss115 ?hfs115 ?hrs115 ?hQs115 ?hys115 (by assumption) ?rests115
     case hops115=>(simp only[List.getElem?_toArray,List.getElem?_cons_zero,List.getElem?_cons_succ];rfl)
     case hss115=>kernel_rfl
     case hfs115=>kernel_rfl
     case hrs115=>kernel_rfl
     case hQs115=>exact fun _ _ _ h=>h
     case hys115=>(refine Or.inl ⟨by rfl,?_⟩;intro w hSw;(try dsimp only at hSw);go_simp<;>with_reducible rfl)
     try simp only[Act.put,List.setIfInBounds_toArray,List.set_cons_zero,List.set_cons_succ]
     refine wpAnyH_ready (rs:=[15]) (by kernel_rfl) (by simp) ?_
     refine AllReadyH.cons (o:= ?ois116) ?hops116 (fun K hK=> ?steps116) ?mores116
     case hops116=>(simp only[List.getElem?_toArray,List.getElem?_cons_zero,List.getElem?_cons_succ];rfl)
     case mores116=>exact AllReadyH.nil
     go_simp
     refine hK.out _ _ ?_ (fun hHeld=> ?_)
     ·(try dsimp only);first|with_reducible exact hKc.out _ (hA.out.2.2.1.below hG.out.1)|with_reducible exact hKc.out _ (hA.out.2.2.1.below hF.out.1)|exact hKc.out _ (((((((hA.out.2.2.1.below hG.out.1).oth hne.out _).oth hne.out _).oth hne.out _).oth hne.out _).oth hne.out _).oth hne.out _)
     clear hK K
     try simp only[Act.put,List.setIfInBounds_toArray,List.set_cons_zero,List.set_cons_succ]
     refine wpAnyH_done (by kernel_rfl) ?_ _
     refine NoPanic.normal ?_
     go_wp2_with fail
     obtain ⟨wd1,hwd⟩:∃W,((((((w3.setCell ⟨PB,6,none⟩ (.int .i64 x.b.c.c0)).setCell ⟨PB,7,none⟩ (.int .i64 x.b.c.c1)).setCell ⟨PB,8,none⟩ (.int .i64 x.b.c.c2)).setCell ⟨PB,9,none⟩ (.int .i64 x.b.c.c3)).setCell ⟨PB,10,none⟩ (.slice EB x.b.c.l.length ecb)).setCell ⟨PB,11,none⟩ (.slice ED x.b.e.length ecd))=W:=⟨_,rfl⟩
     rw[hwd]
     have hJ:Hid (Cop w wd1 N M s t qs n0 x q' Q cq x.q.length∧Cl 40 wd1 PB [.int .i64 x.a.c.c0,.int .i64 x.a.c.c1,.int .i64 x.a.c.c2,.int .i64 x.a.c.c3,.slice EA x.a.c.l.length eca,.slice EC x.a.e.length ecc,.int .i64 x.b.c.c0,.int .i64 x.b.c.c1,.int .i64 x.b.c.c2,.int .i64 x.b.c.c3,.slice EB x.b.c.l.length ecb,.slice ED x.b.e.length ecd]∧n0<PB∧Own wd1 wb1.heap.size (.slice EB x.b.c.l.length ecb) x.b.c.l∧OwnC wd1 wb1.heap.size (.slice ED x.b.e.length ecd) x.b.e∧Own wd1 wb0.heap.size (.slice EA x.a.c.l.length eca) x.a.c.l∧OwnC wd1 wb0.heap.size (.slice EC x.a.e.length ecc) x.a.e∧wb0.heap.size≤wb1.heap.size):=by
      have hp0:=hA.out.2.2.2.1.below hG.out.1
      have hs0:=hp0.sput 6 (.int .i64 x.b.c.c0)
      have hp1:=hp0.put 6 (.int .i64 x.b.c.c0)
      have hs1:=hp1.sput 7 (.int .i64 x.b.c.c1)
      have hp2:=hp1.put 7 (.int .i64 x.b.c.c1)
      have hs2:=hp2.sput 8 (.int .i64 x.b.c.c2)
      have hp3:=hp2.put 8 (.int .i64 x.b.c.c2)
      have hs3:=hp3.sput 9 (.int .i64 x.b.c.c3)
      have hp4:=hp3.put 9 (.int .i64 x.b.c.c3)
      have hs4:=hp4.sput 10 (.slice EB x.b.c.l.length ecb)
      have hp5:=hp4.put 10 (.slice EB x.b.c.l.length ecb)
      have hs5:=hp5.sput 11 (.slice ED x.b.e.length ecd)
      have hp6:=hp5.put 11 (.slice ED x.b.e.length ecd)
      have hn0:=hE.out.2.2.1
      have hq1:=hA.out.2.2.2.2.1
      have hq2:=hA.out.2.2.2.2.2
      rw[←hwd]
      have hbx:Below wd0.heap.size wd0 w3:=hA.out.1.below.trans (hG.out.1.mono hA.out.1.size)
      have hq3:=hE.out.2.2.2.2.2
      exact ⟨(hA.out.2.1.below hG.out.1).put (hs0.trans (hs1.trans (hs2.trans (hs3.trans (hs4.trans hs5))))) hn0,hp6,hn0,own_agr hG.out.2.1 ((((((Agr.set _ fun h=>by omega).trans (Agr.set _ fun h=>by omega)).trans (Agr.set _ fun h=>by omega)).trans (Agr.set _ fun h=>by omega)).trans (Agr.set _ fun h=>by omega)).trans (Agr.set _ fun h=>by omega)),own_agr hG.out.2.2 ((((((Agr.set _ fun h=>by omega).trans (Agr.set _ fun h=>by omega)).trans (Agr.set _ fun h=>by omega)).trans (Agr.set _ fun h=>by omega)).trans (Agr.set _ fun h=>by omega)).trans (Agr.set _ fun h=>by omega)),own_agr (hE.out.2.2.2.1.below hbx) ((((((Agr.set _ fun h=>by omega).trans (Agr.set _ fun h=>by omega)).trans (Agr.set _ fun h=>by omega)).trans (Agr.set _ fun h=>by omega)).trans (Agr.set _ fun h=>by omega)).trans (Agr.set _ fun h=>by omega)),own_agr (OwnG.below hE.out.2.2.2.2.1 hbx) ((((((Agr.set _ fun h=>by omega).trans (Agr.set _ fun h=>by omega)).trans (Agr.set _ fun h=>by omega)).trans (Agr.set _ fun h=>by omega)).trans (Agr.set _ fun h=>by omega)).trans (Agr.set _ fun h=>by omega)),by have:=hA.out.1.size;omega⟩
     clear hwd hF hG hCc hCl hKc hne hD0 p6 z6 p7 z7 p8 z8 p9 z9 p10 z10 p11 z11
     rw[rounds_succ]
     have hS0:Hid (∃n1,n1=wd1.heap.size∧Twn w wd1 N M s t qs s t qs n0 n1∧Bag wd1 n0 n1 n0 PB x q' Q cq EA eca EC ecc EB ecb ED ecd∧Stps wd1 Q q'∧q'.map Go.Proofs.YtkadjjmkokhldaaGreat.bare=x.q.map Go.Proofs.YtkadjjmkokhldaaGreat.bare∧q'.length=x.q.length∧(Row wd1 EA x.a.c.l∧(EA=none→eca=0))∧(Row wd1 EB x.b.c.l∧(EB=none→ecb=0))∧(RowC wd1 EC x.a.e∧RowC wd1 ED x.b.e)):=by
      have h1:=hE.out.2.2.2.2.2.1
      have h2:=hE.out.2.2.1
      have h3:=hJ.out.2.2.2.2.2.2.2
      have hc:=hJ.out.1
      exact ⟨_,rfl,hc.two _,hc.bag hJ.out.2.1 (b0:=wb0.heap.size) (b1:=wb1.heap.size) (by omega) (by omega) hJ.out.2.2.2.2.2.1 hJ.out.2.2.2.2.2.2.1 hJ.out.2.2.2.1 hJ.out.2.2.2.2.1,hc.qi.steps,hc.qi.bare,hc.qi.len,hJ.out.2.2.2.2.2.1.rows,hJ.out.2.2.2.1.rows,(OwnC.rows hJ.out.2.2.2.2.2.2.1).1,(OwnC.rows hJ.out.2.2.2.2.1).1⟩
     obtain ⟨n1,hn1,hF0⟩:=hS0.out
     have hF:Hid (n1≤wd1.heap.size∧_):=⟨Nat.le_of_eq hn1,hF0⟩
     clear hS0 hn1 hF0 hE hJ hA hx0 hx1
     have ak:=hF.out.2.2.1.cx.cell (j:=0) (v:= .int .i64 x.k) rfl
     go_upto_block 6 with fail
     clear ak
     go_cut [74] from 74 to 215 (fun v74 wx=>v74= .int .i64 k∧∃(s' t':Tab) (qs':List (List Stp)),Hid (Twn w wx N M s' t' qs' s' t' qs' n0 n1∧Bag wx n0 n1 n0 PB x q' Q cq EA eca EC ecc EB ecb ED ecd))
     case first=>as_aux_lemma =>
      by_cases h0:x.k=0
      ·as_aux_lemma =>
       have hk0:(x.k==0)=true:=by simpa using h0
       clear h0
       have a1:=hF.out.2.2.1.cx.cell (j:=1) (v:= .int .i64 x.x1) rfl
       have a2:=hF.out.2.2.1.cx.cell (j:=2) (v:= .int .i64 x.x2) rfl
       have a3:=hF.out.2.2.1.cx.cell (j:=3) (v:= .int .i64 x.x3) rfl
       have a4:=hF.out.2.2.1.cx.cell (j:=4) (v:= .int .i64 x.x4) rfl
       have a5:=hF.out.2.2.1.cx.cell (j:=5) (v:= .int .i64 x.x5) rfl
       have hC0:=doTw hF.out.2.1 hF.out.1 x.x1 x.x2 x.x3 x.x4 x.x5
       have hC:Hid _:=hC0
       clear hC0
       go_wp2_with fail
       refine Calls.mono (show Calls _ _ _ _ _ from hC.out) ?_
       rintro e we ⟨rfl,f1,f2⟩
       have hG:Hid (n1≤we.heap.size∧Twn w we N M (ndS s 2 x.x1 x.x2 x.x3 x.x4 x.x5) (ndT t 2 x.x1 x.x2 x.x3 x.x4 x.x5) qs s t qs n0 n1∧Bag we n0 n1 n0 PB x q' Q cq EA eca EC ecc EB ecb ED ecd):=⟨Nat.le_trans hF.out.1 f2.size,f1,hF.out.2.2.1.sp f2 (by decide) (by decide) (by decide)⟩
       clear f1 f2 hC
       have b1:=hG.out.2.2.cx.cell (j:=1) (v:= .int .i64 x.x1) rfl
       have b2:=hG.out.2.2.cx.cell (j:=2) (v:= .int .i64 x.x2) rfl
       have b3:=hG.out.2.2.cx.cell (j:=3) (v:= .int .i64 x.x3) rfl
       have b4:=hG.out.2.2.cx.cell (j:=4) (v:= .int .i64 x.x4) rfl
       have b5:=hG.out.2.2.cx.cell (j:=5) (v:= .int .i64 x.x5) rfl
       have hC0:=doTw hG.out.2.1.swap hG.out.1 x.x1 x.x2 x.x3 x.x4 x.x5
       have hC:Hid _:=hC0
       clear hC0
       go_wp2_with fail
       refine Calls.mono (show Calls _ _ _ _ _ from hC.out) ?_
       rintro e wf ⟨rfl,f1,f2⟩
       have hfin:Hid (Twn w wf N M (ndS s 2 x.x1 x.x2 x.x3 x.x4 x.x5) (ndT t 2 x.x1 x.x2 x.x3 x.x4 x.x5) qs (ndS s 2 x.x1 x.x2 x.x3 x.x4 x.x5) (ndT t 2 x.x1 x.x2 x.x3 x.x4 x.x5) qs n0 n1∧Bag wf n0 n1 n0 PB x q' Q cq EA eca EC ecc EB ecb ED ecd):=⟨f1.swap,hG.out.2.2.sp f2 (by decide) (by decide) (by decide)⟩
       clear f1 f2 hC hG
       go_wp2_with fail
       go_meet
       case rel=>exact ⟨rfl,_,_,_,hfin⟩
      ·have hk0:(x.k==0)=false:=by simpa using h0
       by_cases h1:x.k=1
       ·as_aux_lemma =>
        have hk1:(x.k==1)=true:=by simpa using h1
        clear h0 h1
        have p0:=hF.out.2.2.1.cp.cell (j:=0) (v:= .int .i64 x.a.c.c0) rfl
        have p1:=hF.out.2.2.1.cp.cell (j:=1) (v:= .int .i64 x.a.c.c1) rfl
        have p2:=hF.out.2.2.1.cp.cell (j:=2) (v:= .int .i64 x.a.c.c2) rfl
        have p3:=hF.out.2.2.1.cp.cell (j:=3) (v:= .int .i64 x.a.c.c3) rfl
        have p4:=hF.out.2.2.1.cp.cell (j:=4) (v:= .slice EA x.a.c.l.length eca) rfl
        have p5:=hF.out.2.2.1.cp.cell (j:=5) (v:= .slice EC x.a.e.length ecc) rfl
        have p6:=hF.out.2.2.1.cp.cell (j:=6) (v:= .int .i64 x.b.c.c0) rfl
        have p7:=hF.out.2.2.1.cp.cell (j:=7) (v:= .int .i64 x.b.c.c1) rfl
        have p8:=hF.out.2.2.1.cp.cell (j:=8) (v:= .int .i64 x.b.c.c2) rfl
        have p9:=hF.out.2.2.1.cp.cell (j:=9) (v:= .int .i64 x.b.c.c3) rfl
        have p10:=hF.out.2.2.1.cp.cell (j:=10) (v:= .slice EB x.b.c.l.length ecb) rfl
        have p11:=hF.out.2.2.1.cp.cell (j:=11) (v:= .slice ED x.b.e.length ecd) rfl
        have hC0:=takeTw hF.out.2.1 hF.out.1 x.a x.b EA EB EC ED eca ecb ecc ecd hF.out.2.2.2.2.2.2.1.1 hF.out.2.2.2.2.2.2.2.2.1 hF.out.2.2.2.2.2.2.2.1.1 hF.out.2.2.2.2.2.2.2.2.2 hxm.out.1.la hxm.out.1.lc hxm.out.1.lb hxm.out.1.ld hF.out.2.2.2.2.2.2.1.2 hF.out.2.2.2.2.2.2.2.1.2
        have hC:Hid _:=hC0
        clear hC0
        go_wp2_with fail
        refine Calls.mono (show Calls _ _ _ _ _ from hC.out) ?_
        rintro e we ⟨rfl,f1,f2⟩
        have hG:Hid (n1≤we.heap.size∧Twn w we N M (tkS s t x.a x.b) (tkT s t x.a x.b) qs s t qs n0 n1∧Bag we n0 n1 n0 PB x q' Q cq EA eca EC ecc EB ecb ED ecd):=⟨Nat.le_trans hF.out.1 f2.size,f1,hF.out.2.2.1.sp f2 (by decide) (by decide) (by decide)⟩
        clear f1 f2 hC
        have hr:=hxm.out.1.below hG.out.2.1.bel
        have b6:=hG.out.2.2.cx.cell (j:=6) (v:= .int .i64 x.a.c.c0) rfl
        have b7:=hG.out.2.2.cx.cell (j:=7) (v:= .int .i64 x.a.c.c1) rfl
        have b8:=hG.out.2.2.cx.cell (j:=8) (v:= .int .i64 x.a.c.c2) rfl
        have b9:=hG.out.2.2.cx.cell (j:=9) (v:= .int .i64 x.a.c.c3) rfl
        have b10:=hG.out.2.2.cx.cell (j:=10) (v:= .slice x.A x.a.c.l.length x.ca) rfl
        have b11:=hG.out.2.2.cx.cell (j:=11) (v:= .slice x.C x.a.e.length x.cc) rfl
        have b12:=hG.out.2.2.cx.cell (j:=12) (v:= .int .i64 x.b.c.c0) rfl
        have b13:=hG.out.2.2.cx.cell (j:=13) (v:= .int .i64 x.b.c.c1) rfl
        have b14:=hG.out.2.2.cx.cell (j:=14) (v:= .int .i64 x.b.c.c2) rfl
        have b15:=hG.out.2.2.cx.cell (j:=15) (v:= .int .i64 x.b.c.c3) rfl
        have b16:=hG.out.2.2.cx.cell (j:=16) (v:= .slice x.B x.b.c.l.length x.cb) rfl
        have b17:=hG.out.2.2.cx.cell (j:=17) (v:= .slice x.D x.b.e.length x.cd) rfl
        have hC0:=takeTw hG.out.2.1.swap hG.out.1 x.a x.b x.A x.B x.C x.D x.ca x.cb x.cc x.cd hr.ra hr.rc hr.rb hr.rd hxm.out.1.la hxm.out.1.lc hxm.out.1.lb hxm.out.1.ld hr.na hr.nb
        have hC:Hid _:=hC0
        clear hC0
        go_wp2_with fail
        refine Calls.mono (show Calls _ _ _ _ _ from hC.out) ?_
        rintro e wf ⟨rfl,f1,f2⟩
        have hfin:Hid (Twn w wf N M (tkS s t x.a x.b) (tkT s t x.a x.b) qs (tkS s t x.a x.b) (tkT s t x.a x.b) qs n0 n1∧Bag wf n0 n1 n0 PB x q' Q cq EA eca EC ecc EB ecb ED ecd):=⟨f1.swap,hG.out.2.2.sp f2 (by decide) (by decide) (by decide)⟩
        clear f1 f2 hC hG
        go_wp2_with fail
        go_meet
        case rel=>exact ⟨rfl,_,_,_,hfin⟩
       ·have hk1:(x.k==1)=false:=by simpa using h1
        by_cases h2:x.k=2
        ·as_aux_lemma =>
         have hk2:(x.k==2)=true:=by simpa using h2
         clear h0 h1 h2
         have hC0:=watchTw hF.out.2.1 hF.out.1 q' Q cq (by rw[hF.out.2.2.2.2.2.1];exact hxm.out.1.lq) hF.out.2.2.2.1
         rw[hF.out.2.2.2.2.2.1] at hC0
         have hC:Hid _:=hC0
         clear hC0
         go_wp2_with fail
         refine Calls.mono (show Calls _ _ _ _ _ from hC.out) ?_
         rintro e we ⟨rfl,f1,f2⟩
         have hG:Hid (n1≤we.heap.size∧Twn w we N M s t (wtQ x.q qs) s t qs n0 n1∧Bag we n0 n1 n0 PB x q' Q cq EA eca EC ecc EB ecb ED ecd):=⟨Nat.le_trans hF.out.1 f2.size,f1.bare (wtQ_bare hF.out.2.2.2.2.1),hF.out.2.2.1.sp f2 (by decide) (by decide) (by decide)⟩
         clear f1 f2 hC
         have hr:=hxm.out.1.below hG.out.2.1.bel
         have b18:=hG.out.2.2.cx.cell (j:=18) (v:= .slice x.Q x.q.length x.cq) rfl
         have hC0:=watchTw hG.out.2.1.swap hG.out.1 x.q x.Q x.cq hxm.out.1.lq hr.st
         have hC:Hid _:=hC0
         clear hC0
         go_wp2_with fail
         refine Calls.mono (show Calls _ _ _ _ _ from hC.out) ?_
         rintro e wf ⟨rfl,f1,f2⟩
         have hfin:Hid (Twn w wf N M s t (wtQ x.q qs) s t (wtQ x.q qs) n0 n1∧Bag wf n0 n1 n0 PB x q' Q cq EA eca EC ecc EB ecb ED ecd):=⟨f1.swap,hG.out.2.2.sp f2 (by decide) (by decide) (by decide)⟩
         clear f1 f2 hC hG
         go_wp2_with fail
         go_meet
         case rel=>exact ⟨rfl,_,_,_,hfin⟩
        ·as_aux_lemma =>
         have hk2:(x.k==2)=false:=by simpa using h2
         clear h0 h1 h2
         have hfin:Hid (Twn w wd1 N M s t qs s t qs n0 n1∧Bag wd1 n0 n1 n0 PB x q' Q cq EA eca EC ecc EB ecb ED ecd):=⟨hF.out.2.1,hF.out.2.2.1⟩
         go_wp2_with fail
         go_meet
         case rel=>exact ⟨rfl,_,_,_,hfin⟩
     case rest=>as_aux_lemma =>
      obtain ⟨rfl,s',t',qs',hG⟩:=hcut
      have hlen:Hid (q'.length=x.q.length):=hF.out.2.2.2.2.2.1
      clear hF
      go_wp2
      go_loopw [152] (fun i wr=>∃j:Nat,j≤x.q.length∧i= .int .i64 j∧Hid (Sp (HoleTo n0 n1 wc.heap.size) (fun T=>T=3∨T=90) wc wr)) (fun i _=>x.q.length-(intOf i).toNat)
      case atStart=>exact ⟨0,Nat.zero_le _,rfl,Sp.refl _ _ _⟩
      case round=>as_aux_lemma =>
       rename World=>wy
       obtain ⟨j,hj,rfl,hR⟩:=hrel
       have hBg:Hid (Bag wy n0 n1 n0 PB x q' Q cq EA eca EC ecc EB ecb ED ecd):=hG.out.2.sp hR.out (by decide) (by decide) (by decide)
       by_cases hjl:j<x.q.length
       ·have hjz:(j:Int)<(x.q.length:Int):=by omega
        have hjl':j<q'.length:=by rw[hlen.out];exact hjl
        obtain ⟨b,off',hQ,_,hcs⟩:=hBg.out.qr.at hjl'
        subst hQ
        obtain ⟨_,ho0,_⟩:=hBg.out.qs.2.2 _ rfl
        simp only at ho0
        subst ho0
        obtain ⟨y,hy⟩:∃y,q'[j]=y:=⟨_,rfl⟩
        have c6:wy.cell? ⟨b,j*7+6,none⟩=some (.slice y.p y.l.length y.n):=by
         have:=hcs j hjl' 6 (by omega)
         rw[hy,show 0+j*7+6=j*7+6 by omega] at this
         exact this
        have hrs:RowS 3 1 (Hole n0 n1) wy y.p y.l.length y.n:=hBg.out.ql y (by rw[←hy];exact List.getElem_mem hjl')
        have hC0:=spoilI_any y.p y.l.length y.n 0 n0 n1 wy (hrs.ints fun a ha=>by
         have h1:¬(a.block<n0∨n1≤a.block):=(hrs.2.2 a ha).1
         omega)
        clear hcs hy hrs
        have hC:Hid _:=hC0
        clear hC0
        go_wp2_with fail
        refine Calls.mono (show Calls _ _ _ _ _ from hC.out) ?_
        rintro e w1 ⟨rfl,f1⟩
        have hfin:Hid (Sp (HoleTo n0 n1 wc.heap.size) (fun T=>T=3∨T=90) wc w1):=hR.out.trans (Sp.ofSpl f1 fun b hb=>hb.1)
        clear f1 hC hR hBg c6
        go_wp2
        go_roundw
        case rel=>exact ⟨j+1,by omega,by go_num,hfin⟩
        case measure=>simp[intOf];omega
       ·have hjz:¬(j:Int)<(x.q.length:Int):=by omega
        have hC0:=spoilQ_any Q q'.length cq (HoleTo n0 n1 wc.heap.size) wy hBg.out.qs.to
        rw[hlen.out] at hC0
        have hC:Hid _:=hC0
        clear hC0
        go_wp2_with fail
        refine Calls.mono (show Calls _ _ _ _ _ from hC.out) ?_
        rintro e w5 ⟨rfl,f1⟩
        have hS:Hid (Sp (HoleTo n0 n1 wc.heap.size) SpT wc w5∧Bag2 w5 n0 n1 wc.heap.size PB x.a x.b EA eca EC ecc EB ecb ED ecd):=by
         have h1:=hR.out.kinds SpT.i
         have h2:=f1.kinds SpT.q
         exact ⟨h1.trans h2,(hBg.out.two _).sp h2⟩
        clear f1 hC hBg hR
        as_aux_lemma =>
        have hC0:=wholeTw (hG.out.1.sp hS.out.1)
        have hC:Hid _:=hC0
        clear hC0
        go_wp2_with fail
        refine Calls.mono (show Calls _ _ _ _ _ from hC.out) ?_
        rintro e w6 ⟨GA,gca,GC,gcc,GB,gcb,GD,gcd,rfl,⟨f1,f2⟩,⟨f3,f4⟩,f5⟩
        obtain ⟨w7,hw7⟩:∃W,w6.alloc (.cells #[.int .i64 s'.c.c0,.int .i64 s'.c.c1,.int .i64 s'.c.c2,.int .i64 s'.c.c3,.slice GA s'.c.l.length gca,.slice GC s'.e.length gcc,.int .i64 t'.c.c0,.int .i64 t'.c.c1,.int .i64 t'.c.c2,.int .i64 t'.c.c3,.slice GB t'.c.l.length gcb,.slice GD t'.e.length gcd] 40)=W:=⟨_,rfl⟩
        have hV:Hid (Sp (HoleTo n0 n1 wc.heap.size) SpT wc w7∧Bag2 w7 n0 n1 wc.heap.size PB x.a x.b EA eca EC ecc EB ecb ED ecd∧Bag2 w7 n0 n1 wc.heap.size w6.heap.size s' t' GA gca GC gcc GB gcb GD gcd):=by
         have hg:Gr w6 w7:=by rw[←hw7];exact (Gr.refl _).alloc _
         have hb:=f5.trans (hg.below.mono f5.size)
         have hsz:=hS.out.1.size
         refine ⟨hS.out.1.trans (Sp.of hb),hS.out.2.sp (K:=fun _=>True) (Sp.of hb),by rw[←hw7];exact Cl.new w6 _ _,RowS.late (f1.below hg.below) hsz,RowS.late (OwnG.below f2 hg.below) hsz,RowS.late (f3.below hg.below) hsz,RowS.late (OwnG.below f4 hg.below) hsz⟩
        clear f1 f2 f3 f4 f5 hC hS
        go_wp2_with fail
        clear hw7
        generalize w6.heap.size=WB at hV ⊢
        refine wp_loop_rounds 3 ?_
        rw[rounds_succ]
        have c1:=hV.out.2.2.cp.cell (j:=5) (v:= .slice GC s'.e.length gcc) rfl
        have hC0:=spoilC_any GC s'.e.length gcc (HoleTo n0 n1 wc.heap.size) w7 hV.out.2.2.rC
        have hC:Hid _:=hC0
        clear hC0
        go_wp2_with fail
        refine Calls.mono (show Calls _ _ _ _ _ from hC.out) ?_
        rintro e v1 ⟨rfl,f1⟩
        have hVn:Hid (Sp (HoleTo n0 n1 wc.heap.size) SpT wc v1∧Bag2 v1 n0 n1 wc.heap.size PB x.a x.b EA eca EC ecc EB ecb ED ecd∧Bag2 v1 n0 n1 wc.heap.size WB s' t' GA gca GC gcc GB gcb GD gcd):=by
         have h2:=f1.kinds SpT.c
         exact ⟨hV.out.1.trans h2,hV.out.2.1.sp h2,hV.out.2.2.sp h2⟩
        clear f1 hC hV c1
        have hV:=hVn
        clear hVn
        have c2:=hV.out.2.2.cp.cell (j:=4) (v:= .slice GA s'.c.l.length gca) rfl
        have hC0:=spoilD_any GA s'.c.l.length gca (HoleTo n0 n1 wc.heap.size) v1 hV.out.2.2.rA
        have hC:Hid _:=hC0
        clear hC0
        go_wp2_with fail
        refine Calls.mono (show Calls _ _ _ _ _ from hC.out) ?_
        rintro e v2 ⟨rfl,f1⟩
        have hVn:Hid (Sp (HoleTo n0 n1 wc.heap.size) SpT wc v2∧Bag2 v2 n0 n1 wc.heap.size PB x.a x.b EA eca EC ecc EB ecb ED ecd∧Bag2 v2 n0 n1 wc.heap.size WB s' t' GA gca GC gcc GB gcb GD gcd):=by
         have h2:=f1.kinds SpT.d
         exact ⟨hV.out.1.trans h2,hV.out.2.1.sp h2,hV.out.2.2.sp h2⟩
        clear f1 hC hV c2
        have hV:=hVn
        clear hVn
        have c3:=hV.out.2.1.cp.cell (j:=5) (v:= .slice EC x.a.e.length ecc) rfl
        have hC0:=spoilC_any EC x.a.e.length ecc (HoleTo n0 n1 wc.heap.size) v2 hV.out.2.1.rC
        have hC:Hid _:=hC0
        clear hC0
        go_wp2_with fail
        refine Calls.mono (show Calls _ _ _ _ _ from hC.out) ?_
        rintro e v3 ⟨rfl,f1⟩
        have hVn:Hid (Sp (HoleTo n0 n1 wc.heap.size) SpT wc v3∧Bag2 v3 n0 n1 wc.heap.size PB x.a x.b EA eca EC ecc EB ecb ED ecd∧Bag2 v3 n0 n1 wc.heap.size WB s' t' GA gca GC gcc GB gcb GD gcd):=by
         have h2:=f1.kinds SpT.c
         exact ⟨hV.out.1.trans h2,hV.out.2.1.sp h2,hV.out.2.2.sp h2⟩
        clear f1 hC hV c3
        have hV:=hVn
        clear hVn
        have c4:=hV.out.2.1.cp.cell (j:=4) (v:= .slice EA x.a.c.l.length eca) rfl
        have hC0:=spoilD_any EA x.a.c.l.length eca (HoleTo n0 n1 wc.heap.size) v3 hV.out.2.1.rA
        have hC:Hid _:=hC0
        clear hC0
        go_wp2_with fail
        refine Calls.mono (show Calls _ _ _ _ _ from hC.out) ?_
        rintro e v4 ⟨rfl,f1⟩
        have hVn:Hid (Sp (HoleTo n0 n1 wc.heap.size) SpT wc v4∧Bag2 v4 n0 n1 wc.heap.size PB x.a x.b EA eca EC ecc EB ecb ED ecd∧Bag2 v4 n0 n1 wc.heap.size WB s' t' GA gca GC gcc GB gcb GD gcd):=by
         have h2:=f1.kinds SpT.d
         exact ⟨hV.out.1.trans h2,hV.out.2.1.sp h2,hV.out.2.2.sp h2⟩
        clear f1 hC hV c4
        have hV:=hVn
        clear hVn
        go_wp2_with fail
        rw[rounds_succ]
        have c5:=hV.out.2.2.cp.cell (j:=11) (v:= .slice GD t'.e.length gcd) rfl
        have hC0:=spoilC_any GD t'.e.length gcd (HoleTo n0 n1 wc.heap.size) v4 hV.out.2.2.rD
        have hC:Hid _:=hC0
        clear hC0
        go_wp2_with fail
        refine Calls.mono (show Calls _ _ _ _ _ from hC.out) ?_
        rintro e v5 ⟨rfl,f1⟩
        have hVn:Hid (Sp (HoleTo n0 n1 wc.heap.size) SpT wc v5∧Bag2 v5 n0 n1 wc.heap.size PB x.a x.b EA eca EC ecc EB ecb ED ecd∧Bag2 v5 n0 n1 wc.heap.size WB s' t' GA gca GC gcc GB gcb GD gcd):=by
         have h2:=f1.kinds SpT.c
         exact ⟨hV.out.1.trans h2,hV.out.2.1.sp h2,hV.out.2.2.sp h2⟩
        clear f1 hC hV c5
        have hV:=hVn
        clear hVn
        have c6:=hV.out.2.2.cp.cell (j:=10) (v:= .slice GB t'.c.l.length gcb) rfl
        have hC0:=spoilD_any GB t'.c.l.length gcb (HoleTo n0 n1 wc.heap.size) v5 hV.out.2.2.rB
        have hC:Hid _:=hC0
        clear hC0
        go_wp2_with fail
        refine Calls.mono (show Calls _ _ _ _ _ from hC.out) ?_
        rintro e v6 ⟨rfl,f1⟩
        have hVn:Hid (Sp (HoleTo n0 n1 wc.heap.size) SpT wc v6∧Bag2 v6 n0 n1 wc.heap.size PB x.a x.b EA eca EC ecc EB ecb ED ecd∧Bag2 v6 n0 n1 wc.heap.size WB s' t' GA gca GC gcc GB gcb GD gcd):=by
         have h2:=f1.kinds SpT.d
         exact ⟨hV.out.1.trans h2,hV.out.2.1.sp h2,hV.out.2.2.sp h2⟩
        clear f1 hC hV c6
        have hV:=hVn
        clear hVn
        have c7:=hV.out.2.1.cp.cell (j:=11) (v:= .slice ED x.b.e.length ecd) rfl
        have hC0:=spoilC_any ED x.b.e.length ecd (HoleTo n0 n1 wc.heap.size) v6 hV.out.2.1.rD
        have hC:Hid _:=hC0
        clear hC0
        go_wp2_with fail
        refine Calls.mono (show Calls _ _ _ _ _ from hC.out) ?_
        rintro e v7 ⟨rfl,f1⟩
        have hVn:Hid (Sp (HoleTo n0 n1 wc.heap.size) SpT wc v7∧Bag2 v7 n0 n1 wc.heap.size PB x.a x.b EA eca EC ecc EB ecb ED ecd∧Bag2 v7 n0 n1 wc.heap.size WB s' t' GA gca GC gcc GB gcb GD gcd):=by
         have h2:=f1.kinds SpT.c
         exact ⟨hV.out.1.trans h2,hV.out.2.1.sp h2,hV.out.2.2.sp h2⟩
        clear f1 hC hV c7
        have hV:=hVn
        clear hVn
        have c8:=hV.out.2.1.cp.cell (j:=10) (v:= .slice EB x.b.c.l.length ecb) rfl
        have hC0:=spoilD_any EB x.b.c.l.length ecb (HoleTo n0 n1 wc.heap.size) v7 hV.out.2.1.rB
        have hC:Hid _:=hC0
        clear hC0
        go_wp2_with fail
        refine Calls.mono (show Calls _ _ _ _ _ from hC.out) ?_
        rintro e v8 ⟨rfl,f1⟩
        have hVn:Hid (Sp (HoleTo n0 n1 wc.heap.size) SpT wc v8∧Bag2 v8 n0 n1 wc.heap.size PB x.a x.b EA eca EC ecc EB ecb ED ecd∧Bag2 v8 n0 n1 wc.heap.size WB s' t' GA gca GC gcc GB gcb GD gcd):=by
         have h2:=f1.kinds SpT.d
         exact ⟨hV.out.1.trans h2,hV.out.2.1.sp h2,hV.out.2.2.sp h2⟩
        clear f1 hC hV c8
        have hV:=hVn
        clear hVn
        go_wp2_with fail
        rw[rounds_succ]
        have hT:Hid (Sp (HoleTo n0 n1 wc.heap.size) SpT wc v8):=hV.out.1
        clear hV
        have hC0:=viewsTw (hG.out.1.sp hT.out)
        have hC:Hid _:=hC0
        clear hC0
        go_wp2_with fail
        refine Calls.mono (show Calls _ _ _ _ _ from hC.out) ?_
        rintro e v9 ⟨rfl,hv9⟩
        subst hv9
        have hq4:qs'.length≤4:=hG.out.1.le
        clear hC
        go_wp2
        go_loopw [203] (fun i wr=>∃j:Nat,j≤qs'.length∧i= .int .i64 j∧Hid (Sp (HoleTo n0 n1 wc.heap.size) SpT wc wr)) (fun i _=>qs'.length-(intOf i).toNat)
        case atStart=>exact ⟨0,Nat.zero_le _,rfl,hT⟩
        case round=>as_aux_lemma =>
         clear hT
         rename World=>wy
         obtain ⟨j,hj,rfl,hR⟩:=hrel
         by_cases hjl:j<qs'.length
         ·have hjz:(j:Int)<(qs'.length:Int):=by omega
          have hC0:=viewTw (hG.out.1.sp hR.out) hjl
          obtain ⟨E,hEE⟩:∃E,plnE qs'[j] (ofR s') (ofR t')=E:=⟨_,rfl⟩
          rw[hEE] at hC0
          clear hEE
          have hC:Hid _:=hC0
          clear hC0
          go_wp2_with fail
          refine Calls.mono (show Calls _ _ _ _ _ from hC.out) ?_
          rintro e w8 ⟨LL,C,kk,rfl,f0,f1,f2,f3⟩
          have hU:Hid (Sp (HoleTo n0 n1 wc.heap.size) SpT wc w8∧SetW w8 wy.heap.size w8.heap.size C LL.length kk∧∀b,HoleTo n0 n1 wc.heap.size b→b<wy.heap.size∨w8.heap.size≤b):=⟨hR.out.trans (Sp.of f2),f3.spoil f1 hR.out.size⟩
          clear f0 f1 f2 f3 hC hR
          have hC0:=spoilSet_any C LL.length kk wy.heap.size w8.heap.size w8 hU.out.2.1 (Nat.le_refl _)
          have hC:Hid _:=hC0
          clear hC0
          go_wp2_with fail
          refine Calls.mono (show Calls _ _ _ _ _ from hC.out) ?_
          rintro e w9 ⟨rfl,f1⟩
          have hfin:Hid (Sp (HoleTo n0 n1 wc.heap.size) SpT wc w9):=hU.out.1.trans ((Sp.ofSpl f1 hU.out.2.2).kinds SpT.i)
          clear f1 hC hU
          go_wp2
          go_roundw
          case rel=>exact ⟨j+1,by omega,by go_num,hfin⟩
          case measure=>simp[intOf];omega
         ·have hjz:¬(j:Int)<(qs'.length:Int):=by omega
          have hfin:Hid (Twn w wy N M s' t' qs' s' t' qs' n0 n1):=hG.out.1.sp hR.out
          clear hR
          go_wp2
          go_roundw
          case rel=>exact ⟨k+1,s',t',qs',n0,n1,by omega,by go_num,hfin⟩
          case measure=>simp[intOf];omega
  ·have hltz:¬(k:Int)<(l.length:Int):=by omega
   as_aux_lemma =>
   have hC0:=viewsTw hR.out
   have hC:Hid _:=hC0
   clear hC0
   go_wp2_with fail
   refine Calls.mono (show Calls _ _ _ _ _ from hC.out) ?_
   rintro e wq ⟨rfl,hwq⟩
   subst hwq
   have hq4:qs.length≤4:=hR.out.le
   clear hC
   go_wp2
   generalize wq=wz at hR ⊢
   go_loopw [218] (fun i wr=>∃j:Nat,j≤qs.length∧i= .int .i64 j∧Hid (Below wz.heap.size wz wr)) (fun i _=>qs.length-(intOf i).toNat)
   case atStart=>exact ⟨0,Nat.zero_le _,rfl,Below.refl _ _⟩
   case round=>as_aux_lemma =>
    rename World=>wy
    obtain ⟨j,hj,rfl,hZ⟩:=hrel
    have hT:Hid (Twn w wy N M s t qs s t qs n00 n11):=hR.out.below hZ.out
    by_cases hjl:j<qs.length
    ·have hjz:(j:Int)<(qs.length:Int):=by omega
     have hC0:=viewTw hT.out hjl
     obtain ⟨E,hE⟩:∃E,plnE qs[j] (ofR s) (ofR t)=E:=⟨_,rfl⟩
     obtain ⟨F,hF⟩:∃F,evlF qs[j] (ofR s) (ofR t)=F:=⟨_,rfl⟩
     rw[hE,hF] at hC0
     have hC:Hid _:=hC0
     clear hC0
     go_wp2_with fail
     refine Calls.mono (show Calls _ _ _ _ _ from hC.out) ?_
     rintro e w1 ⟨L1,C1,k1,rfl,g1,g2,g3,_⟩
     have hS1:Hid (Below wy.heap.size wy w1∧Lv w1 C1 k1 L1∧L1.map Itm.z=F):=⟨g3,g2,g1⟩
     clear g1 g2 g3 hC
     have hC0:=viewTw (hT.out.below hS1.out.1).swap hjl
     rw[hE,hF] at hC0
     clear hE hF
     have hC:Hid _:=hC0
     clear hC0
     go_wp2_with fail
     refine Calls.mono (show Calls _ _ _ _ _ from hC.out) ?_
     rintro e w2 ⟨L2,C2,k2,rfl,g1,g2,g3,_⟩
     have hS2:Hid (Below wy.heap.size wy w2∧Lv w2 C1 k1 L1∧Lv w2 C2 k2 L2∧L1.map Itm.z=L2.map Itm.z):=⟨hS1.out.1.trans (g3.mono hS1.out.1.size),hS1.out.2.1.below g3,g2,by rw[g1,hS1.out.2.2]⟩
     clear g1 g2 g3 hC hS1
     have hC0:=sameV hS2.out.2.1 hS2.out.2.2.1 hS2.out.2.2.2
     have hEE:(E != E)=false:=by simp
     have hC:Hid _:=hC0
     clear hC0
     go_wp2_with fail
     refine Calls.mono (show Calls _ _ _ _ _ from hC.out) ?_
     rintro e w3 ⟨rfl,g1⟩
     have hfin:Hid (Below wz.heap.size wz w3):=by
      have h1:=hS2.out.1.trans (g1.below.mono hS2.out.1.size)
      exact hZ.out.trans (h1.mono hZ.out.size)
     clear g1 hC hS2 hT hZ
     go_wp2
     go_roundw
     case rel=>exact ⟨j+1,by omega,by go_num,hfin⟩
     case measure=>simp[intOf];omega
    ·have hjz:¬(j:Int)<(qs.length:Int):=by omega
     clear hZ hR
     as_aux_lemma =>
     have hC0:=wholeTw hT.out
     have hC:Hid _:=hC0
     clear hC0
     go_wp2_with fail
     refine Calls.mono (show Calls _ _ _ _ _ from hC.out) ?_
     rintro e w6 ⟨GA,gca,GC,gcc,GB,gcb,GD,gcd,rfl,⟨f1,f2⟩,⟨f3,f4⟩,f5⟩
     have hS:Hid (Twn w w6 N M s t qs s t qs n00 n11∧(Row w6 GA s.c.l∧RowC w6 GC s.e∧Row w6 GB t.c.l∧RowC w6 GD t.e)):=⟨hT.out.below f5,f1.rows.1,(OwnC.rows f2).1,f3.rows.1,(OwnC.rows f4).1⟩
     clear f1 f2 f3 f4 f5 hC hT
     have hC0:=wholeTw hS.out.1.swap
     have hC:Hid _:=hC0
     clear hC0
     go_wp2_with fail
     refine Calls.mono (show Calls _ _ _ _ _ from hC.out) ?_
     rintro e w7 ⟨HA,hca,HC,hcc,HB,hcb,HD,hcd,rfl,⟨f1,f2⟩,⟨f3,f4⟩,f5⟩
     have hU:Hid (Twn w w7 N M s t qs s t qs n00 n11∧(Row w7 GA s.c.l∧RowC w7 GC s.e∧Row w7 GB t.c.l∧RowC w7 GD t.e)∧(Row w7 HA s.c.l∧RowC w7 HC s.e∧Row w7 HB t.c.l∧RowC w7 HD t.e)):=⟨hS.out.1.below f5,⟨hS.out.2.1.below f5,hS.out.2.2.1.below f5,hS.out.2.2.2.1.below f5,hS.out.2.2.2.2.below f5⟩,f1.rows.1,(OwnC.rows f2).1,f3.rows.1,(OwnC.rows f4).1⟩
     clear f1 f2 f3 f4 f5 hC hS
     go_upto_region 65 with fail
     obtain ⟨w8,hw8⟩:∃W,((w7.alloc (.cells #[.int .i64 s.c.c0,.int .i64 s.c.c1,.int .i64 s.c.c2,.int .i64 s.c.c3,.slice GA s.c.l.length gca,.slice GC s.e.length gcc,.int .i64 t.c.c0,.int .i64 t.c.c1,.int .i64 t.c.c2,.int .i64 t.c.c3,.slice GB t.c.l.length gcb,.slice GD t.e.length gcd] 40)).alloc (.cells #[.int .i64 s.c.c0,.int .i64 s.c.c1,.int .i64 s.c.c2,.int .i64 s.c.c3,.slice HA s.c.l.length hca,.slice HC s.e.length hcc,.int .i64 t.c.c0,.int .i64 t.c.c1,.int .i64 t.c.c2,.int .i64 t.c.c3,.slice HB t.c.l.length hcb,.slice HD t.e.length hcd] 40))=W:=⟨_,rfl⟩
     rw[hw8]
     have hg:Hid (Gr w7 w8):=by rw[←hw8];exact ((Gr.refl _).alloc _).alloc _
     have hK:Hid (Cls w8 w7.heap.size [.int .i64 s.c.c0,.int .i64 s.c.c1,.int .i64 s.c.c2,.int .i64 s.c.c3,.slice GA s.c.l.length gca,.slice GC s.e.length gcc,.int .i64 t.c.c0,.int .i64 t.c.c1,.int .i64 t.c.c2,.int .i64 t.c.c3,.slice GB t.c.l.length gcb,.slice GD t.e.length gcd]∧Cls w8 (w7.heap.size+1) [.int .i64 s.c.c0,.int .i64 s.c.c1,.int .i64 s.c.c2,.int .i64 s.c.c3,.slice HA s.c.l.length hca,.slice HC s.e.length hcc,.int .i64 t.c.c0,.int .i64 t.c.c1,.int .i64 t.c.c2,.int .i64 t.c.c3,.slice HB t.c.l.length hcb,.slice HD t.e.length hcd]):=by
      rw[←hw8]
      refine ⟨(Cls.new w7 _ _).gr ((Gr.refl _).alloc _),?_⟩
      have:=Cls.new (w7.alloc (.cells #[.int .i64 s.c.c0,.int .i64 s.c.c1,.int .i64 s.c.c2,.int .i64 s.c.c3,.slice GA s.c.l.length gca,.slice GC s.e.length gcc,.int .i64 t.c.c0,.int .i64 t.c.c1,.int .i64 t.c.c2,.int .i64 t.c.c3,.slice GB t.c.l.length gcb,.slice GD t.e.length gcd] 40)) #[.int .i64 s.c.c0,.int .i64 s.c.c1,.int .i64 s.c.c2,.int .i64 s.c.c3,.slice HA s.c.l.length hca,.slice HC s.e.length hcc,.int .i64 t.c.c0,.int .i64 t.c.c1,.int .i64 t.c.c2,.int .i64 t.c.c3,.slice HB t.c.l.length hcb,.slice HD t.e.length hcd] 40
      rw[show (w7.alloc (.cells #[.int .i64 s.c.c0,.int .i64 s.c.c1,.int .i64 s.c.c2,.int .i64 s.c.c3,.slice GA s.c.l.length gca,.slice GC s.e.length gcc,.int .i64 t.c.c0,.int .i64 t.c.c1,.int .i64 t.c.c2,.int .i64 t.c.c3,.slice GB t.c.l.length gcb,.slice GD t.e.length gcd] 40)).heap.size=w7.heap.size+1 by simp] at this
      exact this
     clear hw8
     have ag0:=hK.out.1.cell (j:=0) (v:= .int .i64 s.c.c0) rfl
     have ag1:=hK.out.1.cell (j:=1) (v:= .int .i64 s.c.c1) rfl
     have ag2:=hK.out.1.cell (j:=2) (v:= .int .i64 s.c.c2) rfl
     have ag3:=hK.out.1.cell (j:=3) (v:= .int .i64 s.c.c3) rfl
     have ag4:=hK.out.1.cell (j:=4) (v:= .slice GA s.c.l.length gca) rfl
     have ag5:=hK.out.1.cell (j:=5) (v:= .slice GC s.e.length gcc) rfl
     have ah0:=hK.out.2.cell (j:=0) (v:= .int .i64 s.c.c0) rfl
     have ah1:=hK.out.2.cell (j:=1) (v:= .int .i64 s.c.c1) rfl
     have ah2:=hK.out.2.cell (j:=2) (v:= .int .i64 s.c.c2) rfl
     have ah3:=hK.out.2.cell (j:=3) (v:= .int .i64 s.c.c3) rfl
     have ah4:=hK.out.2.cell (j:=4) (v:= .slice HA s.c.l.length hca) rfl
     have ah5:=hK.out.2.cell (j:=5) (v:= .slice HC s.e.length hcc) rfl
     have hlens:Hid (s.c.l.length≤maxLen∧s.e.length≤maxLen∧t.c.l.length≤maxLen∧t.e.length≤maxLen):=by
      have h1:=(errC_parts (errT_parts hU.out.1.ok.1).1).2.1
      have h2:=(errT_parts hU.out.1.ok.1).2.1
      have h3:=(errC_parts (errT_parts hU.out.1.ok.2).1).2.1
      have h4:=(errT_parts hU.out.1.ok.2).2.1
      unfold maxLen
      exact ⟨by omega,by omega,by omega,by omega⟩
     have hC0:=sameT_any s s GA GC HA HC gca gcc hca hcc w8 hlens.out.1 hlens.out.1 hlens.out.2.1 hlens.out.2.1 (hU.out.2.1.1.gr hg.out) (hU.out.2.2.1.gr hg.out) (hU.out.2.1.2.1.gr hg.out) (hU.out.2.2.2.1.gr hg.out)
     rw[sameT_self] at hC0
     have hC:Hid _:=hC0
     clear hC0
     go_wp2_with fail
     refine Calls.mono (show Calls _ _ _ _ _ from hC.out) ?_
     rintro e w9 ⟨rfl,f1⟩
     have hX:Hid (Gr w7 w9∧Cls w9 w7.heap.size [.int .i64 s.c.c0,.int .i64 s.c.c1,.int .i64 s.c.c2,.int .i64 s.c.c3,.slice GA s.c.l.length gca,.slice GC s.e.length gcc,.int .i64 t.c.c0,.int .i64 t.c.c1,.int .i64 t.c.c2,.int .i64 t.c.c3,.slice GB t.c.l.length gcb,.slice GD t.e.length gcd]∧Cls w9 (w7.heap.size+1) [.int .i64 s.c.c0,.int .i64 s.c.c1,.int .i64 s.c.c2,.int .i64 s.c.c3,.slice HA s.c.l.length hca,.slice HC s.e.length hcc,.int .i64 t.c.c0,.int .i64 t.c.c1,.int .i64 t.c.c2,.int .i64 t.c.c3,.slice HB t.c.l.length hcb,.slice HD t.e.length hcd]):=⟨hg.out.trans f1,hK.out.1.gr f1,hK.out.2.gr f1⟩
     clear f1 hC hK hg ag0 ah0 ag1 ah1 ag2 ah2 ag3 ah3 ag4 ah4 ag5 ah5
     have bg6:=hX.out.2.1.cell (j:=6) (v:= .int .i64 t.c.c0) rfl
     have bg7:=hX.out.2.1.cell (j:=7) (v:= .int .i64 t.c.c1) rfl
     have bg8:=hX.out.2.1.cell (j:=8) (v:= .int .i64 t.c.c2) rfl
     have bg9:=hX.out.2.1.cell (j:=9) (v:= .int .i64 t.c.c3) rfl
     have bg10:=hX.out.2.1.cell (j:=10) (v:= .slice GB t.c.l.length gcb) rfl
     have bg11:=hX.out.2.1.cell (j:=11) (v:= .slice GD t.e.length gcd) rfl
     have bh6:=hX.out.2.2.cell (j:=6) (v:= .int .i64 t.c.c0) rfl
     have bh7:=hX.out.2.2.cell (j:=7) (v:= .int .i64 t.c.c1) rfl
     have bh8:=hX.out.2.2.cell (j:=8) (v:= .int .i64 t.c.c2) rfl
     have bh9:=hX.out.2.2.cell (j:=9) (v:= .int .i64 t.c.c3) rfl
     have bh10:=hX.out.2.2.cell (j:=10) (v:= .slice HB t.c.l.length hcb) rfl
     have bh11:=hX.out.2.2.cell (j:=11) (v:= .slice HD t.e.length hcd) rfl
     have hC0:=sameT_any t t GB GD HB HD gcb gcd hcb hcd w9 hlens.out.2.2.1 hlens.out.2.2.1 hlens.out.2.2.2 hlens.out.2.2.2 (hU.out.2.1.2.2.1.gr hX.out.1) (hU.out.2.2.2.2.1.gr hX.out.1) (hU.out.2.1.2.2.2.gr hX.out.1) (hU.out.2.2.2.2.2.gr hX.out.1)
     rw[sameT_self] at hC0
     have hC:Hid _:=hC0
     clear hC0
     go_wp2_with fail
     refine Calls.mono (show Calls _ _ _ _ _ from hC.out) ?_
     rintro e w10 ⟨rfl,f1⟩
     have hfin:Hid (Below w.heap.size w w10):=hU.out.1.bel.trans ((hX.out.1.trans f1).below.mono hU.out.1.bel.size)
     clear f1 hC hX hU bg6 bh6 bg7 bh7 bg8 bh8 bg9 bh9 bg10 bh10 bg11 bh11
     go_wp2
     go_ret
     exact ⟨rfl,hfin.out⟩
end Go.Proofs.YtkadjjmkokhldaaGreat
