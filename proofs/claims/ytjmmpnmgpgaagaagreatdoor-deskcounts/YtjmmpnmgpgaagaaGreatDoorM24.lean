import Derived.Test.YtjmmpnmgpgaagaaGreatDoorM22
import Derived.Test.YtjmmpnmgpgaagaaGreatDoorM23
import Derived.Deep.MidRow
import Derived.Deep.CutRange
set_option maxRecDepth 100000
set_option maxHeartbeats 8000000
open Go renaming World → ib, Calls → ik, Addr → ix
open Go.Ending renaming returned → ia
open Go.IntKind renaming i64 → I
open Go.Obj renaming cells → ih
open Go.Proofs.Tryz renaming prog → d
open Go.RowKit renaming Below → H, Hid → K
open Go.Value renaming int → J, slice → Z, pointer → ic, tuple → ka, agg → kb
namespace Go.Proofs.YtjmmpnmgpgaagaaGreatDoor
open Go.RowKit Go.Sort

theorem D8 {w:ib} {N O:Nat} {P:Nat->Prop} {id:Int} {s t:Tab} {qs:List (List Stp)} (h:Nd w N O P id s t qs) (k f g j n:Int) :
  ik d 93 #[ic (some ⟨N,O,none⟩),kb #[J I k,J I f,J I g,J I j,J I n]] w fun e w'=>e= ia (J I (ndE s t id k f g j n))/\Nd w' N O (af P w.heap.size w'.heap.size) id (ndS s id k f g j n) (ndT t id k f g j n) qs/\Wr N (O+1) (O+37) w w':=by
 by_cases C:f=0
 ·subst C
  exact Bn h k g j n
 ·by_cases E:f=1
  ·subst E
   exact Bo h k g j n
  ·have L:ndE s t id k f g j n=1:=by unfold ndE;rw[if_neg C,if_neg E]
   have R:ndS s id k f g j n=s:=by unfold ndS;rw[if_neg C]
   have e3:ndT t id k f g j n=t:=by unfold ndT;rw[if_neg E]
   rw[L,R,e3]
   have u:=ja1 h
   clear h L R e3
   have hg:K (Gr w (w.alloc (ih #[J I k,J I f,J I g,J I j,J I n] 95))):=(gR w).alloc _
   have r:K (Nd (w.alloc (ih #[J I k,J I f,J I g,J I j,J I n] 95)) N O (af P w.heap.size (w.alloc (ih #[J I k,J I f,J I g,J I j,J I n] 95)).heap.size) id s t qs/\Wr N (O+1) (O+37) w (w.alloc (ih #[J I k,J I f,J I g,J I j,J I n] 95))):=by
    have hn:=u.out.below hg.out.below
    exact ⟨hn.mono (fun b F=>af.old b F) (da u.out.out u.out.blk.lt) (fq fun b F=>hn.up b F),Wr.of hg.out.below u.out.blk.lt⟩
   by_cases h2:f<0
   ·go_enter Tryz.func93,Tryz.ntmps93
    go_wp2
    go_ret
    exact ⟨rfl,r.out⟩
   ·have h3:2<=f:=by omega
    go_enter Tryz.func93,Tryz.ntmps93
    go_wp2
    go_ret
    exact ⟨rfl,r.out⟩

def bj (w:ib) (B:Nat) (P:Nat->Prop) (w':ib) (M:NetM) (Q:Nat->List (List Stp)):Prop:=(∃P',NetP w' B P' M Q/\∀b,P' b->P b\/w.heap.size<=b)/\Wr B 0 153 w w'
section
variable {w w1 w':ib} {B:Nat} {P:Nat->Prop} {M M':NetM} {Q Q':Nat->List (List Stp)}
theorem bj.same (h:NetP w B P M Q) (k:H w.heap.size w w'):bj w B P w' M Q:=⟨⟨P,h.below k,fun _ h=>oL h⟩,Wr.of k h.lt⟩
theorem bj.ahead (k:H w.heap.size w w1) (n:B<w.heap.size) (h:bj w1 B P w' M Q):bj w B P w' M Q:=by
 obtain ⟨⟨P',f,g⟩,j⟩:=h
 exact ⟨⟨P',f,fun b r=>(g b r).imp id fun h=>nT k.size h⟩,(Wr.of k n).trans j⟩
theorem bj.behind (h:bj w B P w1 M Q) (k:H w1.heap.size w1 w'):bj w B P w' M Q:=by
 obtain ⟨⟨P',f,g⟩,j⟩:=h
 exact ⟨⟨P',f.below k,g⟩,j.trans (Wr.of k f.lt)⟩
theorem bj.then (h:bj w B P w1 M Q) (k:∀P',NetP w1 B P' M Q->bj w1 B P' w' M' Q'):bj w B P w' M' Q':=by
 obtain ⟨⟨P',j,n⟩,f⟩:=h
 obtain ⟨⟨g,u,C⟩,E⟩:=k P' j
 exact ⟨⟨g,u,fun b r=>(C b r).elim (n b) fun h=>oR (nT f.size h)⟩,f.trans E⟩
theorem NetP.call (h:NetP w B P M Q) {i lo hi:Nat} (f:i<4) {s t:Tab} {qs:List (List Stp)} (g:Nd w' B (i*38) (af P w.heap.size w'.heap.size) i s t qs) (j:Wr B (i*38+lo) (i*38+hi) w w') (r:hi<=38):bj w B P w' ⟨upd M.s i s,upd M.t i t,M.pk⟩ (iH Q i qs) :=
 have k:=h.wrote f g j r
 ⟨⟨_,k.1,fun _ n=>n.imp id fun h=>h.1⟩,k.2⟩
end
theorem bZ (i:Nat) (hi:i<4) (w:ib):ik d 83 #[J I i] w fun e w'=>e= ia (.bool true)/\w'=w:=by
 have f:(0:Int)<=(i:Int):=by omega
 have g:(i:Int)<4:=by omega
 go_enter Tryz.func83,Tryz.ntmps83
 go_wp2
 go_ret
 exact ⟨rfl,rfl⟩
theorem fu (a:Int) (h:¬isN a) (w:ib):ik d 83 #[J I a] w fun e w'=>e= ia (.bool false)/\w'=w:=by
 by_cases f:0<=a
 ·have g:¬a<4:=fun k=>h ⟨f,k⟩
  go_enter Tryz.func83,Tryz.ntmps83
  go_wp2
  go_ret
  exact ⟨rfl,rfl⟩
 ·go_enter Tryz.func83,Tryz.ntmps83
  go_wp2
  go_ret
  exact ⟨rfl,rfl⟩
theorem kH {a:Int} (h:isN a):∃i:Nat,a=i/\i<4:=⟨a.toNat,by have:=h.1;omega,by have:=h.1;have:=h.2;omega⟩
theorem Bq {w:ib} {B:Nat} {P:Nat->Prop} {M:NetM} {Q:Nat->List (List Stp)} (h:NetP w B P M Q) (a k g j n r:Int) (f:¬isN a) :
  ik d 63 #[ic (some ⟨B,0,none⟩),J I a,kb #[J I k,J I g,J I j,J I n,J I r]] w fun e w'=>e= ia (J I 4)/\bj w B P w' M Q:=by
 have u:K (bj w B P (w.alloc (ih #[J I k,J I g,J I j,J I n,J I r] 95)) M Q):=bj.same h ((gR w).alloc _).below
 have C:=ja1 (fu a f)
 clear h f
 go_enter Tryz.func63,Tryz.ntmps63
 go_wp2_with fail
 refine cM (C.out _) ?_
 rintro e w1 ⟨rfl,rfl⟩
 go_wp2
 go_ret
 exact ⟨rfl,u.out⟩
theorem zi {w:ib} {B:Nat} {P:Nat->Prop} {M:NetM} {Q:Nat->List (List Stp)} (h:NetP w B P M Q) (i:Nat) (hi:i<4) (k f g j n:Int) :
  ik d 63 #[ic (some ⟨B,0,none⟩),J I i,kb #[J I k,J I f,J I g,J I j,J I n]] w fun e w'=>e= ia (J I (ndE (M.s i) (M.t i) i k f g j n))/\bj w B P w' ⟨upd M.s i (ndS (M.s i) i k f g j n),upd M.t i (ndT (M.t i) i k f g j n),M.pk⟩ Q:=by
 have ad:Tryz.prog.follows .mixedOrders=true:=by kernel_rfl
 obtain ⟨w1,r⟩:∃W,w.alloc (ih #[J I k,J I f,J I g,J I j,J I n] 95)=W:=⟨_,rfl⟩
 have u:Gr w w1:=by rw[<-r];exact (gR w).alloc _
 have C:Cls w1 w.heap.size [J I k,J I f,J I g,J I j,J I n]:=by rw[<-r];exact Cls.new w _ _
 obtain ⟨b0,b1,b2,b3,b4⟩:=yK C
 have ah:(i:Int)<4:=by omega
 have hH:=ja3 h u hi
 obtain ⟨E,R⟩:∃E,ndE (M.s i) (M.t i) i k f g j n=E:=⟨_,rfl⟩
 have hN:=ja1 (bZ i hi)
 have hD:K (∀W,Gr w1 W->ik d 93 #[ic (some ⟨B,i*38,none⟩),kb #[J I k,J I f,J I g,J I j,J I n]] W fun e w'=>e= ia (J I E)/\bj w B P w' ⟨upd M.s i (ndS (M.s i) i k f g j n),upd M.t i (ndT (M.t i) i k f g j n),M.pk⟩ Q):=fun W hW=>by
  have F:=u.trans hW
  have hn:=h.below F.below
  have hd:=D8 (hn.nd i hi) k f g j n
  rw[R] at hd
  refine hd.mono ?_
  rintro e w' ⟨rfl,L,f2⟩
  refine ⟨rfl,bj.ahead F.below h.lt ?_⟩
  have hc:=hn.call hi L f2 (by omega)
  rw[lN] at hc
  exact hc
 rw[R]
 clear h u C R
 go_enter Tryz.func63,Tryz.ntmps63
 go_wp2_with fail
 try rw[r]
 clear r
 refine cM (hN.out _) ?_
 rintro e w2 ⟨rfl,rfl⟩
 go_wp2
 go_region_with (go_at_call 93;refine cM (hD.out _ (gR _).drew) ?_;rintro e w3 ⟨rfl,L⟩;have hF:K _:=L;clear L)
 all_goals
  go_wp2
  go_ret
  exact ⟨rfl,hF.out⟩

theorem AQ {w:ib} {V o:Nat} {P:Nat->Prop} {q:List Stp} {z y:List Zit} (h:VwN w V o P q z y) :
  ik d 128 #[ic (some ⟨V,o,none⟩)] w fun e w'=>∃(L:List Itm) (C:Option ix) (k:Nat),e= ia (ka #[Z C L.length k,J I (bM q z y)])/\L.map Itm.z=ei q z y/\Lv w' C k L/\H w.heap.size w w'/\NwT w' k w.heap.size C L:=by
 obtain ⟨k,l,⟨q',QA,cq,a,A,ca,b,B,cb,x,X,cx,u,U,cu,F,hq,ha,hb,hx,hu⟩,tk,tl,r⟩:=h
 have ad:Tryz.prog.follows .mixedOrders=true:=by kernel_rfl
 have c5:=F.c5
 obtain ⟨E,R⟩:∃E,bM q z y=E:=⟨_,rfl⟩
 rw[R] at c5 r ⊢
 have hV:=rq w V o P q' QA cq a A ca b B cb F.vo
 have n:K _:=hV
 have g:=ja5 R r hq ha hb
 clear F hq ha hb hx hu tk tl r R hV
 go_enter Tryz.func128,Tryz.ntmps128
 cases hn:(E != 0)
 ·have f:E=0:=by simpa using hn
  go_wp2_with fail
  refine ja0 n ?_
  rintro e w1 ⟨L,C,k',rfl,f1,f2,f3,f4⟩
  have j:K (L.map Itm.z=ei q z y/\Lv w1 C k' L/\H w.heap.size w w1/\NwT w1 k' w.heap.size C L):=by
   refine ⟨?_,f2,f3,f4⟩
   rw[f1,g.out.2.2.2.1,g.out.2.2.2.2,(g.out.2.1 f).1,(g.out.2.1 f).2]
   exact xT g.out.2.2.1 _ _
  subst f
  clear f1 f2 f3 f4 n
  go_wp2
  go_ret2
  exact ⟨L,C,k',rfl,j.out⟩
 ·have f:¬E=0:=by simpa using hn
  have j:K (ei q z y=[]):=tO (by rw[g.out.1];exact f)
  clear f n
  go_wp2
  go_region
  all_goals
   go_wp2
   go_ret2
   exact ⟨[],none,0,rfl,by rw[j.out];rfl,(LvP.none (fun _=>True) _).lv,(gR w).drew.below,NwT.none _ _⟩

theorem ym {w:ib} {N O:Nat} {P:Nat->Prop} {id:Int} {s t:Tab} {qs:List (List Stp)} (h:Nd w N O P id s t qs) {i:Int} (hi:i<0\/(qs.length:Int)<=i) :
  ik d 91 #[ic (some ⟨N,O,none⟩),J I i] w fun e w'=>e= ia (ka #[Z none 0 0,J I 4])/\w'=w:=by
 have f:=h.cnt
 clear h
 by_cases g:i<0
 ·go_enter Tryz.func91,Tryz.ntmps91
  go_wp2
  go_ret2
  exact ⟨rfl,rfl⟩
 ·have j:(qs.length:Int)<=i:=by omega
  go_enter Tryz.func91,Tryz.ntmps91
  go_wp2
  go_ret2
  exact ⟨rfl,rfl⟩
theorem B0 {w:ib} {N O:Nat} {P:Nat->Prop} {id:Int} {s t:Tab} {qs:List (List Stp)} (h:Nd w N O P id s t qs) {j:Nat} (hj:j<qs.length) :
  ik d 91 #[ic (some ⟨N,O,none⟩),J I j] w fun e w'=>∃(L:List Itm) (C:Option ix) (k:Nat),e= ia (ka #[Z C L.length k,J I (bM qs[j] (ofR s) (ofR t))])/\L.map Itm.z=ei qs[j] (ofR s) (ofR t)/\Lv w' C k L/\H w.heap.size w w'/\NwT w' k w.heap.size C L:=by
 have ad:=h.cnt
 have n:=h.le
 have h0:¬(j:Int)<0:=by omega
 have h1:¬(qs.length:Int)<=(j:Int):=by omega
 have h4:(j:Int)<4:=by omega
 obtain ⟨E,hE⟩:∃E,bM qs[j] (ofR s) (ofR t)=E:=⟨_,rfl⟩
 obtain ⟨F,hF⟩:∃F,ei qs[j] (ofR s) (ofR t)=F:=⟨_,rfl⟩
 have f:=AQ (h.view hj)
 rw[hE,hF] at f ⊢
 have hT:K _:=f
 clear f h hE hF n
 go_enter Tryz.func91,Tryz.ntmps91
 go_wp2_with fail
 refine ja0 hT ?_
 rintro e w1 ⟨L,C,k,rfl,r,u,R,f4⟩
 have g:=ja4 r u R f4
 clear r u R f4 hT
 go_wp2
 go_ret2
 exact ⟨L,C,k,rfl,g.out⟩

def wtE (q:List Stp) (qs:List (List Stp)):Int:=if bu q=0 then (if qs.length=4 then 2 else 0) else bu q
def wtQ (q:List Stp) (qs:List (List Stp)):List (List Stp):=if wtE q qs=0 then qs++[q] else qs
theorem VwN.move {w w':ib} {V o N o':Nat} {P:Nat->Prop} {q:List Stp} {z y:List Zit} (h:VwN w V o P q z y) (n:Agr P w w') (L:N<w'.heap.size) (F:∀j,w'.frozen? ⟨N,j,none⟩=false) (g:∀j,j<6->w'.cell? ⟨N,o'+j,none⟩=w.cell? ⟨V,o+j,none⟩):VwN w' N o' P q z y:=by
 obtain ⟨k,l,⟨R,QA,cq,a,A,ca,b,B,cb,x,X,cx,u,U,r,f,C⟩,E⟩:=h
 exact ⟨k,l,⟨R,QA,cq,a,A,ca,b,B,cb,x,X,cx,u,U,r,⟨⟨L,F,(g 0 (by omega)).trans f.vo.c0,(g 1 (by omega)).trans f.vo.c1,(g 2 (by omega)).trans f.vo.c2,f.vo.st.agr n,f.vo.len,f.vo.la.agr n,f.vo.lb.agr n⟩,(g 3 (by omega)).trans f.c3,(g 4 (by omega)).trans f.c4,(g 5 (by omega)).trans f.c5,f.lx.agr n,f.ly.agr n⟩,C⟩,E⟩
theorem Nd.more {w w':ib} {N O:Nat} {P P':Nat->Prop} {id:Int} {s t:Tab} {qs:List (List Stp)} {q:List Stp} (h:Nd w N O P id s t qs) (h4:qs.length<4) (f:∀b,P b->P' b) (F:¬P' N) (E:∀b,P' b->b<w'.heap.size) (r:Wr N (O+13+qs.length*6) (O+38) w w') (R:VwN w' N (O+13+qs.length*6) P' q (ofR s) (ofR t)) (L:w'.cell? ⟨N,O+37,none⟩=some (J I ((qs.length:Int)+1))):Nd w' N O P' id s t (qs++[q]):=by
 have u:=r.blo h.blk
 have n:Agr P w w':=r.agr fun k=>F (f _ k)
 have g:∀j,j<O+13+qs.length*6->w'.cell? ⟨N,j,none⟩=w.cell? ⟨N,j,none⟩:=fun j C=>r.celo h.blk (oL C)
 refine ⟨u,F,E,(g O (by omega)).trans h.cid,(h.ts.keep n fun j _ _=>g j (by omega)).mono f,(h.tt.keep n fun j _ _=>g j (by omega)).mono f,by rw[L];simp,by simp;omega,fun j C=> ?_⟩
 rw[List.length_append,List.length_singleton] at C
 rw[if_pos (by omega),if_pos (by omega)]
 by_cases e:j=qs.length
 ·subst e
  rw[List.getElem_append_right (Nat.le_refl _)]
  simpa using R
 ·rw[List.getElem_append_left (by omega)]
  exact ((h.view (by omega)).keep n u.lt u.fz fun i h1 h2=>g i (by omega)).mono f
theorem yo {w:ib} {N O:Nat} {P:Nat->Prop} {id:Int} {s t:Tab} {qs:List (List Stp)} (h:Nd w N O P id s t qs) (q:List Stp) (QA:Option ix) (cq:Nat) (hl:q.length<=maxLen) (hq:Stps w QA q) :
  ik d 96 #[ic (some ⟨N,O,none⟩),Z QA q.length cq] w fun e w'=>e= ia (J I (wtE q qs))/\Nd w' N O (af P w.heap.size w'.heap.size) id s t (wtQ q qs)/\Wr N (O+13) (O+38) w w':=by
 have b7:Tryz.prog.follows .mixedOrders=true:=by kernel_rfl
 obtain ⟨A,ca,C,cc,bp,bG⟩:=h.ts
 obtain ⟨B,cb,D,cd,bs,bN⟩:=h.tt
 have n:K (Nd w N O P id s t qs/\w.cell? ⟨N,O+37,none⟩=some (J I (qs.length:Int))/\TbC w N (O+1) s A ca C cc/\TbC w N (O+7) t B cb D cd/\TbP P w s A ca C cc/\TbP P w t B cb D cd/\N<w.heap.size/\qs.length<=4):=⟨h,h.cnt,bp,bs,bG,bN,h.blk.lt,h.le⟩
 have a6:K (∀W,H w.heap.size w W->Nd W N O (af P w.heap.size W.heap.size) id s t qs/\Wr N (O+13) (O+38) w W):=fun W hW=>by
  have hn:=n.out.1.below hW
  exact ⟨hn.mono (fun b hb=>af.old b hb) (da n.out.1.out n.out.1.blk.lt) (fq fun b hb=>hn.up b hb),Wr.of hW n.out.1.blk.lt⟩
 clear h bp bs bG bN
 by_cases he:bu q=0
 rotate_left
 ·have an:=BL q QA cq w hl hq he
  obtain ⟨E,hE⟩:∃E,bu q=E:=⟨_,rfl⟩
  have F:K (wtE q qs=E/\wtQ q qs=qs):=by
   have h1:wtE q qs=bu q:=by unfold wtE;rw[if_neg he]
   exact ⟨h1.trans hE,by unfold wtQ;rw[h1,if_neg he]⟩
  rw[hE] at an he
  have cs:(E != 0)=true:=by simpa using he
  have hC:K _:=an
  clear an hq hl he hE
  go_enter Tryz.func96,Tryz.ntmps96
  go_wp2_with fail
  refine ja0 hC ?_
  rintro e w1 ⟨rfl,bl⟩
  have b5:=ja1 bl
  clear bl hC
  go_wp2
  go_ret
  refine ⟨by rw[F.out.1];rfl,?_⟩
  rw[F.out.2]
  exact a6.out w1 b5.out
 have an:=Ds q QA cq w hl hq he
 have hC:K _:=an
 have bt:=ja1 he
 clear an hq hl he
 go_enter Tryz.func96,Tryz.ntmps96
 go_wp2_with fail
 refine ja0 hC ?_
 rintro e w1 ⟨V,q',QB,cr,rfl,f1,f2,f3,f4⟩
 have hV:=ja4 f1 f2 f3 f4
 clear f1 f2 f3 f4 hC
 have a0:=(hV.out.2.2.2.cell (p:=⟨N,O+37,none⟩) n.out.2.2.2.2.2.2.1).trans n.out.2.1
 by_cases h4:qs.length=4
 ·have b2:((qs.length:Int)==4)=true:=by simp;omega
  have F:K (wtE q qs=2/\wtQ q qs=qs):=by
   have h1:wtE q qs=2:=by unfold wtE;rw[if_pos bt.out,if_pos h4]
   exact ⟨h1,by unfold wtQ;rw[h1,if_neg (by decide)]⟩
  clear h4
  go_wp2
  go_ret
  refine ⟨by rw[F.out.1];rfl,?_⟩
  rw[F.out.2]
  exact a6.out w1 hV.out.2.2.2
 have b2:((qs.length:Int)==4)=false:=by simp;omega
 have a7:K (qs.length<4):=by have:=n.out.2.2.2.2.2.2.2;show _<_;omega
 have F:K (wtE q qs=0/\wtQ q qs=qs++[q]):=by
  have h1:wtE q qs=0:=by unfold wtE;rw[if_pos bt.out,if_neg h4]
  exact ⟨h1,by unfold wtQ;rw[h1,if_pos rfl]⟩
 clear h4
 have v0:=hV.out.2.1.c0
 have v1:=hV.out.2.1.c1
 have v2:=hV.out.2.1.c2
 go_upto_region 7 with fail
 obtain ⟨w2,ao⟩:∃W,w1.alloc (ih #[Z QB q'.length cr,Z none 0 0,Z none 0 0,Z none 0 0,Z none 0 0,J I 0] 65)=W:=⟨_,rfl⟩
 rw[ao]
 have R:K (Cls w2 w1.heap.size [Z QB q'.length cr,Z none 0 0,Z none 0 0,Z none 0 0,Z none 0 0,J I 0]/\Gr w1 w2/\H w.heap.size w w2/\Blk w2 w1.heap.size 65 6):=by
  have hg:Gr w1 w2:=by rw[<-ao];exact (gR _).alloc _
  exact ⟨by rw[<-ao];exact Cls.new w1 _ _,hg,hV.out.2.2.2.trans (hg.below.mono hV.out.2.2.2.size),by rw[<-ao];exact ⟨_,(MapKept.heap_alloc _ _).1,rfl⟩⟩
 clear ao a0 v0 v1 v2
 have r:=n.out.2.2.2.2.2.2.1
 have n1:=(R.out.2.2.1.cell (p:=⟨N,O+1,none⟩) r).trans n.out.2.2.1.k0
 have n2:=(R.out.2.2.1.cell (p:=⟨N,O+2,none⟩) r).trans n.out.2.2.1.k1
 have n3:=(R.out.2.2.1.cell (p:=⟨N,O+3,none⟩) r).trans n.out.2.2.1.k2
 have n4:=(R.out.2.2.1.cell (p:=⟨N,O+4,none⟩) r).trans n.out.2.2.1.k3
 have n5:=(R.out.2.2.1.cell (p:=⟨N,O+5,none⟩) r).trans n.out.2.2.1.k4
 have n6:=(R.out.2.2.1.cell (p:=⟨N,O+6,none⟩) r).trans n.out.2.2.1.k5
 have n7:=(R.out.2.2.1.cell (p:=⟨N,O+7,none⟩) r).trans n.out.2.2.2.1.k0
 have n8:=(R.out.2.2.1.cell (p:=⟨N,O+8,none⟩) r).trans n.out.2.2.2.1.k1
 have n9:=(R.out.2.2.1.cell (p:=⟨N,O+9,none⟩) r).trans n.out.2.2.2.1.k2
 have b8:=(R.out.2.2.1.cell (p:=⟨N,O+10,none⟩) r).trans n.out.2.2.2.1.k3
 have b9:=(R.out.2.2.1.cell (p:=⟨N,O+11,none⟩) r).trans n.out.2.2.2.1.k4
 have ce:=(R.out.2.2.1.cell (p:=⟨N,O+12,none⟩) r).trans n.out.2.2.2.1.k5
 have be:=kj s t A B C D ca cb cc cd w2 (n.out.2.2.2.2.1.below R.out.2.2.1) (n.out.2.2.2.2.2.1.below R.out.2.2.1)
 have hS:K _:=be
 clear be r
 go_wp2_with fail
 clear n1 n2 n3 n4 n5 n6 n7 n8 n9 b8 b9 ce
 refine ja0 hS ?_
 rintro e w3 ⟨L,M,X,Y,lk,mk,rfl,f1,f2,f3,f4,f5⟩
 have h3:=ja5 f1 f2 f3 f4 f5
 clear f1 f2 f3 f4 f5 hS
 have a8:=ja3 hV.out.2.2.1 hV.out.2.1.lt R.out.1.lt
 have bh:ik d 135 #[ic (some ⟨w1.heap.size,0,none⟩),kb #[Z X L.length lk,Z Y M.length mk]] w3 fun e w'=>e= ia (ka #[])/\VwN w' w1.heap.size 0 (af (fun b=>w.heap.size<=b/\b<V) w3.heap.size w'.heap.size) q (ofR s) (ofR t)/\Wr w1.heap.size 0 (0+6) w3 w':=by
  have ad:=R.out.1.below h3.out.2.2.2.2
  have bn:=R.out.2.1.below.trans (h3.out.2.2.2.2.mono R.out.2.1.size)
  have ts:=TS.of n.out.2.2.2.2.1.ok
  have tt:=TS.of n.out.2.2.2.2.2.1.ok
  have b0:=a8.out
  refine tf (R.out.2.2.2.below h3.out.2.2.2.2) (fun h=>by omega) (fun h=>by omega) (k:=[]) (l:=[]) (z:=[]) (y:=[]) (e0:=0) ⟨q',QB,cr,[],none,0,[],none,0,[],none,0,[],none,0,⟨⟨ad.lt,ad.fz,ad.cell rfl,ad.cell rfl,ad.cell rfl,hV.out.2.1.st.below bn,hV.out.2.1.len,LvP.none _ _,LvP.none _ _⟩,ad.cell rfl,ad.cell rfl,ad.cell rfl,LvP.none _ _,LvP.none _ _⟩,hV.out.1,rfl,rfl,rfl,rfl⟩ TS.nil TS.nil TS.nil TS.nil ts tt h3.out.2.2.1 h3.out.2.2.2.1 (by rw[h3.out.1,rD ts.ok]) (by rw[h3.out.2.1,rD tt.ok])
 have hT:K _:=bh
 clear bh
 go_wp2_with fail
 refine ja0 hT ?_
 rintro e w4 ⟨rfl,f1,f2⟩
 obtain ⟨kk,ll,⟨q2,QC,a1,a,PA,a2,b,PB,a3,x,PX,a5,u,PU,a4,g1,g2⟩,g3⟩:=f1
 have h4:K (VwN w4 w1.heap.size 0 (af (fun b=>w.heap.size<=b/\b<V) w3.heap.size w4.heap.size) q (ofR s) (ofR t)/\Wr w1.heap.size 0 (0+6) w3 w4):=⟨⟨kk,ll,⟨q2,QC,a1,a,PA,a2,b,PB,a3,x,PX,a5,u,PU,a4,g1,g2⟩,g3⟩,f2⟩
 have c0:=g1.vo.c0
 have c1:=g1.vo.c1
 have c2:=g1.vo.c2
 have c3:=g1.c3
 have c4:=g1.c4
 have c5:=g1.c5
 have ah:K (H w.heap.size w w4/\Nd w4 N O P id s t qs/\N<w.heap.size):=by
  have hb:=R.out.2.2.1.trans (h3.out.2.2.2.2.mono R.out.2.2.1.size)
  have b0:=a8.out
  have f:H w.heap.size w w4:=⟨f2.os.trans hb.os,f2.tape.trans hb.tape,f2.output.trans hb.output,nT hb.size f2.size,fun g hg=>(f2.oth g (nL hg hb.size) (by omega)).trans (hb.block g hg)⟩
  exact ⟨f,n.out.1.below f,n.out.2.2.2.2.2.2.1⟩
 clear f2 g1 g2 g3 hT
 have a0:=ah.out.2.1.cnt
 have f:=ah.out.2.1.blk
 obtain ⟨j,hj⟩:∃j,qs.length=j:=⟨_,rfl⟩
 have b6:=ja1 hj
 rw[hj] at a0
 have cu:(j:Int)<4:=by have:=a7.out;omega
 have cp:j<4:=by have:=a7.out;omega
 obtain ⟨c6,o0⟩:=f.some (j:=O+13+j*6) (by omega)
 have cf:=f.fz (O+13+j*6)
 obtain ⟨c7,o1⟩:=f.some (j:=O+13+j*6+1) (by omega)
 have cj:=f.fz (O+13+j*6+1)
 obtain ⟨c8,o2⟩:=f.some (j:=O+13+j*6+2) (by omega)
 have ck:=f.fz (O+13+j*6+2)
 obtain ⟨c9,o3⟩:=f.some (j:=O+13+j*6+3) (by omega)
 have cl:=f.fz (O+13+j*6+3)
 obtain ⟨dk,o4⟩:=f.some (j:=O+13+j*6+4) (by omega)
 have cm:=f.fz (O+13+j*6+4)
 obtain ⟨dl,o5⟩:=f.some (j:=O+13+j*6+5) (by omega)
 have cn:=f.fz (O+13+j*6+5)
 have ds:=f.fz (O+37)
 have a9:=ja1 f
 clear hj f
 go_wp2
 go_region
 all_goals
  obtain ⟨w5,ba⟩:∃W,((((((w4.setCell ⟨N,O+13+j*6,none⟩ (Z QC q2.length a1)).setCell ⟨N,O+13+j*6+1,none⟩ (Z PA a.length a2)).setCell ⟨N,O+13+j*6+2,none⟩ (Z PB b.length a3)).setCell ⟨N,O+13+j*6+3,none⟩ (Z PX x.length a5)).setCell ⟨N,O+13+j*6+4,none⟩ (Z PU u.length a4)).setCell ⟨N,O+13+j*6+5,none⟩ (J I (bM q (ofR s) (ofR t))))=W:=⟨_,rfl⟩
  rw[ba]
  have h5:K (Wr N (O+13+j*6) (O+13+j*6+6) w4 w5/\(∀i v,[Z QC q2.length a1,Z PA a.length a2,Z PB b.length a3,Z PX x.length a5,Z PU u.length a4,J I (bM q (ofR s) (ofR t))][i]? = some v->w5.cell? ⟨N,O+13+j*6+i,none⟩=some v)/\w5.heap.size=w4.heap.size):=by
   have ap:fE N w4 (O+13+j*6) [Z QC q2.length a1,Z PA a.length a2,Z PB b.length a3,Z PX x.length a5,Z PU u.length a4,J I (bM q (ofR s) (ofR t))]=w5:=ba
   refine ⟨by rw[<-ap];exact gI N _ w4 _ _ _ (nR _) (nR _),fun i v hv=> ?_,by rw[<-ap];exact fY _ _ _ _⟩
   rw[<-ap]
   obtain ⟨T0,n0,b4,cv⟩:=a9.out
   exact fX _ w4 _ b4 (by show O+13+j*6+6<=n0;omega) i v hv
  clear ba o0 cf o1 cj o2 ck o3 cl o4 cm o5 cn
  have b1:=(h5.out.1.celo a9.out (j:=O+37) (oR (by omega))).trans a0
  have dp:=(h5.out.1.blo a9.out).fz (O+37)
  go_wp2
  go_ret
  have h6:Nd (w5.setCell ⟨N,O+37,none⟩ (J I ((j:Int)+1))) N O (af P w.heap.size (w5.setCell ⟨N,O+37,none⟩ (J I ((j:Int)+1))).heap.size) id s t (qs++[q]):=by
   have hj:=b6.out
   have bC:=h5.out.2.2
   have b0:=a8.out
   have b3:=ah.out.2.2
   have cB:=h4.out.2.size
   have cA:=h3.out.2.2.2.2.size
   have bb:Wr N (O+13+qs.length*6) (O+38) w4 (w5.setCell ⟨N,O+37,none⟩ (J I ((j:Int)+1))):=by
    rw[hj]
    exact (h5.out.1.mono (nR _) (by omega)).trans (Wr.set _ _ (by omega) (by omega))
   have bc:¬af P w.heap.size (w5.setCell ⟨N,O+37,none⟩ (J I ((j:Int)+1))).heap.size N:=da n.out.1.out b3
   have bd:∀b,af (fun b=>w.heap.size<=b/\b<V) w3.heap.size w4.heap.size b->af P w.heap.size (w5.setCell ⟨N,O+37,none⟩ (J I ((j:Int)+1))).heap.size b:=fun b hb=>by
    have hz:(w5.setCell ⟨N,O+37,none⟩ (J I ((j:Int)+1))).heap.size=w4.heap.size:=by simp[bC]
    rw[hz]
    rcases hb with hb|hb
    ·exact oR ⟨hb.1,by omega⟩
    ·exact oR ⟨by omega,hb.2⟩
   refine Nd.more ah.out.2.1 a7.out (fun b hb=>af.old b hb) bc (fq fun b hb=> ?_) bb ?_ ?_
   ·have:=ah.out.2.1.up b hb
    simp[bC];omega
   ·rw[hj]
    have bo:=bb.blo ah.out.2.1.blk
    refine (h4.out.1.move (w':=w5.setCell ⟨N,O+37,none⟩ (J I ((j:Int)+1))) (N:=N) (o':=O+13+j*6) (bb.agr fun h=>bc (bd _ h)) bo.lt bo.fz fun i hi=> ?_).mono bd
    rw[cG (by omega)]
    match i,hi with
    | 0,_=>exact (h5.out.2.1 0 _ rfl).trans c0.symm
    | 1,_=>exact (h5.out.2.1 1 _ rfl).trans c1.symm
    | 2,_=>exact (h5.out.2.1 2 _ rfl).trans c2.symm
    | 3,_=>exact (h5.out.2.1 3 _ rfl).trans c3.symm
    | 4,_=>exact (h5.out.2.1 4 _ rfl).trans c4.symm
    | 5,_=>exact (h5.out.2.1 5 _ rfl).trans c5.symm
   ·rw[World.cell?_setCell_same _ _ _ b1,hj]
  have h7:Wr N (O+13) (O+38) w (w5.setCell ⟨N,O+37,none⟩ (J I ((j:Int)+1))):=(Wr.of ah.out.1 ah.out.2.2).trans ((h5.out.1.mono (by omega) (by omega)).trans (Wr.set _ _ (by omega) (by omega)))
  refine ⟨by rw[F.out.1];rfl,?_,h7.trans (Wr.of (gR _).drew.below h6.blk.lt)⟩
  rw[F.out.2]
  exact h6.below (gR _).drew.below

def fV (id:Int):List Value:=[J I id,J I 0,J I 0,J I 0,J I 0,Z none 0 0,Z none 0 0,J I 0,J I 0,J I 0,J I 0,Z none 0 0,Z none 0 0,Z none 0 0,Z none 0 0,Z none 0 0,Z none 0 0,Z none 0 0,J I 0,Z none 0 0,Z none 0 0,Z none 0 0,Z none 0 0,Z none 0 0,J I 0,Z none 0 0,Z none 0 0,Z none 0 0,Z none 0 0,Z none 0 0,J I 0,Z none 0 0,Z none 0 0,Z none 0 0,Z none 0 0,Z none 0 0,J I 0,J I 0]
theorem xy (id:Int):∀u∈fV id,u.oneCell'=true:=by
 intro u f
 have h:(fV id).all (·.oneCell')=true:=rfl
 exact List.all_eq_true.1 h u f
theorem kS (b:Nat):∀(l:List Value) (o:Nat) (w:ib),w.setCells b o l=fE b w o l
 | [],_,_=>rfl
 | _::l,o,_=>kS b l (o+1) _
theorem Nd.zero {w:ib} {N O:Nat} {id:Int} (k:Blo w N O) (f:∀j v,(fV id)[j]? = some v->w.cell? ⟨N,O+j,none⟩=some v):Nd w N O (fun _=>False) id dR dR []:=by
 have g:TbP (fun _=>False) w dR none 0 none 0:=⟨oL rfl,oL rfl,fun _ h=>(by cases h),fun _ h=>(by cases h),fun _=>rfl,fun _=>rfl,tq⟩
 exact ⟨k,fun h=>h,fun _ h=>h.elim,f 0 _ rfl,⟨none,0,none,0,⟨f 1 _ rfl,f 2 _ rfl,f 3 _ rfl,f 4 _ rfl,f 5 _ rfl,f 6 _ rfl⟩,g⟩,⟨none,0,none,0,⟨f 7 _ rfl,f 8 _ rfl,f 9 _ rfl,f 10 _ rfl,f 11 _ rfl,f 12 _ rfl⟩,g⟩,f 37 _ rfl,nZ _,fun j n=>absurd n (Nat.not_lt_zero _)⟩
theorem A8 (w:ib) (i:Nat) (hi:i<4):ik d 24 #[J I i] w fun e w'=>e= ia (ka #[ic (some ⟨w.heap.size,0,none⟩),J I 0])/\Cls w' w.heap.size (fV i)/\H w.heap.size w w':=by
 have g:¬(i:Int)<0:=by omega
 have h:¬(4:Int)<=i:=by omega
 have f:K (Cls (w.alloc (ih (fV i).toArray 68)) w.heap.size (fV i)/\H w.heap.size w (w.alloc (ih (fV i).toArray 68))):=⟨Cls.new w _ _,((gR w).alloc _).below⟩
 clear hi
 go_enter Tryz.func24,Tryz.ntmps24
 go_wp2
 go_ret2
 exact ⟨rfl,f.out⟩
theorem uo (w:ib):ik d 12 #[] w fun e w'=>e= ia (ic (some ⟨w.heap.size,0,none⟩))/\NetP w' w.heap.size (fun _=>False) i7 (fun _=>[])/\H w.heap.size w w':=by
 go_enter Tryz.func12,Tryz.ntmps12
 go_wp2
 go_loopw [5] (fun v5 wr=>∃i:Nat,i<=4/\v5= J I i/\K (Blk wr w.heap.size 72 153/\H w.heap.size w wr/\wr.cell? ⟨w.heap.size,152,none⟩=some (Z none 0 0)/\∀j,j<i->Nd wr w.heap.size (j*38) (fun _=>False) j dR dR [])) (fun v5 _=>4-(intOf v5).toNat)
 case atStart=>exact ⟨0,by omega,rfl,⟨_,(MapKept.heap_alloc _ _).1,rfl⟩,((gR w).alloc _).below,(Cls.new w _ _).cell rfl,fun j hj=>absurd hj (Nat.not_lt_zero _)⟩
 case round =>
  obtain ⟨i,hi,rfl,n⟩:=hrel
  by_cases an:i<4
  rotate_left
  ·have hz:¬(i:Int)<4:=by omega
   obtain rfl:i=4:=by omega
   go_wp2
   go_ret
   exact ⟨rfl,⟨n.out.1,n.out.2.2.2,[],none,0,n.out.2.2.1,oL rfl,fun a h=>(by cases h),fun _=>rfl,nR _,rfl,nZ _,fun p hp=>(by cases hp)⟩,n.out.2.1⟩
  have a0:(i:Int)<4:=by omega
  have hC:K _:=A8 wr i an
  go_wp2_with fail
  refine ja0 hC ?_
  rintro e F ⟨rfl,f1,f2⟩
  have ao:w.heap.size<wr.heap.size:=n.out.1.lt
  have u:=ja3 f1 f2 (n.out.1.below f2)
  have ad:K (F.rangeAt wr.heap.size 0 (fV i)):=fun j v hv=>by rw[Nat.zero_add];exact f1.cell hv
  have ah:K (F.there w.heap.size (i*38) (fV i).toArray.size):=fun j hj=>by
   have ap:j<38:=hj
   obtain ⟨v,hv⟩:=u.out.2.2.some (j:=i*38+j) (by omega)
   exact ⟨by rw[hv];rfl,u.out.2.2.fz _⟩
  have E:=ja1 (all_oneCell_toArray (xy i))
  clear f1 f2 hC
  go_upto_region 7 with (first
   | (with_reducible refine wpList_load_mid rfl 68 (.tmp 15) rfl wr.heap.size 0 rfl (fV i) _ ad.out Tryz.underlying68 rfl (by kernel_rfl) ?_)
   | (with_reducible refine wpList_store_mid rfl 68 (.tmp 18) (.tmp 16) rfl w.heap.size (i*38) (fV i).toArray rfl rfl ah.out (by kernel_rfl) E.out ?_))
  obtain ⟨L,r⟩:∃W,F.setCells w.heap.size (i*38) (fV i)=W:=⟨_,rfl⟩
  rw[r]
  have hG:K (Blk L w.heap.size 72 153/\H w.heap.size w L/\L.cell? ⟨w.heap.size,152,none⟩=some (Z none 0 0)/\∀j,j<i+1->Nd L w.heap.size (j*38) (fun _=>False) j dR dR []):=by
   rw[kS] at r
   have C:Wr w.heap.size (i*38) (i*38+38) F L:=by rw[<-r];exact gI _ _ F _ _ _ (nR _) (nR _)
   have f:H w.heap.size w F:=n.out.2.1.trans (u.out.2.1.mono n.out.2.1.size)
   have R:Blk L w.heap.size 72 153:=C.block u.out.2.2
   refine ⟨R,⟨C.os.trans f.os,C.tape.trans f.tape,C.output.trans f.output,nT f.size C.size,fun g hg=>(C.oth g (nL hg f.size) (by omega)).trans (f.block g hg)⟩,?_,fun j hj=> ?_⟩
   ·rw[C.cell u.out.2.2 (Or.inr (by omega))]
    exact (u.out.2.1.cell (p:=⟨w.heap.size,152,none⟩) ao).trans n.out.2.2.1
   ·by_cases e:j=i
    ·subst e
     refine Nd.zero ⟨_,_,R,by omega⟩ fun k v hv=> ?_
     rw[<-r]
     exact fX _ F _ u.out.2.2 (by show j*38+38<=153;omega) k v hv
    ·exact ((n.out.2.2.2 j (by omega)).below u.out.2.1).wr C (by omega)
  clear n u r ad ah E
  go_wp2
  go_roundw
  case rel=>exact ⟨i+1,by omega,by go_num,hG⟩
  case measure=>simp[intOf];omega
set_option linter.unusedSimpArgs false

def tkE (s t a b:Tab):Int:=if au s a=0 then au t b else au s a
def tkS (s t a b:Tab):Tab:=if tkE s t a b=0 then ag s a else s
def tkT (s t a b:Tab):Tab:=if tkE s t a b=0 then ag t b else t
def TbR (w1 wx:ib) (Bm:Nat) (u:Tab):Prop:=∃(E:Option ix) (ce:Nat) (F:Option ix) (cf:Nat),Cls wx Bm (T6 u E ce F cf)/\TbW w1.heap.size wx u E ce F cf/\H w1.heap.size w1 wx/\w1.heap.size<=Bm
theorem kU {w1 f:ib} {u:Tab} {E:Option ix} {g:Nat} {F:Option ix} {j:Nat} (k:Cls f w1.heap.size Z6) (n:TbW (w1.heap.size+1) f u E g F j) (r:H w1.heap.size w1 f) :
  TbR w1 ((((((f.setCell ⟨w1.heap.size,0,none⟩ (J I u.c.c0)).setCell ⟨w1.heap.size,1,none⟩ (J I u.c.c1)).setCell ⟨w1.heap.size,2,none⟩ (J I u.c.c2)).setCell ⟨w1.heap.size,3,none⟩ (J I u.c.c3)).setCell ⟨w1.heap.size,4,none⟩ (Z E u.c.l.length g)).setCell ⟨w1.heap.size,5,none⟩ (Z F u.e.length j)) w1.heap.size u :=
 ⟨E,g,F,j,(((((k.put 0 _).put 1 _).put 2 _).put 3 _).put 4 _).put 5 _,(n.agr (kR (fun h=>by omega) _ _ _ _ _ _)).mono (by omega),ak r (nR _) _ _ _ _ _ _,nR _⟩
theorem mB {w1 f:ib} {u:Tab} {E:Option ix} {g:Nat} {F:Option ix} {h:Nat} {T:TypeId} (k:TbW w1.heap.size f u E g F h) (j:H w1.heap.size w1 f) :
  TbR w1 (f.alloc (ih #[J I u.c.c0,J I u.c.c1,J I u.c.c2,J I u.c.c3,Z E u.c.l.length g,Z F u.e.length h] T)) f.heap.size u :=
 ⟨E,g,F,h,Cls.new f _ T,k.below ((gR f).alloc _).below,j.alloc j.size _,j.size⟩

theorem sZ {w:ib} {N O:Nat} {P:Nat->Prop} {id:Int} {s t:Tab} {qs:List (List Stp)} (h:Nd w N O P id s t qs) (a b:Tab) (PA PB PC PD:Option ix) (ad ah ap a0:Nat) (ra:Row w PA a.c.l) (rc:bF w PC a.e) (rb:Row w PB b.c.l) (rd:bF w PD b.e) (la:a.c.l.length<=maxLen) (lc:a.e.length<=maxLen) (lb:b.c.l.length<=maxLen) (ld:b.e.length<=maxLen) (na:PA=none->ad=0) (nb:PB=none->ah=0) :
  ik d 92 #[ic (some ⟨N,O,none⟩),kb (T2 a PA ad PC ap b PB ah PD a0).toArray] w fun e w'=>e= ia (J I (tkE s t a b))/\Nd w' N O (af P w.heap.size w'.heap.size) id (tkS s t a b) (tkT s t a b) qs/\Wr N (O+1) (O+37) w w':=by
 have c8:Tryz.prog.follows .mixedOrders=true:=by kernel_rfl
 have d0:=s7 (J I a.c.c0) (J I a.c.c1) (J I a.c.c2) (J I a.c.c3) (Z PA a.c.l.length ad) (Z PC a.e.length ap) (J I b.c.c0) (J I b.c.c1) (J I b.c.c2) (J I b.c.c3) (Z PB b.c.l.length ah) (Z PD b.e.length a0)
 have d4:=s8 (J I a.c.c0) (J I a.c.c1) (J I a.c.c2) (J I a.c.c3) (Z PA a.c.l.length ad) (Z PC a.e.length ap) (J I b.c.c0) (J I b.c.c1) (J I b.c.c2) (J I b.c.c3) (Z PB b.c.l.length ah) (Z PD b.e.length a0)
 obtain ⟨A,ca,C,cc,cj,cp⟩:=h.ts
 obtain ⟨B,cb,D,cd,ck,cr⟩:=h.tt
 have a5:K (Row w PA a.c.l/\bF w PC a.e/\Row w PB b.c.l/\bF w PD b.e/\a.c.l.length<=maxLen/\a.e.length<=maxLen/\b.c.l.length<=maxLen/\b.e.length<=maxLen/\(PA=none->ad=0)/\(PB=none->ah=0)):=⟨ra,rc,rb,rd,la,lc,lb,ld,na,nb⟩
 have hH:=ja5 h cp cr cj ck
 clear h cp cr cj ck ra rc rb rd la lc lb ld na nb
 go_enter Tryz.func92,Tryz.ntmps92
 go_wp2
 obtain ⟨w1,b0⟩:∃W,(w.alloc (ih #[J I a.c.c0,J I a.c.c1,J I a.c.c2,J I a.c.c3,Z PA a.c.l.length ad,Z PC a.e.length ap,J I b.c.c0,J I b.c.c1,J I b.c.c2,J I b.c.c3,Z PB b.c.l.length ah,Z PD b.e.length a0] 144)).alloc (ih #[J I 0,J I 0,J I 0,J I 0,Z none 0 0,Z none 0 0,J I 0,J I 0,J I 0,J I 0,Z none 0 0,Z none 0 0] 57)=W:=⟨_,rfl⟩
 rw[b0]
 have hI:K (H w.heap.size w w1/\Cls w1 (w.heap.size+1) Z2):=by
  refine ⟨by rw[<-b0];exact (((gR w).alloc _).alloc _).below,?_⟩
  have:=Cls.new (w.alloc (ih #[J I a.c.c0,J I a.c.c1,J I a.c.c2,J I a.c.c3,Z PA a.c.l.length ad,Z PC a.e.length ap,J I b.c.c0,J I b.c.c1,J I b.c.c2,J I b.c.c3,Z PB b.c.l.length ah,Z PD b.e.length a0] 144)) #[J I 0,J I 0,J I 0,J I 0,Z none 0 0,Z none 0 0,J I 0,J I 0,J I 0,J I 0,Z none 0 0,Z none 0 0] 57
  rw[b0,show (w.alloc (ih #[J I a.c.c0,J I a.c.c1,J I a.c.c2,J I a.c.c3,Z PA a.c.l.length ad,Z PC a.e.length ap,J I b.c.c0,J I b.c.c1,J I b.c.c2,J I b.c.c3,Z PB b.c.l.length ah,Z PD b.e.length a0] 144)).heap.size=w.heap.size+1 by simp] at this
  exact this
 clear b0
 have cs:=ja1 hI.out.2.lt
 refine wp_loop_rounds 3 ?_
 rw[rounds_succ]
 go_upto_region 5 with fail
 obtain ⟨f,a7⟩:∃W,w1.alloc (ih #[J I a.c.c0,J I a.c.c1,J I a.c.c2,J I a.c.c3,Z PA a.c.l.length ad,Z PC a.e.length ap] 56)=W:=⟨_,rfl⟩
 rw[a7]
 have r:K (Gr w1 f/\H w.heap.size w f/\Cls f w1.heap.size (T6 a PA ad PC ap)/\Cls f (w.heap.size+1) Z2/\N<f.heap.size/\TbC f N (O+1) s A ca C cc/\TbC f N (O+7) t B cb D cd):=by
  have hg:Gr w1 f:=by rw[<-a7];exact (gR _).alloc _
  have hb:=hI.out.1.trans (hg.below.mono hI.out.1.size)
  have be:=hH.out.1.blk.lt
  exact ⟨hg,hb,by rw[<-a7];exact Cls.new w1 _ _,hI.out.2.gr hg,nL be hb.size,hH.out.2.2.2.1.keep fun j _ _=>hb.cell (p:=⟨N,j,none⟩) be,hH.out.2.2.2.2.keep fun j _ _=>hb.cell (p:=⟨N,j,none⟩) be⟩
 clear a7
 obtain ⟨a8,bb⟩:∃E,au s a=E:=⟨_,rfl⟩
 obtain ⟨g,bc⟩:∃E,ag s a=E:=⟨_,rfl⟩
 have a3:=ja2 bb bc
 have hM:K (∀W,H f.heap.size f W->ik d 129 #[kb (T6 s A ca C cc).toArray,kb (T6 a PA ad PC ap).toArray] W fun e w'=>∃E ce F cf,e= ia (ka #[kb (T6 g E ce F cf).toArray,J I a8])/\TbW W.heap.size w' g E ce F cf/\H W.heap.size W w'):=fun W hW=>by
  have hb:=r.out.2.1.trans (hW.mono r.out.2.1.size)
  have a4:=hH.out.2.1.below hb
  have hm:=jq s a A PA C PC ca ad cc ap W a4.len.1 a5.out.2.2.2.2.1 a4.len.2 a5.out.2.2.2.2.2.1 a4.nr a5.out.2.2.2.2.2.2.2.2.1 (a4.row) (a5.out.1.below hb) (a4.cel) (a5.out.2.1.below hb)
  rw[bb,bc] at hm
  refine hm.mono ?_
  rintro e w' ⟨E,ce,F,cf,rfl,f1,f2,f3,f4,f5,f6,f7⟩
  exact ⟨E,ce,F,cf,rfl,⟨f1,f2,f3,f4,f5,f6⟩,f7⟩
 clear bb bc
 go_cut [8,9,12] from 12 to 33 (fun v8 v9 v12 wx=>v9= J I a8/\v12= J I 0/\∃Bm:Nat,v8= ic (some ⟨Bm,0,none⟩)/\TbR f wx Bm g)
 case first =>
  have a1:=ja1 ((gR f).drew.below)
  have a6:K (H f.heap.size f (f.alloc (ih #[J I 0,J I 0,J I 0,J I 0,Z none 0 0,Z none 0 0] 56)).drew):=((gR f).alloc _).drew.below
  have bC:K (f.heap.size<=f.drew.heap.size):=nR _
  have bG:K (f.heap.size+1<=(f.alloc (ih #[J I 0,J I 0,J I 0,J I 0,Z none 0 0,Z none 0 0] 56)).drew.heap.size):=by show _<=(f.alloc _).heap.size;simp
  have a2:K (∀W,H f.heap.size f W->(fun w'=>w'.cell? ⟨w1.heap.size,0,none⟩=some (J I a.c.c0)/\w'.cell? ⟨w1.heap.size,1,none⟩=some (J I a.c.c1)/\w'.cell? ⟨w1.heap.size,2,none⟩=some (J I a.c.c2)/\w'.cell? ⟨w1.heap.size,3,none⟩=some (J I a.c.c3)/\w'.cell? ⟨w1.heap.size,4,none⟩=some (Z PA a.c.l.length ad)/\w'.cell? ⟨w1.heap.size,5,none⟩=some (Z PC a.e.length ap)/\w'.cell? ⟨N,O+1,none⟩=some (J I s.c.c0)/\w'.cell? ⟨N,O+2,none⟩=some (J I s.c.c1)/\w'.cell? ⟨N,O+3,none⟩=some (J I s.c.c2)/\w'.cell? ⟨N,O+4,none⟩=some (J I s.c.c3)/\w'.cell? ⟨N,O+5,none⟩=some (Z A s.c.l.length ca)/\w'.cell? ⟨N,O+6,none⟩=some (Z C s.e.length cc)) W):=fun W hW=>⟨(r.out.2.2.1.below hW).cell (j:=0) rfl,(r.out.2.2.1.below hW).cell (j:=1) rfl,(r.out.2.2.1.below hW).cell (j:=2) rfl,(r.out.2.2.1.below hW).cell (j:=3) rfl,(r.out.2.2.1.below hW).cell (j:=4) rfl,(r.out.2.2.1.below hW).cell (j:=5) rfl,(hW.cell (p:=⟨N,O+1,none⟩) r.out.2.2.2.2.1).trans r.out.2.2.2.2.2.1.k0,(hW.cell (p:=⟨N,O+2,none⟩) r.out.2.2.2.2.1).trans r.out.2.2.2.2.2.1.k1,(hW.cell (p:=⟨N,O+3,none⟩) r.out.2.2.2.2.1).trans r.out.2.2.2.2.2.1.k2,(hW.cell (p:=⟨N,O+4,none⟩) r.out.2.2.2.2.1).trans r.out.2.2.2.2.2.1.k3,(hW.cell (p:=⟨N,O+5,none⟩) r.out.2.2.2.2.1).trans r.out.2.2.2.2.2.1.k4,(hW.cell (p:=⟨N,O+6,none⟩) r.out.2.2.2.2.1).trans r.out.2.2.2.2.2.1.k5⟩
  refine wp_region_noPanic ?_
  refine wp_region_held_drew (S:=(fun w'=>w'.cell? ⟨w1.heap.size,0,none⟩=some (J I a.c.c0)/\w'.cell? ⟨w1.heap.size,1,none⟩=some (J I a.c.c1)/\w'.cell? ⟨w1.heap.size,2,none⟩=some (J I a.c.c2)/\w'.cell? ⟨w1.heap.size,3,none⟩=some (J I a.c.c3)/\w'.cell? ⟨w1.heap.size,4,none⟩=some (Z PA a.c.l.length ad)/\w'.cell? ⟨w1.heap.size,5,none⟩=some (Z PC a.e.length ap)/\w'.cell? ⟨N,O+1,none⟩=some (J I s.c.c0)/\w'.cell? ⟨N,O+2,none⟩=some (J I s.c.c1)/\w'.cell? ⟨N,O+3,none⟩=some (J I s.c.c2)/\w'.cell? ⟨N,O+4,none⟩=some (J I s.c.c3)/\w'.cell? ⟨N,O+5,none⟩=some (Z A s.c.l.length ca)/\w'.cell? ⟨N,O+6,none⟩=some (Z C s.e.length cc))) (by kernel_rfl) (a2.out _ a1.out) (fun hHeld=> ?_)
  show wpAnyH _ _ _ _ _ 14 _ _ _
  repeat' first
   | with_reducible exact AllReadyH.nil
   | (
    (with_reducible refine isW ?_);refine wpAnyH_done (by decide +kernel) ?_ _
    refine NoPanic.normal ?_
    go_wp2_with fail
    go_meet
    case rel=>exact ⟨rfl,rfl,_,rfl,(by first|with_reducible exact mB (bs.out.mono bC.out) hF.out|with_reducible exact kU n.out (bs.out.mono bG.out) hF.out)⟩)
   | (
    (with_reducible refine isW ?_);first
     | refine tkk 0 [1,2,3,4,5,6] (by assumption) (v:= ?_) (by simp only[zA,z0',zS];rfl) (by decide +kernel) ?_ ?_
     | refine tkk 8 [9,10] (by assumption) (v:= ?_) (by simp only[zA,z0',zS];rfl) (by decide +kernel) ?_ ?_
     | refine tkk 13 [] (by assumption) (v:= ?_) (by simp only[zA,z0',zS];rfl) (by decide +kernel) ?_ ?_
    rotate_left
    ·(refine oL ⟨by rfl,?_⟩;intro w bd;(try dsimp only at bd);go_simp<;>with_reducible rfl)
    try simp only[Act.put,yA,aB,yS]
    repeat (refine tk (v:= ?_) (by simp only[zA,z0',zS];rfl) (by kernel_rfl) ?_ ?_;rotate_left;· (refine oL ⟨by rfl,?_⟩;intro w bd;(try dsimp only at bd);go_simp<;>with_reducible rfl);try simp only[Act.put,yA,aB,yS])
    refine tk0 ?_)
   | ((with_reducible refine isW ?_);first
     | refine wpAnyH_ready (rs:=[7,11]) (by decide +kernel) (by simp) ?_
     | refine wpAnyH_ready (rs:=[11]) (by decide +kernel) (by simp) ?_
     | refine wpAnyH_ready (rs:=[12]) (by decide +kernel) (by simp) ?_
     | refine wpAnyH_ready (rs:=[7]) (by decide +kernel) (by simp) ?_)
   | ((with_reducible refine isR ?_);refine rdc (by simp only[zA,z0',zS];rfl) ?_ fun ea hK=> ?_)
   | (
    go_simp
    first
     | ((go_at_call 129;(with_reducible refine cM (hM.out _ (by first|with_reducible exact a1.out|with_reducible exact a6.out)) ?_);rintro e w2 ⟨E,ce,F,cf,rfl,f2,f3⟩;have hF:K (H f.heap.size f w2):=(by first|exact a1.out.trans (f3.mono a1.out.size)|exact a6.out.trans (f3.mono a6.out.size));have bs:K _:=f2;(first|(have n:K (Cls w2 f.heap.size Z6):=((Cls.new f #[J I 0,J I 0,J I 0,J I 0,Z none 0 0,Z none 0 0] 56).gr (gR _).drew).below f3)|skip);clear f2 f3;(first|(have p0:=n.out.cell (j:=0) rfl;have z0:=n.out.fz 0;have p1:=n.out.cell (j:=1) rfl;have z1:=n.out.fz 1;have p2:=n.out.cell (j:=2) rfl;have z2:=n.out.fz 2;have p3:=n.out.cell (j:=3) rfl;have z3:=n.out.fz 3;have p4:=n.out.cell (j:=4) rfl;have z4:=n.out.fz 4;have p5:=n.out.cell (j:=5) rfl;have z5:=n.out.fz 5)|skip));first|(go_wp2_with fail)|skip)
     | skip
    refine hK.out _ _ ?_ (fun hHeld=> ?_)
    ·(try dsimp only);exact a2.out _ (by first|with_reducible exact a1.out|with_reducible exact a6.out|with_reducible exact hF.out|with_reducible exact hF.out.alloc hF.out.size _|exact ak hF.out (nR _) _ _ _ _ _ _)
    clear hK ea
    try simp only[Act.put,yA,aB,yS])
 rename ib=>dl
 obtain ⟨rfl,rfl,Bm,rfl,b5⟩:=hcut
 obtain ⟨MA,bh,MC,bl,g1,g2,g3,g4⟩:=b5
 have hN:=ja5 g1 g2 (r.out.2.1.trans (g3.mono r.out.2.1.size)) (r.out.2.2.2.1.below g3) g4
 have b3:=ja1 r.out.2.2.1.lt
 clear g1 g2 g3 g4 hM
 cases hn:(a8 != 0)
 rotate_left
 focus
  have L:K (tkE s t a b=a8/\¬tkE s t a b=0):=by
   have h0:¬a8=0:=by simpa using hn
   have h1:tkE s t a b=a8:=by unfold tkE;rw[if_neg (by rw[a3.out.1];exact h0)];exact a3.out.1
   exact ⟨h1,by rw[h1];exact h0⟩
  go_wp2
  go_ret
  refine ⟨by rw[L.out.1];rfl,?_,Wr.of hN.out.2.2.1 hH.out.1.blk.lt⟩
  unfold tkS tkT
  rw[if_neg L.out.2,if_neg L.out.2]
  have bN:=hH.out.1.below hN.out.2.2.1
  exact bN.mono (fun b hb=>af.old b hb) (da hH.out.1.out hH.out.1.blk.lt) (fq fun b hb=>bN.up b hb)
 have h0:a8=0:=by simpa using hn
 have bn:=ja1 h0
 clear hn h0
 have b4:(a8 != 0)=false:=by rw[bn.out];rfl
 obtain ⟨c0,c1,c2,c3,c4,c5⟩:=iJ hN.out.1
 obtain ⟨p0,p1,p2,p3,p4,p5⟩:=iJ hN.out.2.2.2.1
 obtain ⟨z0,z1,z2,z3,z4,z5⟩:=rO hN.out.2.2.2.1
 go_wp2
 obtain ⟨u,ao⟩:∃W,((((((dl.setCell ⟨w.heap.size+1,0,none⟩ (J I g.c.c0)).setCell ⟨w.heap.size+1,1,none⟩ (J I g.c.c1)).setCell ⟨w.heap.size+1,2,none⟩ (J I g.c.c2)).setCell ⟨w.heap.size+1,3,none⟩ (J I g.c.c3)).setCell ⟨w.heap.size+1,4,none⟩ (Z MA g.c.l.length bh)).setCell ⟨w.heap.size+1,5,none⟩ (Z MC g.e.length bl))=W:=⟨_,rfl⟩
 rw[ao]
 have hJ:K (TbW f.heap.size u g MA bh MC bl/\H w.heap.size w u/\Cls u (w.heap.size+1) [J I g.c.c0,J I g.c.c1,J I g.c.c2,J I g.c.c3,Z MA g.c.l.length bh,Z MC g.e.length bl,J I 0,J I 0,J I 0,J I 0,Z none 0 0,Z none 0 0]):=by
  have c7:=b3.out
  have c6:=hI.out.1.size
  have cB:=hI.out.2.lt
  refine ⟨?_,?_,?_⟩
  ·rw[<-ao];exact hN.out.2.1.agr ((((((aS _ fun h=>by omega).trans (aS _ fun h=>by omega)).trans (aS _ fun h=>by omega)).trans (aS _ fun h=>by omega)).trans (aS _ fun h=>by omega)).trans (aS _ fun h=>by omega))
  ·have an:w.heap.size<=w.heap.size+1:=by omega
   rw[<-ao];exact (((((hN.out.2.2.1.setCell an _).setCell an _).setCell an _).setCell an _).setCell an _).setCell an _
  ·rw[<-ao];exact (((((hN.out.2.2.2.1.put 0 _).put 1 _).put 2 _).put 3 _).put 4 _).put 5 _

 clear ao b4 c0 c1 c2 c3 c4 c5 p0 z0 p1 z1 p2 z2 p3 z3 p4 z4 p5 z5
 have cv:=ja1 hJ.out.1
 have b7:=ja1 r.out.2.1.size
 clear r hN hI
 have hI:=ja2 hJ.out.2.1 hJ.out.2.2
 have cn:=ja2 b7.out trivial
 clear hJ
 rw[rounds_succ]
 go_upto_region 5 with fail
 obtain ⟨k,a7⟩:∃W,u.alloc (ih #[J I b.c.c0,J I b.c.c1,J I b.c.c2,J I b.c.c3,Z PB b.c.l.length ah,Z PD b.e.length a0] 56)=W:=⟨_,rfl⟩
 rw[a7]
 have r:K (Gr u k/\H w.heap.size w k/\Cls k u.heap.size (T6 b PB ah PD a0)/\Cls k (w.heap.size+1) [J I g.c.c0,J I g.c.c1,J I g.c.c2,J I g.c.c3,Z MA g.c.l.length bh,Z MC g.e.length bl,J I 0,J I 0,J I 0,J I 0,Z none 0 0,Z none 0 0]/\N<k.heap.size/\TbC k N (O+1) s A ca C cc/\TbC k N (O+7) t B cb D cd):=by
  have hg:Gr u k:=by rw[<-a7];exact (gR _).alloc _
  have hb:=hI.out.1.trans (hg.below.mono hI.out.1.size)
  have be:=hH.out.1.blk.lt
  exact ⟨hg,hb,by rw[<-a7];exact Cls.new u _ _,hI.out.2.gr hg,nL be hb.size,hH.out.2.2.2.1.keep fun j _ _=>hb.cell (p:=⟨N,j,none⟩) be,hH.out.2.2.2.2.keep fun j _ _=>hb.cell (p:=⟨N,j,none⟩) be⟩
 clear a7
 obtain ⟨a9,bb⟩:∃E,au t b=E:=⟨_,rfl⟩
 obtain ⟨R,bc⟩:∃E,ag t b=E:=⟨_,rfl⟩
 have ba:=ja2 bb bc
 have hM:K (∀W,H k.heap.size k W->ik d 129 #[kb (T6 t B cb D cd).toArray,kb (T6 b PB ah PD a0).toArray] W fun e w'=>∃E ce F cf,e= ia (ka #[kb (T6 R E ce F cf).toArray,J I a9])/\TbW W.heap.size w' R E ce F cf/\H W.heap.size W w'):=fun W hW=>by
  have hb:=r.out.2.1.trans (hW.mono r.out.2.1.size)
  have a4:=hH.out.2.2.1.below hb
  have hm:=jq t b B PB D PD cb ah cd a0 W a4.len.1 a5.out.2.2.2.2.2.2.1 a4.len.2 a5.out.2.2.2.2.2.2.2.1 a4.nr a5.out.2.2.2.2.2.2.2.2.2 (a4.row) (a5.out.2.2.1.below hb) (a4.cel) (a5.out.2.2.2.1.below hb)
  rw[bb,bc] at hm
  refine hm.mono ?_
  rintro e w' ⟨E,ce,F,cf,rfl,f1,f2,f3,f4,f5,f6,f7⟩
  exact ⟨E,ce,F,cf,rfl,⟨f1,f2,f3,f4,f5,f6⟩,f7⟩
 clear bb bc
 go_cut [8,9,12] from 12 to 33 (fun v8 v9 v12 wx=>v9= J I a9/\v12= J I 1/\∃Bm:Nat,v8= ic (some ⟨Bm,0,none⟩)/\TbR k wx Bm R)
 case first =>
  have a1:=ja1 ((gR k).drew.below)
  have a6:K (H k.heap.size k (k.alloc (ih #[J I 0,J I 0,J I 0,J I 0,Z none 0 0,Z none 0 0] 56)).drew):=((gR k).alloc _).drew.below
  have bC:K (k.heap.size<=k.drew.heap.size):=nR _
  have bG:K (k.heap.size+1<=(k.alloc (ih #[J I 0,J I 0,J I 0,J I 0,Z none 0 0,Z none 0 0] 56)).drew.heap.size):=by show _<=(k.alloc _).heap.size;simp
  have a2:K (∀W,H k.heap.size k W->(fun w'=>w'.cell? ⟨u.heap.size,0,none⟩=some (J I b.c.c0)/\w'.cell? ⟨u.heap.size,1,none⟩=some (J I b.c.c1)/\w'.cell? ⟨u.heap.size,2,none⟩=some (J I b.c.c2)/\w'.cell? ⟨u.heap.size,3,none⟩=some (J I b.c.c3)/\w'.cell? ⟨u.heap.size,4,none⟩=some (Z PB b.c.l.length ah)/\w'.cell? ⟨u.heap.size,5,none⟩=some (Z PD b.e.length a0)/\w'.cell? ⟨N,O+7,none⟩=some (J I t.c.c0)/\w'.cell? ⟨N,O+8,none⟩=some (J I t.c.c1)/\w'.cell? ⟨N,O+9,none⟩=some (J I t.c.c2)/\w'.cell? ⟨N,O+10,none⟩=some (J I t.c.c3)/\w'.cell? ⟨N,O+11,none⟩=some (Z B t.c.l.length cb)/\w'.cell? ⟨N,O+12,none⟩=some (Z D t.e.length cd)) W):=fun W hW=>⟨(r.out.2.2.1.below hW).cell (j:=0) rfl,(r.out.2.2.1.below hW).cell (j:=1) rfl,(r.out.2.2.1.below hW).cell (j:=2) rfl,(r.out.2.2.1.below hW).cell (j:=3) rfl,(r.out.2.2.1.below hW).cell (j:=4) rfl,(r.out.2.2.1.below hW).cell (j:=5) rfl,(hW.cell (p:=⟨N,O+7,none⟩) r.out.2.2.2.2.1).trans r.out.2.2.2.2.2.2.k0,(hW.cell (p:=⟨N,O+8,none⟩) r.out.2.2.2.2.1).trans r.out.2.2.2.2.2.2.k1,(hW.cell (p:=⟨N,O+9,none⟩) r.out.2.2.2.2.1).trans r.out.2.2.2.2.2.2.k2,(hW.cell (p:=⟨N,O+10,none⟩) r.out.2.2.2.2.1).trans r.out.2.2.2.2.2.2.k3,(hW.cell (p:=⟨N,O+11,none⟩) r.out.2.2.2.2.1).trans r.out.2.2.2.2.2.2.k4,(hW.cell (p:=⟨N,O+12,none⟩) r.out.2.2.2.2.1).trans r.out.2.2.2.2.2.2.k5⟩
  refine wp_region_noPanic ?_
  refine wp_region_held_drew (S:=(fun w'=>w'.cell? ⟨u.heap.size,0,none⟩=some (J I b.c.c0)/\w'.cell? ⟨u.heap.size,1,none⟩=some (J I b.c.c1)/\w'.cell? ⟨u.heap.size,2,none⟩=some (J I b.c.c2)/\w'.cell? ⟨u.heap.size,3,none⟩=some (J I b.c.c3)/\w'.cell? ⟨u.heap.size,4,none⟩=some (Z PB b.c.l.length ah)/\w'.cell? ⟨u.heap.size,5,none⟩=some (Z PD b.e.length a0)/\w'.cell? ⟨N,O+7,none⟩=some (J I t.c.c0)/\w'.cell? ⟨N,O+8,none⟩=some (J I t.c.c1)/\w'.cell? ⟨N,O+9,none⟩=some (J I t.c.c2)/\w'.cell? ⟨N,O+10,none⟩=some (J I t.c.c3)/\w'.cell? ⟨N,O+11,none⟩=some (Z B t.c.l.length cb)/\w'.cell? ⟨N,O+12,none⟩=some (Z D t.e.length cd))) (by kernel_rfl) (a2.out _ a1.out) (fun hHeld=> ?_)
  show wpAnyH _ _ _ _ _ 14 _ _ _
  repeat' first
   | with_reducible exact AllReadyH.nil
   | (
    (with_reducible refine isW ?_);refine wpAnyH_done (by decide +kernel) ?_ _
    refine NoPanic.normal ?_
    go_wp2_with fail
    go_meet
    case rel=>exact ⟨rfl,rfl,_,rfl,(by first|with_reducible exact mB (bs.out.mono bC.out) hF.out|with_reducible exact kU n.out (bs.out.mono bG.out) hF.out)⟩)
   | (
    (with_reducible refine isW ?_);first
     | refine tkk 0 [1,2,3,4,5,6] (by assumption) (v:= ?_) (by simp only[zA,z0',zS];rfl) (by decide +kernel) ?_ ?_
     | refine tkk 8 [9,10] (by assumption) (v:= ?_) (by simp only[zA,z0',zS];rfl) (by decide +kernel) ?_ ?_
     | refine tkk 13 [] (by assumption) (v:= ?_) (by simp only[zA,z0',zS];rfl) (by decide +kernel) ?_ ?_
    rotate_left
    ·(refine oL ⟨by rfl,?_⟩;intro w bd;(try dsimp only at bd);go_simp<;>with_reducible rfl)
    try simp only[Act.put,yA,aB,yS]
    repeat (refine tk (v:= ?_) (by simp only[zA,z0',zS];rfl) (by kernel_rfl) ?_ ?_;rotate_left;· (refine oL ⟨by rfl,?_⟩;intro w bd;(try dsimp only at bd);go_simp<;>with_reducible rfl);try simp only[Act.put,yA,aB,yS])
    refine tk0 ?_)
   | ((with_reducible refine isW ?_);first
     | refine wpAnyH_ready (rs:=[7,11]) (by decide +kernel) (by simp) ?_
     | refine wpAnyH_ready (rs:=[11]) (by decide +kernel) (by simp) ?_
     | refine wpAnyH_ready (rs:=[12]) (by decide +kernel) (by simp) ?_
     | refine wpAnyH_ready (rs:=[7]) (by decide +kernel) (by simp) ?_)
   | ((with_reducible refine isR ?_);refine rdc (by simp only[zA,z0',zS];rfl) ?_ fun ea hK=> ?_)
   | (
    go_simp
    first
     | ((go_at_call 129;(with_reducible refine cM (hM.out _ (by first|with_reducible exact a1.out|with_reducible exact a6.out)) ?_);rintro e w2 ⟨E,ce,F,cf,rfl,f2,f3⟩;have hF:K (H k.heap.size k w2):=(by first|exact a1.out.trans (f3.mono a1.out.size)|exact a6.out.trans (f3.mono a6.out.size));have bs:K _:=f2;(first|(have n:K (Cls w2 k.heap.size Z6):=((Cls.new k #[J I 0,J I 0,J I 0,J I 0,Z none 0 0,Z none 0 0] 56).gr (gR _).drew).below f3)|skip);clear f2 f3;(first|(have p0:=n.out.cell (j:=0) rfl;have z0:=n.out.fz 0;have p1:=n.out.cell (j:=1) rfl;have z1:=n.out.fz 1;have p2:=n.out.cell (j:=2) rfl;have z2:=n.out.fz 2;have p3:=n.out.cell (j:=3) rfl;have z3:=n.out.fz 3;have p4:=n.out.cell (j:=4) rfl;have z4:=n.out.fz 4;have p5:=n.out.cell (j:=5) rfl;have z5:=n.out.fz 5)|skip));first|(go_wp2_with fail)|skip)
     | skip
    refine hK.out _ _ ?_ (fun hHeld=> ?_)
    ·(try dsimp only);exact a2.out _ (by first|with_reducible exact a1.out|with_reducible exact a6.out|with_reducible exact hF.out|with_reducible exact hF.out.alloc hF.out.size _|exact ak hF.out (nR _) _ _ _ _ _ _)
    clear hK ea
    try simp only[Act.put,yA,aB,yS])
 rename ib=>cu
 obtain ⟨rfl,rfl,Bm,rfl,b5⟩:=hcut
 obtain ⟨MB,b1,MD,b2,g1,g2,g3,g4⟩:=b5
 have hN:=ja5 g1 g2 (r.out.2.1.trans (g3.mono r.out.2.1.size)) (r.out.2.2.2.1.below g3) g4
 have cm:=ja1 r.out.2.2.1.lt
 have cl:=ja1 g3
 clear g1 g2 g3 g4 hM
 cases hn:(a9 != 0)
 rotate_left
 focus
  have L:K (tkE s t a b=a9/\¬tkE s t a b=0):=by
   have h0:¬a9=0:=by simpa using hn
   have h1:tkE s t a b=a9:=by unfold tkE;rw[if_pos (by rw[a3.out.1];exact bn.out)];exact ba.out.1
   exact ⟨h1,by rw[h1];exact h0⟩
  go_wp2
  go_ret
  refine ⟨by rw[L.out.1];rfl,?_,Wr.of hN.out.2.2.1 hH.out.1.blk.lt⟩
  unfold tkS tkT
  rw[if_neg L.out.2,if_neg L.out.2]
  have bN:=hH.out.1.below hN.out.2.2.1
  exact bN.mono (fun b hb=>af.old b hb) (da hH.out.1.out hH.out.1.blk.lt) (fq fun b hb=>bN.up b hb)
 have h0:a9=0:=by simpa using hn
 have bp:=ja1 h0
 clear hn h0
 have b4:(a9 != 0)=false:=by rw[bp.out];rfl
 obtain ⟨c0,c1,c2,c3,c4,c5⟩:=iJ hN.out.1
 obtain ⟨p6,p7,p8,p9,c9,dk⟩:=CZ hN.out.2.2.2.1
 obtain ⟨z6,z7,z8,z9,dp,ds⟩:=DS hN.out.2.2.2.1
 go_wp2
 obtain ⟨bo,ao⟩:∃W,((((((cu.setCell ⟨w.heap.size+1,6,none⟩ (J I R.c.c0)).setCell ⟨w.heap.size+1,7,none⟩ (J I R.c.c1)).setCell ⟨w.heap.size+1,8,none⟩ (J I R.c.c2)).setCell ⟨w.heap.size+1,9,none⟩ (J I R.c.c3)).setCell ⟨w.heap.size+1,10,none⟩ (Z MB R.c.l.length b1)).setCell ⟨w.heap.size+1,11,none⟩ (Z MD R.e.length b2))=W:=⟨_,rfl⟩
 rw[ao]
 have hJ:K (TbW k.heap.size bo R MB b1 MD b2/\H w.heap.size w bo/\Cls bo (w.heap.size+1) (T2 g MA bh MC bl R MB b1 MD b2)/\TbW f.heap.size bo g MA bh MC bl):=by
  have c7:=cm.out
  have c6:=hI.out.1.size
  have cB:=hI.out.2.lt
  refine ⟨?_,?_,?_,?_⟩
  ·rw[<-ao];exact hN.out.2.1.agr ((((((aS _ fun h=>by omega).trans (aS _ fun h=>by omega)).trans (aS _ fun h=>by omega)).trans (aS _ fun h=>by omega)).trans (aS _ fun h=>by omega)).trans (aS _ fun h=>by omega))
  ·have an:w.heap.size<=w.heap.size+1:=by omega
   rw[<-ao];exact (((((hN.out.2.2.1.setCell an _).setCell an _).setCell an _).setCell an _).setCell an _).setCell an _
  ·rw[<-ao];exact (((((hN.out.2.2.2.1.put 6 _).put 7 _).put 8 _).put 9 _).put 10 _).put 11 _
  ·have cA:H u.heap.size u cu:=r.out.1.below.trans (cl.out.mono r.out.1.size)
   have dG:=b3.out
   have dz:=cs.out
   rw[<-ao];exact (cv.out.below cA).agr ((((((aS _ fun h=>by omega).trans (aS _ fun h=>by omega)).trans (aS _ fun h=>by omega)).trans (aS _ fun h=>by omega)).trans (aS _ fun h=>by omega)).trans (aS _ fun h=>by omega))
 clear ao b4 c0 c1 c2 c3 c4 c5 p6 z6 p7 z7 p8 z8 p9 z9 c9 dp dk ds
 have b8:=ja1 r.out.2.1.size
 rw[rounds_succ]
 have L:K (tkE s t a b=0/\tkS s t a b=g/\tkT s t a b=R/\aw g=0/\aw R=0):=by
  have h1:tkE s t a b=0:=by unfold tkE;rw[if_pos (by rw[a3.out.1];exact bn.out),ba.out.1];exact bp.out
  exact ⟨h1,by unfold tkS;rw[if_pos h1];exact a3.out.2,by unfold tkT;rw[if_pos h1];exact ba.out.2,by rw[<-a3.out.2];exact dv (by rw[a3.out.1];exact bn.out),by rw[<-ba.out.2];exact dv (by rw[ba.out.1];exact bp.out)⟩
 have b6:=ja2 hJ.out.2.1 (hH.out.1.below hJ.out.2.1)
 have b9:K (ik d 130 #[ic (some ⟨N,O,none⟩),kb (T2 g MA bh MC bl R MB b1 MD b2).toArray] bo fun e w'=>e= ia (ka #[])/\Nd w' N O (af P w.heap.size w'.heap.size) id g R qs/\Wr N (O+1) (O+37) bo w') :=
  jR b6.out.2 hH.out.1.blk.lt b6.out.1.size ((hJ.out.2.2.2.p L.out.2.2.2.1).mono fun b hb=>af.new cn.out.1 (nR _) b hb) ((hJ.out.1.p L.out.2.2.2.2).mono fun b hb=>af.new b8.out (nR _) b hb)
 obtain ⟨q0,q1,q2,q3,q4,q5,q6,q7,q8,q9,d5,d6⟩:=iv hJ.out.2.2.1
 go_wp2_with fail
 refine ja0 b9 ?_
 rintro e w8 ⟨rfl,f1,f2⟩
 have bt:=ja2 f1 ((Wr.of b6.out.1 hH.out.1.blk.lt).trans f2)
 clear f1 f2 b9
 go_wp2
 go_ret
 refine ⟨by rw[L.out.1];rfl,?_,bt.out.2⟩
 rw[L.out.2.1,L.out.2.2.1]
 exact bt.out.1
end Go.Proofs.YtjmmpnmgpgaagaaGreatDoor
