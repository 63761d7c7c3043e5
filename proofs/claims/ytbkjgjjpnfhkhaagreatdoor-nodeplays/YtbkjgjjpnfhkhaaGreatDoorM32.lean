import Derived.Test.YtbkjgjjpnfhkhaaGreatDoorM31
import Derived.Shelf.Slices.Clone
set_option maxRecDepth 100000
set_option maxHeartbeats 8000000
open Go renaming World → K, Calls → T, Addr → ib
open Go.Ending renaming returned → H
open Go.IntKind renaming i64 → S
open Go.Obj renaming cells → Q
open Go.Proofs.Tryz renaming prog → Z
open Go.RowKit renaming Hid → U
open Go.Value renaming slice → I, int → J, pointer → ia, tuple → ih
namespace Go.Proofs.YtbkjgjjpnfhkhaaGreatDoor
open Go.RowKit Go.Sort

def gZ:Tab:=⟨⟨0,0,0,0,[]⟩,[]⟩
theorem me:ay gZ=0:=by decide
theorem wv (w:K) (id:Int) (g:0<=id) (k:id<=3) :
  T Z 4 #[J S id] w fun e w'=>e= H (ih #[ia (jb4 w.heap.size 0),J S 0])/\Nd w' w.heap.size 0 (fun _=>False) id gZ gZ []/\jb2 w w':=by
 have d:U (Nd (w.alloc (Q #[J S id,J S 0,J S 0,J S 0,J S 0,I none 0 0,I none 0 0,J S 0,J S 0,J S 0,J S 0,I none 0 0,I none 0 0,I none 0 0,I none 0 0,I none 0 0,I none 0 0,I none 0 0,J S 0,I none 0 0,I none 0 0,I none 0 0,I none 0 0,I none 0 0,J S 0,I none 0 0,I none 0 0,I none 0 0,I none 0 0,I none 0 0,J S 0,I none 0 0,I none 0 0,I none 0 0,I none 0 0,I none 0 0,J S 0,J S 0] 72)) w.heap.size 0 (fun _=>False) id gZ gZ []/\jb2 w (w.alloc (Q #[J S id,J S 0,J S 0,J S 0,J S 0,I none 0 0,I none 0 0,J S 0,J S 0,J S 0,J S 0,I none 0 0,I none 0 0,I none 0 0,I none 0 0,I none 0 0,I none 0 0,I none 0 0,J S 0,I none 0 0,I none 0 0,I none 0 0,I none 0 0,I none 0 0,J S 0,I none 0 0,I none 0 0,I none 0 0,I none 0 0,I none 0 0,J S 0,I none 0 0,I none 0 0,I none 0 0,I none 0 0,I none 0 0,J S 0,J S 0] 72))):=by have c:=Cls.new w #[J S id,J S 0,J S 0,J S 0,J S 0,I none 0 0,I none 0 0,J S 0,J S 0,J S 0,J S 0,I none 0 0,I none 0 0,I none 0 0,I none 0 0,I none 0 0,I none 0 0,I none 0 0,J S 0,I none 0 0,I none 0 0,I none 0 0,I none 0 0,I none 0 0,J S 0,I none 0 0,I none 0 0,I none 0 0,I none 0 0,I none 0 0,J S 0,I none 0 0,I none 0 0,I none 0 0,I none 0 0,I none 0 0,J S 0,J S 0] 72;refine ⟨⟨⟨_,_,⟨_,(MapKept.heap_alloc _ _).1,rfl⟩,nR _⟩,fun h=>h,fun b h=>h.elim,c.cell rfl,⟨none,0,none,0,⟨c.cell rfl,c.cell rfl,c.cell rfl,c.cell rfl,c.cell rfl,c.cell rfl⟩,⟨oL rfl,oL rfl,fun _ _ h=>absurd rfl h,fun _ _ h=>absurd rfl h,fun _=>rfl,fun _=>rfl,me⟩⟩,⟨none,0,none,0,⟨c.cell rfl,c.cell rfl,c.cell rfl,c.cell rfl,c.cell rfl,c.cell rfl⟩,⟨oL rfl,oL rfl,fun _ _ h=>absurd rfl h,fun _ _ h=>absurd rfl h,fun _=>rfl,fun _=>rfl,me⟩⟩,c.cell rfl,nZ _,fun j f=>absurd f (Nat.not_lt_zero _)⟩,((gR w).alloc _).below⟩
 go_enter Tryz.func4,Tryz.ntmps4;go_wp2;go_ret2;exact ⟨rfl,d.out⟩
theorem ut {w:K} {N O:Nat} {P:Nat->Prop} {id:Int} {s t:Tab} {qs:List (List Stp)} (h:Nd w N O P id s t qs) :
  T Z 15 #[ia (jb4 N O)] w fun e w'=>e= H (J S (qs.length:Int))/\w'=w:=by have c:=h.cnt;go_enter Tryz.func15,Tryz.ntmps15;go_wp2;go_ret;exact ⟨rfl,rfl⟩
theorem us {w:K} {N O:Nat} {P:Nat->Prop} {id:Int} {s t:Tab} {qs:List (List Stp)} (h:Nd w N O P id s t qs) {i:Int} (hi:i<0\/(qs.length:Int)<=i) :
  T Z 19 #[ia (jb4 N O),J S i] w fun e w'=>e= H (ih #[I none 0 0,J S 4])/\w'=w:=by
 have c:=h.cnt;by_cases d:i<0
 ·go_enter Tryz.func19,Tryz.ntmps19;go_wp2;go_ret2;exact ⟨rfl,rfl⟩
 ·have f:(qs.length:Int)<=i:=by omega
  go_enter Tryz.func19,Tryz.ntmps19;go_wp2;go_ret2;exact ⟨rfl,rfl⟩
theorem xK {w:K} {N O:Nat} {P:Nat->Prop} {id:Int} {s t:Tab} {qs:List (List Stp)} (h:Nd w N O P id s t qs) {j:Nat} (R:j<qs.length) :
  T Z 19 #[ia (jb4 N O),J S j] w fun e w'=>∃(L:List Itm) (C:Option ib) (k:Nat),e= H (ih #[I C L.length k,J S (ct qs[j] (ofR s) (ofR t))])/\L.map Itm.z=el qs[j] (ofR s) (ofR t)/\Lv w' C k L/\jb2 w w'/\NwT w' k w.heap.size C L:=by have f:=h.cnt;have ad:=h.le;obtain ⟨E,r⟩:=jb0 (ct qs[j] (ofR s) (ofR t));obtain ⟨F,u⟩:=jb0 (el qs[j] (ofR s) (ofR t));have c:=xE (h.view R);rw[r,u] at c ⊢;have D:U _:=c;go_enter Tryz.func19,Tryz.ntmps19;go_wp2_with fail;refine ja0 D ?_;rintro e w1 ⟨L,C,k,rfl,g,l,m,n⟩;have d:=ja4 g l m n;go_wp2;go_ret2;exact ⟨L,C,k,rfl,d.out⟩

def wtE (q:List Stp) (qs:List (List Stp)):Int:=if bX q=0 then (if qs.length=4 then 2 else 0) else bX q
def wtQ (q:List Stp) (qs:List (List Stp)):List (List Stp):=if wtE q qs=0 then qs++[q] else qs
theorem VwN.move {w w':K} {V o N o':Nat} {P:Nat->Prop} {q:List Stp} {z y:List Zit} (h:VwN w V o P q z y) (f:Agr P w w') (C:N<w'.heap.size) (r:∀j,w'.frozen? (jb5 N j)=false) (d:∀j,j<6->w'.cell? (jb5 N (o'+j))=w.cell? (jb5 V (o+j))):VwN w' N o' P q z y:=by obtain ⟨k,l,⟨D,QA,cq,a,A,ca,b,B,cb,x,X,cx,u,E,g,c,m⟩,n⟩:=h;exact ⟨k,l,⟨D,QA,cq,a,A,ca,b,B,cb,x,X,cx,u,E,g,⟨⟨C,r,(d 0 (by omega)).trans c.vo.c0,(d 1 (by omega)).trans c.vo.c1,(d 2 (by omega)).trans c.vo.c2,c.vo.st.agr f,c.vo.len,c.vo.la.agr f,c.vo.lb.agr f⟩,(d 3 (by omega)).trans c.c3,(d 4 (by omega)).trans c.c4,(d 5 (by omega)).trans c.c5,c.lx.agr f,c.ly.agr f⟩,m⟩,n⟩
theorem Nd.more {w w':K} {N O:Nat} {P P':Nat->Prop} {id:Int} {s t:Tab} {qs:List (List Stp)} {q:List Stp} (h:Nd w N O P id s t qs) (F:qs.length<4) (c:∀b,P b->P' b) (r:¬P' N) (n:∀b,P' b->b<w'.heap.size) (g:Wr N (O+13+qs.length*6) (O+38) w w') (C:VwN w' N (O+13+qs.length*6) P' q (ofR s) (ofR t)) (u:jb1 w' N (O+37) (J S ((qs.length:Int)+1))):Nd w' N O P' id s t (qs++[q]):=by
 have l:=g.blo h.blk;have f:Agr P w w':=g.agr fun k=>r (c _ k);have d:∀j,j<O+13+qs.length*6->w'.cell? (jb5 N j)=w.cell? (jb5 N j):=fun j m=>g.celo h.blk (oL m);refine ⟨l,r,n,(d O (by omega)).trans h.cid,(h.ts.keep f fun j _ _=>d j (by omega)).mono c,(h.tt.keep f fun j _ _=>d j (by omega)).mono c,by rw[u];simp,by simp;omega,fun j m=> ?_⟩;rw[List.length_append,List.length_singleton] at m;rw[if_pos (by omega),if_pos (by omega)];by_cases e:j=qs.length
 ·subst e;rw[List.getElem_append_right (Nat.le_refl _)];simpa using C
 ·rw[List.getElem_append_left (by omega)];exact ((h.view (by omega)).keep f l.lt l.fz fun i D E=>d i (by omega)).mono c
theorem uv {w:K} {N O:Nat} {P:Nat->Prop} {id:Int} {s t:Tab} {qs:List (List Stp)} (h:Nd w N O P id s t qs) (q:List Stp) (QA:Option ib) (cq:Nat) (hl:q.length<=maxLen) (hq:Stps w QA q) :
  T Z 10 #[ia (jb4 N O),I QA q.length cq] w fun e w'=>e= H (J S (wtE q qs))/\Nd w' N O (aj P w.heap.size w'.heap.size) id s t (wtQ q qs)/\Wr N (O+13) (O+38) w w':=by
 obtain ⟨A,ca,C,cc,bG,b1⟩:=h.ts;obtain ⟨B,cb,D,cd,bN,b2⟩:=h.tt;have d:U (Nd w N O P id s t qs/\w.cell? (jb5 N (O+37))=some (J S (qs.length:Int))/\TbC w N (O+1) s A ca C cc/\TbC w N (O+7) t B cb D cd/\TbP P w s A ca C cc/\TbP P w t B cb D cd/\N<w.heap.size/\qs.length<=4):=⟨h,h.cnt,bG,bN,b1,b2,h.blk.lt,h.le⟩;have a1:U (∀W,jb2 w W->Nd W N O (aj P w.heap.size W.heap.size) id s t qs/\Wr N (O+13) (O+38) w W):=fun W hW=>by have hn:=d.out.1.below hW;exact ⟨hn.mono (fun b r=>aj.old b r) (cZ d.out.1.out d.out.1.blk.lt) (fM fun b r=>hn.up b r),Wr.of hW d.out.1.blk.lt⟩
 by_cases he:bX q=0;rotate_left
 ·have ak:=yJ q QA cq w hl hq he;obtain ⟨E,hE⟩:=jb0 (bX q);have f:U (wtE q qs=E/\wtQ q qs=qs):=by have h1:wtE q qs=bX q:=(by unfold wtE;rw[if_neg he]);exact ⟨h1.trans hE,by unfold wtQ;rw[h1,if_neg he]⟩
  rw[hE] at ak he;have hC:U _:=ak;go_enter Tryz.func10,Tryz.ntmps10;go_wp2_with fail;refine ja0 hC ?_;rintro e w1 ⟨rfl,bv⟩;have bC:=ja1 bv;go_wp2;go_ret;refine ⟨by rw[f.out.1];rfl,?_⟩;rw[f.out.2];exact a1.out w1 bC.out
 have ak:=Aa q QA cq w hl hq he;have hC:U _:=ak;have bb:=ja1 he;go_enter Tryz.func10,Tryz.ntmps10;go_wp2_with fail;refine ja0 hC ?_;rintro e w1 ⟨V,q',QB,cr,rfl,f1,f2,f3,f4⟩;have hV:=ja4 f1 f2 f3 f4;have a2:=(hV.out.2.2.2.cell (p:=(jb5 N (O+37))) d.out.2.2.2.2.2.2.1).trans d.out.2.1;by_cases h4:qs.length=4
 ·have bl:((qs.length:Int)==4)=true:=by simp;omega
  have f:U (wtE q qs=2/\wtQ q qs=qs):=by have h1:wtE q qs=2:=(by unfold wtE;rw[if_pos bb.out,if_pos h4]);exact ⟨h1,by unfold wtQ;rw[h1,if_neg (by decide)]⟩
  go_wp2;go_ret;refine ⟨by rw[f.out.1];rfl,?_⟩;rw[f.out.2];exact a1.out w1 hV.out.2.2.2
 have bl:((qs.length:Int)==4)=false:=by simp;omega
 have a6:U (qs.length<4):=by have:=d.out.2.2.2.2.2.2.2;show _<_;omega
 have f:U (wtE q qs=0/\wtQ q qs=qs++[q]):=by
  have h1:wtE q qs=0:=by unfold wtE;rw[if_pos bb.out,if_neg h4]
  exact ⟨h1,by unfold wtQ;rw[h1,if_pos rfl]⟩
 have v0:=hV.out.2.1.c0;have v1:=hV.out.2.1.c1;have v2:=hV.out.2.1.c2;go_upto_region 7 with fail;obtain ⟨w2,an⟩:=jb0 (w1.alloc (Q #[I QB q'.length cr,I none 0 0,I none 0 0,I none 0 0,I none 0 0,J S 0] 69));rw[an];have n:U (Cls w2 w1.heap.size [I QB q'.length cr,I none 0 0,I none 0 0,I none 0 0,I none 0 0,J S 0]/\Gr w1 w2/\jb2 w w2/\Blk w2 w1.heap.size 69 6):=by
  have hg:Gr w1 w2:=by rw[<-an];exact (gR _).alloc _
  exact ⟨by rw[<-an];exact Cls.new w1 _ _,hg,hV.out.2.2.2.trans (hg.below.mono hV.out.2.2.2.size),by rw[<-an];exact ⟨_,(MapKept.heap_alloc _ _).1,rfl⟩⟩
 have m:=d.out.2.2.2.2.2.2.1;have n1:=(n.out.2.2.1.cell (p:=(jb5 N (O+1))) m).trans d.out.2.2.1.k0;have n2:=(n.out.2.2.1.cell (p:=(jb5 N (O+2))) m).trans d.out.2.2.1.k1;have n3:=(n.out.2.2.1.cell (p:=(jb5 N (O+3))) m).trans d.out.2.2.1.k2;have n4:=(n.out.2.2.1.cell (p:=(jb5 N (O+4))) m).trans d.out.2.2.1.k3;have n5:=(n.out.2.2.1.cell (p:=(jb5 N (O+5))) m).trans d.out.2.2.1.k4;have n6:=(n.out.2.2.1.cell (p:=(jb5 N (O+6))) m).trans d.out.2.2.1.k5;have n7:=(n.out.2.2.1.cell (p:=(jb5 N (O+7))) m).trans d.out.2.2.2.1.k0;have n8:=(n.out.2.2.1.cell (p:=(jb5 N (O+8))) m).trans d.out.2.2.2.1.k1;have n9:=(n.out.2.2.1.cell (p:=(jb5 N (O+9))) m).trans d.out.2.2.2.1.k2;have b7:=(n.out.2.2.1.cell (p:=(jb5 N (O+10))) m).trans d.out.2.2.2.1.k3;have b8:=(n.out.2.2.1.cell (p:=(jb5 N (O+11))) m).trans d.out.2.2.2.1.k4;have b9:=(n.out.2.2.1.cell (p:=(jb5 N (O+12))) m).trans d.out.2.2.2.1.k5;have bp:=j7 s t A B C D ca cb cc cd w2 (d.out.2.2.2.2.1.below n.out.2.2.1) (d.out.2.2.2.2.2.1.below n.out.2.2.1);have hS:U _:=bp;go_wp2_with fail;refine ja0 hS ?_;rintro e w3 ⟨L,M,X,Y,lk,mk,rfl,f1,f2,f3,f4,f5⟩;have h3:=ja5 f1 f2 f3 f4 f5;have a3:=ja3 hV.out.2.2.1 hV.out.2.1.lt n.out.1.lt;have bs:T Z 29 #[ia (jb4 w1.heap.size 0),.agg #[I X L.length lk,I Y M.length mk]] w3 fun e w'=>e= H (ih #[])/\VwN w' w1.heap.size 0 (aj (fun b=>w.heap.size<=b/\b<V) w3.heap.size w'.heap.size) q (ofR s) (ofR t)/\Wr w1.heap.size 0 (0+6) w3 w':=by have F:=n.out.1.below h3.out.2.2.2.2;have a9:=n.out.2.1.below.trans (h3.out.2.2.2.2.mono n.out.2.1.size);have ts:=TS.of d.out.2.2.2.2.1.ok;have tt:=TS.of d.out.2.2.2.2.2.1.ok;have bd:=a3.out;refine qB (n.out.2.2.2.below h3.out.2.2.2.2) (fun h=>by omega) (fun h=>by omega) (k:=[]) (l:=[]) (z:=[]) (y:=[]) (e0:=0) ⟨q',QB,cr,[],none,0,[],none,0,[],none,0,[],none,0,⟨⟨F.lt,F.fz,F.cell rfl,F.cell rfl,F.cell rfl,hV.out.2.1.st.below a9,hV.out.2.1.len,LvP.none _ _,LvP.none _ _⟩,F.cell rfl,F.cell rfl,F.cell rfl,LvP.none _ _,LvP.none _ _⟩,hV.out.1,rfl,rfl,rfl,rfl⟩ TS.nil TS.nil TS.nil TS.nil ts tt h3.out.2.2.1 h3.out.2.2.2.1 (by rw[h3.out.1,pp ts.ok]) (by rw[h3.out.2.1,pp tt.ok])
 have hT:U _:=bs;go_wp2_with fail;refine ja0 hT ?_;rintro e w4 ⟨rfl,f1,f2⟩;obtain ⟨kk,ll,⟨q2,QC,ah,a,PA,ao,b,PB,ap,x,PX,a0,u,PU,aL,g1,g2⟩,g3⟩:=f1;have h4:U (VwN w4 w1.heap.size 0 (aj (fun b=>w.heap.size<=b/\b<V) w3.heap.size w4.heap.size) q (ofR s) (ofR t)/\Wr w1.heap.size 0 (0+6) w3 w4):=⟨⟨kk,ll,⟨q2,QC,ah,a,PA,ao,b,PB,ap,x,PX,a0,u,PU,aL,g1,g2⟩,g3⟩,f2⟩;have c0:=g1.vo.c0;have c1:=g1.vo.c1;have c2:=g1.vo.c2;have c3:=g1.c3;have c4:=g1.c4;have c5:=g1.c5;have R:U (jb2 w w4/\Nd w4 N O P id s t qs/\N<w.heap.size):=by have r:=n.out.2.2.1.trans (h3.out.2.2.2.2.mono n.out.2.2.1.size);have bd:=a3.out;have c:jb2 w w4:=⟨f2.os.trans r.os,f2.tape.trans r.tape,f2.output.trans r.output,nT r.size f2.size,fun g hg=>(f2.oth g (nL hg r.size) (by omega)).trans (r.block g hg)⟩;exact ⟨c,d.out.1.below c,d.out.2.2.2.2.2.2.1⟩
 have a2:=R.out.2.1.cnt;have c:=R.out.2.1.blk;obtain ⟨j,hj⟩:=jb0 qs.length;have b0:=ja1 hj;rw[hj] at a2;have b3:j<4:=by have:=a6.out;omega
 obtain ⟨ce,o0⟩:=c.some (j:=O+13+j*6) (by omega);have cp:=c.fz (O+13+j*6);obtain ⟨cf,o1⟩:=c.some (j:=O+13+j*6+1) (by omega);have cs:=c.fz (O+13+j*6+1);obtain ⟨cj,o2⟩:=c.some (j:=O+13+j*6+2) (by omega);have cu:=c.fz (O+13+j*6+2);obtain ⟨ck,o3⟩:=c.some (j:=O+13+j*6+3) (by omega);have cv:=c.fz (O+13+j*6+3);obtain ⟨cl,o4⟩:=c.some (j:=O+13+j*6+4) (by omega);have cz:=c.fz (O+13+j*6+4);obtain ⟨cm,o5⟩:=c.some (j:=O+13+j*6+5) (by omega);have cG:=c.fz (O+13+j*6+5);have a4:=ja1 c;go_wp2;go_region;all_goals
  obtain ⟨w5,be⟩:=jb0 ((((((w4.setCell (jb5 N (O+13+j*6)) (I QC q2.length ah)).setCell (jb5 N (O+13+j*6+1)) (I PA a.length ao)).setCell (jb5 N (O+13+j*6+2)) (I PB b.length ap)).setCell (jb5 N (O+13+j*6+3)) (I PX x.length a0)).setCell (jb5 N (O+13+j*6+4)) (I PU u.length aL)).setCell (jb5 N (O+13+j*6+5)) (J S (ct q (ofR s) (ofR t))));rw[be];have h5:U (Wr N (O+13+j*6) (O+13+j*6+6) w4 w5/\(∀i v,[I QC q2.length ah,I PA a.length ao,I PB b.length ap,I PX x.length a0,I PU u.length aL,J S (ct q (ofR s) (ofR t))][i]? = some v->w5.cell? (jb5 N (O+13+j*6+i))=some v)/\w5.heap.size=w4.heap.size):=by have ad:fX N w4 (O+13+j*6) [I QC q2.length ah,I PA a.length ao,I PB b.length ap,I PX x.length a0,I PU u.length aL,J S (ct q (ofR s) (ofR t))]=w5:=be;refine ⟨by rw[<-ad];exact iK N _ w4 _ _ _ (nR _) (nR _),fun i v hv=> ?_,by rw[<-ad];exact fO _ _ _ _⟩;rw[<-ad];obtain ⟨T0,n0,bt,b4⟩:=a4.out;exact iw _ w4 _ bt (by show O+13+j*6+6<=n0;omega) i v hv
  have bh:=(h5.out.1.celo a4.out (j:=O+37) (oR (by omega))).trans a2;have cn:=(h5.out.1.blo a4.out).fz (O+37);go_wp2;go_ret;have h6:Nd (w5.setCell (jb5 N (O+37)) (J S ((j:Int)+1))) N O (aj P w.heap.size (w5.setCell (jb5 N (O+37)) (J S ((j:Int)+1))).heap.size) id s t (qs++[q]):=by
   have hj:=b0.out;have bc:=h5.out.2.2;have bd:=a3.out;have bo:=R.out.2.2;have b6:=h4.out.2.size;have b5:=h3.out.2.2.2.2.size;have a5:Wr N (O+13+qs.length*6) (O+38) w4 (w5.setCell (jb5 N (O+37)) (J S ((j:Int)+1))):=by rw[hj];exact (h5.out.1.mono (nR _) (by omega)).trans (Wr.set _ _ (by omega) (by omega))
   have a7:¬aj P w.heap.size (w5.setCell (jb5 N (O+37)) (J S ((j:Int)+1))).heap.size N:=cZ d.out.1.out bo;have a8:∀b,aj (fun b=>w.heap.size<=b/\b<V) w3.heap.size w4.heap.size b->aj P w.heap.size (w5.setCell (jb5 N (O+37)) (J S ((j:Int)+1))).heap.size b:=fun b r=>by
    have hz:(w5.setCell (jb5 N (O+37)) (J S ((j:Int)+1))).heap.size=w4.heap.size:=(by simp[bc]);rw[hz];rcases r with r|r
    ·exact oR ⟨r.1,by omega⟩
    ·exact oR ⟨by omega,r.2⟩
   refine Nd.more R.out.2.1 a6.out (fun b r=>aj.old b r) a7 (fM fun b r=> ?_) a5 ?_ ?_
   ·have:=R.out.2.1.up b r;simp[bc];omega
   ·rw[hj];have ba:=a5.blo R.out.2.1.blk;refine (h4.out.1.move (w':=w5.setCell (jb5 N (O+37)) (J S ((j:Int)+1))) (N:=N) (o':=O+13+j*6) (a5.agr fun h=>a7 (a8 _ h)) ba.lt ba.fz fun i hi=> ?_).mono a8;rw[cU (by omega)];match i,hi with
    | 0,_=>exact (h5.out.2.1 0 _ rfl).trans c0.symm
    | 1,_=>exact (h5.out.2.1 1 _ rfl).trans c1.symm
    | 2,_=>exact (h5.out.2.1 2 _ rfl).trans c2.symm
    | 3,_=>exact (h5.out.2.1 3 _ rfl).trans c3.symm
    | 4,_=>exact (h5.out.2.1 4 _ rfl).trans c4.symm
    | 5,_=>exact (h5.out.2.1 5 _ rfl).trans c5.symm
   ·show _=_;rw[World.cell?_setCell_same _ _ _ bh,hj]
  have h7:Wr N (O+13) (O+38) w (w5.setCell (jb5 N (O+37)) (J S ((j:Int)+1))):=(Wr.of R.out.1 R.out.2.2).trans ((h5.out.1.mono (by omega) (by omega)).trans (Wr.set _ _ (by omega) (by omega)));refine ⟨by rw[f.out.1];rfl,?_,h7.trans (Wr.of (gR _).drew.below h6.blk.lt)⟩;rw[f.out.2];exact h6.below (gR _).drew.below

theorem lp (q:List Cel) (A:Option ib) (cap:Nat) (w:K) (hl:q.length*40<=140737488351232) (D:av w A q) (R:A=none->cap=0) :
  T Z 36 #[I A q.length cap] w fun e w'=>∃C c,e= H (I C q.length c)/\cL w' w.heap.size (I C q.length c) q/\jb2 w w':=by
 have k:=ja1 D;have F:∀(w:K) (a:Option ib) (n c r l:Nat),(binOp .eql 33 (I a n c) (I none r l)).run Z w= .ok (.bool a.isNone) w:=fun w a n c r l=>Lib.run_eql_slice_nil w _ _ a n c r l Tryz.underlying33;cases A with
 | none =>
  have m:U (q=[]):=by
   rcases k.out with h|⟨_,_,h,_⟩
   ·exact h
   ·cases h
  go_enter Tryz.func36,Tryz.ntmps36;go_wp2;go_ret;rw[m.out];exact ⟨_,_,rfl,ae.nil _ _ _ _ _,bR _ _⟩
 | some ad =>
  go_enter Tryz.func36,Tryz.ntmps36
  have d:U (cL (w.alloc (Q #[] 91)) w.heap.size (I (jb4 w.heap.size 0) 0 0) []/\av (w.alloc (Q #[] 91)) (some ad) q/\([]:List Cel).length+q.length<=maxLen/\(([]:List Cel).length+q.length)*40<=140737488355328/\w.heap.size<=(w.alloc (Q #[] 91)).heap.size) :=
   ⟨⟨rfl,oR ⟨w.heap.size,0,#[],rfl,nR _,(MapKept.heap_alloc _ _).1,nR _,by simp,rfl,rfl⟩⟩,k.out.gr ((gR _).alloc _),by unfold maxLen;simp;omega,by simp;omega,by simp⟩
  go_wp2_with (at_builtin;refine cD _ rfl (.tmp 5) (.tmp 6) rfl w.heap.size (I (jb4 w.heap.size 0) 0 0) [] q (some ad) cap rfl rfl d.out.1 d.out.2.1 (fun h=>by cases h) d.out.2.2.1 d.out.2.2.2.1 d.out.2.2.2.2 ?_;intro v1 u g j);have f:U (cL u w.heap.size v1 q/\jb2 w u):=⟨g,((gR w).alloc _).below.trans (ae.grown_below d.out.1 j d.out.2.2.2.2)⟩;go_ret;obtain ⟨C,c,E,_⟩:=ae.row cO f.out.1;subst E;exact ⟨C,c,rfl,f.out⟩
theorem qK (q:List (Int×Int)) (A:Option ib) (cap:Nat) (w:K) (hl:q.length*16<=140737488351232) (D:Row w A q) (R:A=none->cap=0) :
  T Z 71 #[I A q.length cap] w fun e w'=>∃C c,e= H (I C q.length c)/\Own w' w.heap.size (I C q.length c) q/\jb2 w w':=by
 have k:=ja1 D;have F:∀(w:K) (a:Option ib) (n c r l:Nat),(binOp .eql 30 (I a n c) (I none r l)).run Z w= .ok (.bool a.isNone) w:=fun w a n c r l=>Lib.run_eql_slice_nil w _ _ a n c r l Tryz.underlying30;cases A with
 | none =>
  have m:U (q=[]):=by
   rcases k.out with h|⟨_,_,h,_⟩
   ·exact h
   ·cases h
  go_enter Tryz.func71,Tryz.ntmps71;go_wp2;go_ret;rw[m.out];exact ⟨_,_,rfl,Own.nil _ _,bR _ _⟩
 | some ad =>
  go_enter Tryz.func71,Tryz.ntmps71
  have d:U (Own (w.alloc (Q #[] 89)) w.heap.size (I (jb4 w.heap.size 0) 0 0) []/\Row (w.alloc (Q #[] 89)) (some ad) q/\(([]:List (Int×Int)).length+q.length)*16<=140737488355328/\w.heap.size<=(w.alloc (Q #[] 89)).heap.size) :=
   ⟨⟨rfl,oR ⟨w.heap.size,0,#[],rfl,nR _,(MapKept.heap_alloc _ _).1,nR _,by simp,rfl,rfl⟩⟩,k.out.gr ((gR _).alloc _),by simp;omega,by simp⟩
  go_wp2_with (at_builtin;refine al _ rfl (.tmp 5) (.tmp 6) rfl w.heap.size (I (jb4 w.heap.size 0) 0 0) [] q (some ad) cap rfl rfl d.out.1 d.out.2.1 (fun h=>by cases h) d.out.2.2.1 d.out.2.2.2 ?_;intro v1 u g j _);have f:U (Own u w.heap.size v1 q/\jb2 w u):=⟨g,((gR w).alloc _).below.trans (Own.grown_below d.out.1 j d.out.2.2.2)⟩;go_ret;obtain ⟨C,c,E,_⟩:=Own.row f.out.1;subst E;exact ⟨C,c,rfl,f.out⟩
theorem fH (c:Ctx) (A:Option ib) (ca:Nat) (w:K) (hl:c.l.length<=400) (hr:Row w A c.l) (hA:A=none->ca=0) :
  T Z 35 #[.agg (ja7 c A ca)] w fun e w'=>∃B cb,e= H (.agg (ja7 c B cb))/\Own w' w.heap.size (I B c.l.length cb) c.l/\jb2 w w':=by
 obtain ⟨h,g⟩:=jb0 ((w.alloc (Q (ja7 c A ca) 32)).alloc (Q #[J S 0,J S 0,J S 0,J S 0,I none 0 0] 32));have r:Gr w h:=by rw[<-g];exact ((gR w).alloc _).alloc _
 have E:h.heap.size=w.heap.size+1+1:=by rw[<-g];simp
 have s0:h.cell? (jb5 w.heap.size 0)=some (J S c.c0):=by rw[<-g];exact ab (w:=w) ((gR _).alloc _) rfl
 have s1:h.cell? (jb5 w.heap.size 1)=some (J S c.c1):=by rw[<-g];exact ab (w:=w) ((gR _).alloc _) rfl
 have s2:h.cell? (jb5 w.heap.size 2)=some (J S c.c2):=by rw[<-g];exact ab (w:=w) ((gR _).alloc _) rfl
 have s3:h.cell? (jb5 w.heap.size 3)=some (J S c.c3):=by rw[<-g];exact ab (w:=w) ((gR _).alloc _) rfl
 have s4:h.cell? (jb5 w.heap.size 4)=some (I A c.l.length ca):=by rw[<-g];exact ab (w:=w) ((gR _).alloc _) rfl
 have hC:U (∀W,Gr h W->T Z 71 #[I A c.l.length ca] W fun e w'=>∃C R,e= H (I C c.l.length R)/\Own w' W.heap.size (I C c.l.length R) c.l/\jb2 W w'):=fun W hg=>qK c.l A ca W (by omega) (hr.gr (r.trans hg)) hA;go_enter Tryz.func35,Tryz.ntmps35;go_wp2;have u:U (∀j,h.frozen? (jb5 (w.heap.size+1) j)=false):=fun j=>by rw[<-g];exact lj (w:=w) (gR _) j
 have D:U (∀j v,(#[J S 0,J S 0,J S 0,J S 0,I none 0 0]:Array Value)[j]? = some v->h.cell? (jb5 (w.heap.size+1) j)=some v):=fun j v hv=>by rw[<-g];have:=ab (w:=w.alloc (Q (ja7 c A ca) 32)) (T1:=32) (gR _) hv;simpa using this
 go_region_with (go_at_call 71;refine cM (hC.out _ (gR h).drew) ?_;rintro e F ⟨B,cb,rfl,h1,h2⟩;have d:U (Own F (w.heap.size+1+1) (I B c.l.length cb) c.l/\jb2 h F):=⟨by rw[<-E];exact h1,(gR h).drew.below.trans h2⟩;clear h1 h2;have f:w.heap.size+1<h.heap.size:=(by omega);have k:w.heap.size<h.heap.size:=(by omega);have q0:=(d.out.2.cell (p:=(jb5 w.heap.size 0)) k).trans s0;have q1:=(d.out.2.cell (p:=(jb5 w.heap.size 1)) k).trans s1;have q2:=(d.out.2.cell (p:=(jb5 w.heap.size 2)) k).trans s2;have q3:=(d.out.2.cell (p:=(jb5 w.heap.size 3)) k).trans s3;have p0:=(d.out.2.cell (p:=(jb5 (w.heap.size+1) 0)) f).trans (D.out 0 _ rfl);have p1:=(d.out.2.cell (p:=(jb5 (w.heap.size+1) 1)) f).trans (D.out 1 _ rfl);have p2:=(d.out.2.cell (p:=(jb5 (w.heap.size+1) 2)) f).trans (D.out 2 _ rfl);have p3:=(d.out.2.cell (p:=(jb5 (w.heap.size+1) 3)) f).trans (D.out 3 _ rfl);have p4:=(d.out.2.cell (p:=(jb5 (w.heap.size+1) 4)) f).trans (D.out 4 _ rfl);have z0:=(d.out.2.frozen (p:=(jb5 (w.heap.size+1) 0)) f).trans (u.out 0);have z1:=(d.out.2.frozen (p:=(jb5 (w.heap.size+1) 1)) f).trans (u.out 1);have z2:=(d.out.2.frozen (p:=(jb5 (w.heap.size+1) 2)) f).trans (u.out 2);have z3:=(d.out.2.frozen (p:=(jb5 (w.heap.size+1) 3)) f).trans (u.out 3);have z4:=(d.out.2.frozen (p:=(jb5 (w.heap.size+1) 4)) f).trans (u.out 4));all_goals
  go_wp2;have hB:jb2 w F:=r.below.trans (d.out.2.mono r.size);have n:w.heap.size+1<w.heap.size+1+1:=by omega
  have m:w.heap.size<=w.heap.size+1:=by omega
  exact bodyPost_ret (v:= .agg (ja7 c B cb)) (by simp[results,Tryz.results35,go_sem,p0,p1,p2,p3,p4]) rfl ⟨B,cb,rfl,(((((d.out.1.setCell n _).setCell n _).setCell n _).setCell n _).setCell n _).mono (by omega),((((hB.setCell m _).setCell m _).setCell m _).setCell m _).setCell m _⟩
end Go.Proofs.YtbkjgjjpnfhkhaaGreatDoor
