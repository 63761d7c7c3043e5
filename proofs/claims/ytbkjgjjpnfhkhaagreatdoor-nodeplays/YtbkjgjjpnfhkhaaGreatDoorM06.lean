import Derived.Test.YtbkjgjjpnfhkhaaGreatDoorM05
import Derived.Deep.Cut
set_option maxRecDepth 100000
set_option maxHeartbeats 8000000
open Go renaming World → H, Addr → Y, Calls → K
open Go.Ending renaming returned → U
open Go.IntKind renaming i64 → J
open Go.Obj renaming cells → V
open Go.Proofs.Tryz renaming prog → X
open Go.RowKit renaming Hid → O, Below → P
open Go.Value renaming slice → I, int → Z, tuple → Q
namespace Go.Proofs.YtbkjgjjpnfhkhaaGreatDoor
open Go.RowKit Go.Sort

theorem yr {l:List Itm} {k:Nat} (h:k<l.length):(l.map Itm.z).getD k ([],0)=l[k].z:=by rw[List.getD_eq_getElem?_getD,List.getElem?_map,List.getElem?_eq_getElem h];rfl
def okI (l:List Itm) (k:Nat):Bool:=okZ ((l.map Itm.z).getD k ([],0)) && jn (l.map Itm.z) k
theorem mh {l:List Itm} {x:Itm} (h:0<l.length) (c:l[0]=x):okI l 0=okZ x.z:=by unfold okI jn;rw[yr h,c];simp
theorem jr {l:List Itm} {m:Nat} {x y:Itm} (h:m+1<l.length) (c:l[m+1]=x) (d:l[m]=y):okI l (m+1)=(okZ x.z && decide (aw y.r x.r<0)):=by unfold okI jn;rw[yr h,Nat.add_sub_cancel,yr (show m<l.length by omega),c,d];simp[Itm.z];rfl
theorem jF {l:List Itm} {k:Nat} (c:¬ 400<l.length) (d:k<l.length) (h:okI l k=false):am (l.map Itm.z)=5:=by unfold am;rw[if_neg (by simpa using c),if_pos ⟨k,by simpa using d,h⟩]
theorem rY {l:List Itm} (c:¬ 400<l.length) (h:∀k,k<l.length->okI l k=true):am (l.map Itm.z)=0:=by unfold am;rw[if_neg (by simpa using c),if_neg];rintro ⟨k,f,d⟩;have:=h k (by simpa using f);unfold okI at this;rw[d] at this;cases this
theorem qg {a b:List Int} {A B:Option Y} {ca cb:Nat} {r:Int} (h:aw a b=r) (w:H) (c:a.length<=maxLen) (d:aq w A a) (f:aq w B b) :
  K X 143 #[I A a.length ca,I B b.length cb] w fun e w'=>e= U (Z J r)/\∃q g,w'=grow (w.drewN q) g:=by rw[<-h];exact fw a b A B ca cb w c d f

theorem gD (l:List Itm) (A:Option Y) (cap:Nat) (w:H) (hl:l.length<=maxLen) (hr:Items w A l) :
  K X 116 #[I A l.length cap] w fun e w'=>e= U (Z J (am (l.map Itm.z)))/\Gr w w':=by
 have F:Tryz.prog.follows .mixedOrders=true:=by kernel_rfl
 unfold maxLen at hl;have bt:=ja1 hr;by_cases h4:400<l.length
 ·have e:am (l.map Itm.z)=2:=by unfold am;rw[if_pos (by simpa using h4)]
  rw[e];clear e;have bp:(400:Int)<(l.length:Int):=by omega
  go_enter Tryz.func116,Tryz.ntmps116;go_wp2;go_ret;exact ⟨rfl,gR _⟩
 ·have bp:¬(400:Int)<(l.length:Int):=by omega
  go_enter Tryz.func116,Tryz.ntmps116;go_wp2;go_loopw [10] (fun i wr=>∃k:Nat,k<=l.length/\i= Z J k/\O (∀j,j<k->okI l j=true)/\Gr w wr) (fun i _=>l.length-(intOf i).toNat);exact ⟨0,by omega,rfl,fun j h=>by omega,gR _⟩;rename H=>d;obtain ⟨k,hk,rfl,ad,a4⟩:=hrel;by_cases g:k<l.length
  ·have bd:(k:Int)<(l.length:Int):=(by omega);have an:=ja1 (bt.out.gr a4);obtain ⟨b,bC,rfl,hb,bb⟩:=an.out.at g;obtain ⟨x,hx⟩:=jb0 (l[k]);obtain ⟨e0,e1⟩:=bb k g;rw[hx] at e0 e1;have bc:=ja1 bb;have ao:=ja1 hx;have a6:O (aq d x.p x.r/\x.r.length<=maxLen):=⟨(an.out.each x (by rw[<-hx];exact gM g)).1,(an.out.each x (by rw[<-hx];exact gM g)).2.1⟩;have a3:Gr d (d.alloc (V #[I x.p x.r.length x.c,Z J x.n] 101)):=(gR _).alloc _;have x0:jb1 (d.alloc (V #[I x.p x.r.length x.c,Z J x.n] 101)) d.heap.size 0 (I x.p x.r.length x.c):=ab (gR _) rfl;have x1:jb1 (d.alloc (V #[I x.p x.r.length x.c,Z J x.n] 101)) d.heap.size 1 (Z J x.n):=ab (gR _) rfl;have bl:=ny x.r x.p x.c (d.alloc (V #[I x.p x.r.length x.c,Z J x.n] 101)) a6.out.2 (a6.out.1.gr a3);have a5:O _:=bl;go_wp2_with fail;refine ja0 a5 ?_;rintro e w2 ⟨rfl,aL⟩;have u:Gr w w2:=(a4.trans a3).trans aL;have x0:jb1 w2 d.heap.size 0 (I x.p x.r.length x.c):=ab aL rfl;have x1:jb1 w2 d.heap.size 1 (Z J x.n):=ab aL rfl;have E:O (okZ x.z=false->am (l.map Itm.z)=5):=fun h=>by
    refine jF h4 g ?_;cases k with
    | zero=>rw[mh g ao.out,h]
    | succ m=>rw[jr g ao.out rfl,h];rfl
   cases bh:okR x.r
   ·have f:O (am (l.map Itm.z)=5):=E.out (by simp[okZ,Itm.z,bh]);go_wp2;go_ret;exact ⟨by rw[f.out];rfl,u⟩
   ·have a1:=gL x.n w2;cases a0:okW x.n
    ·have f:O (am (l.map Itm.z)=5):=E.out (by simp[okZ,Itm.z,a0]);rw[a0] at a1;have C:O _:=a1;go_wp2_with (go_at_call 142;(refine ja0 C ?_);rintro e w' ⟨rfl,rfl⟩);go_ret;exact ⟨by rw[f.out];rfl,u⟩
    ·rw[a0] at a1;have C:O _:=a1;cases be:(x.n==0)
     ·have a2:O (okZ x.z=true):=(by have:x.n≠0:=(by simpa using be);simp[okZ,Itm.z,bh,a0,this,O]);cases k with
      | zero =>
       have ak:O (okI l 0=true):=(by show okI l 0=true;rw[mh g ao.out];exact a2.out);go_wp2_with (first|(go_at_call 142;(refine ja0 C ?_);rintro e w' ⟨rfl,rfl⟩)|fail);refine wp_region_quiet_grown F (by kernel_rfl) ?_;repeat (go_big_quiet_step (fail))
       refine wpQuiet_nil ?_;rintro _ ⟨⟨ap,D⟩,rfl⟩;go_wp2;go_roundw;case rel =>
        refine ⟨_,g,by go_num,?_,u.trans ⟨ap,D,rfl⟩⟩;intro j hj;by_cases e:j=0
        ·rw[e];exact ak.out
        ·exact ad j (by omega)
       case measure=>simp[intOf];omega
      | succ m =>
       obtain ⟨y,hy⟩:=jb0 (l[m]);obtain ⟨f0,f1⟩:=bc.out m (by omega);rw[hy] at f0 f1;have bo:=ja1 hy;have a7:O (aq d y.p y.r/\y.r.length<=maxLen):=⟨(an.out.each y (by rw[<-hy];exact gM (by omega))).1,(an.out.each y (by rw[<-hy];exact gM (by omega))).2.1⟩;have ah:Gr d w2:=a3.trans aL;have q0:=ah.cellG (a:=(jb5 b (bC+m*2))) hb f0;have bG:d.heap.size<w2.heap.size:=World.block_lt_of_cell? w2 (jb5 d.heap.size 0) x0;have p0:=(gR w2).cellG (a:=(jb5 d.heap.size 0)) bG x0;have a9:O (∀n os,aq (grow (w2.drewN n) os) y.p y.r):=fun n os=>a7.out.1.gr (ah.trans ⟨n,os,rfl⟩);have a8:O (∀n os,aq (grow (w2.drewN n) os) x.p x.r):=fun n os=>a6.out.1.gr (ah.trans ⟨n,os,rfl⟩);obtain ⟨r,bv⟩:=jb0 (aw y.r x.r);have R:=ja1 bv;by_cases ba:r<0
       ·have bs:¬(0:Int)<=r:=(by omega);have ak:O (okI l (m+1)=true):=by show okI l (m+1)=true;rw[jr g ao.out bo.out,a2.out,R.out];simp[ba]
        go_wp2_with (first|(go_at_call 142;(refine ja0 C ?_);rintro e w' ⟨rfl,rfl⟩)|fail);refine wp_region_quiet_grown F (by kernel_rfl) ?_;repeat (go_big_quiet_step ((go_at_call 143;refine Calls.grown_of (qg R.out _ a7.out.2 (a9.out _ _) (a8.out _ _)))))
        refine wpQuiet_nil ?_;rintro _ ⟨⟨ap,D⟩,rfl⟩;go_wp2;go_roundw;case rel =>
         refine ⟨_,g,by go_num,?_,u.trans ⟨ap,D,rfl⟩⟩;intro j hj;by_cases e:j=m+1
         ·rw[e];exact ak.out
         ·exact ad j (by omega)
        case measure=>simp[intOf];omega
       ·have bs:(0:Int)<=r:=(by omega);have f:O (am (l.map Itm.z)=5):=jF h4 g (by rw[jr g ao.out bo.out,R.out];simp[ba]);go_wp2_with (first|(go_at_call 142;(refine ja0 C ?_);rintro e w' ⟨rfl,rfl⟩)|fail);refine wp_region_quiet_grown F (by kernel_rfl) ?_;repeat (go_big_quiet_step ((go_at_call 143;refine Calls.grown_of (qg R.out _ a7.out.2 (a9.out _ _) (a8.out _ _)))))
        refine wpQuiet_nil ?_;rintro _ ⟨⟨ap,D⟩,rfl⟩;go_wp2;go_ret;exact ⟨by rw[f.out];rfl,u.trans ⟨ap,D,rfl⟩⟩
     ·have f:O (am (l.map Itm.z)=5):=E.out (by have:x.n=0:=(by simpa using be);simp[okZ,Itm.z,this]);go_wp2_with (go_at_call 142;(refine ja0 C ?_);rintro e w' ⟨rfl,rfl⟩);go_ret;exact ⟨by rw[f.out];rfl,u⟩
  ·have bd:¬(k:Int)<(l.length:Int):=(by omega);have f:O (am (l.map Itm.z)=0):=rY h4 fun j hj=>ad j (by omega);go_wp2;go_ret;exact ⟨by rw[f.out];rfl,a4⟩


theorem kj (l:List Int) (A:Option Y) (cap:Nat) (w:H) (hl:l.length*8<=140737488355328) (R:A=none->cap=0) (hr:aq w A l) :
  K X 117 #[I A l.length cap] w fun e w'=>∃C c,e= U (I C l.length c)/\aq w' C l/\(C=none->c=0)/\(∀a,C=some a->w.heap.size<=a.block/\a.block<w'.heap.size)/\jb2 w w'/\(fa w' C c/\l.length<=c):=by
 have k:O (0+l.length<=maxLen/\(0+l.length)*8<=140737488355328):=by show _/\_;unfold maxLen;omega
 have m:=ja2 hr R;go_enter Tryz.func117,Tryz.ntmps117;go_wp2_with (at_builtin;refine aH _ rfl _ _ rfl w.heap.size (I none 0 0) [] l A cap rfl rfl (ae.nil _ _ _ _ _) m.out.1 m.out.2 k.out.1 k.out.2 (nR _) ?_);intro v1 r f j;have u:=ja1 (bB j);obtain ⟨C,c,rfl,hC,n,D,g,_⟩:=ae.full bI f;have E:∀a,C=some a->w.heap.size<=a.block/\a.block<r.heap.size:=fun a F=>⟨(g a F).1,(g a F).2.1⟩;have h:O (fa r C c/\l.length<=c):=⟨f.roomI,by simpa using D⟩;have d:O (aq r C l/\(C=none->c=0)/\(∀a,C=some a->w.heap.size<=a.block/\a.block<r.heap.size)):=⟨by simpa using n,hC,E⟩;go_wp2;go_ret;exact ⟨C,c,by simp,d.out.1,d.out.2.1,d.out.2.2,u.out,h.out⟩


theorem lG {l:List Zit} (h:am l=0):l.length<=400/\∀k,k<l.length->okZ (l.getD k ([],0))=true/\jn l k=true:=by
 unfold am at h;by_cases c:400<l.length
 ·rw[if_pos c] at h;cases h
 ·rw[if_neg c] at h;refine ⟨by omega,fun k f=> ?_⟩;by_cases d:∃k,k<l.length/\(okZ (l.getD k ([],0)) && jn l k)=false
  ·rw[if_pos d] at h;cases h
  ·have:(okZ (l.getD k ([],0)) && jn l k)=true:=by
    cases e:(okZ (l.getD k ([],0)) && jn l k)
    ·exact absurd ⟨k,f,e⟩ d
    ·rfl
   simpa using this
theorem sW {l:List Itm} (h:am (l.map Itm.z)=0) {k:Nat} (c:k<l.length):l[k].r.length<=8/\okW l[k].n=true/\l[k].n≠0:=by have:=((lG h).2 k (by simpa using c)).1;rw[yr c] at this;unfold okZ okR Itm.z at this;simp at this;exact ⟨this.1.1.1,this.1.2,this.2⟩
def i7 (l:List Zit):List Zit:=if am l=0 then l.map (fun x=>(x.1,-x.2)) else []

theorem bV {W:H} {n:Nat} (g:W.heap.size=n) (x:Itm) (T:TypeId):aC aE 2 (W.alloc (V #[I x.p x.r.length x.c,Z J x.n] T)) (jb4 n 0) [x]:=by
 subst g;refine oR ⟨W.heap.size,0,rfl,by simp,fun j f i hi=> ?_⟩;obtain rfl:j=0:=by simp at f;omega
 have d:i=0\/i=1:=by omega
 rcases d with rfl|rfl
 ·exact ab (w:=W) (gR _) (j:=0) rfl
 ·exact ab (w:=W) (gR _) (j:=1) rfl

theorem fb.snoc {w w':H} {L:List Itm} {x:Itm} (h:fb w L) (q:jb2 w w') (f:fa w' x.p x.c/\x.r.length<=x.c):fb w' (L++[x]):=fun z d=>by
 rcases List.mem_append.1 d with d|d
 ·exact (h.below q) z d
 ·rw[List.mem_singleton.1 d];exact f
theorem yH (l:List Itm) (A:Option Y) (cap:Nat) (w:H) (hl:l.length<=maxLen) (hr:Items w A l) :
  K X 92 #[I A l.length cap] w fun e w'=>∃(L:List Itm) (C:Option Y) (c:Nat),e= U (Q #[I C L.length c,Z J (am (l.map Itm.z))])/\L.map Itm.z=i7 (l.map Itm.z)/\Items w' C L/\dC C L.length c/\jb2 w w'/\NwT w' c w.heap.size C L:=by
 have cd:=gD l A cap w hl hr;unfold maxLen at hl;have cn:=ja1 hr;have bo:O _:=cd;go_enter Tryz.func92,Tryz.ntmps92;go_wp2_with fail;refine ja0 bo ?_;rintro e F ⟨rfl,ad⟩;obtain ⟨E,hE⟩:=jb0 (am (l.map Itm.z));have a7:=ja1 hE;rw[hE];clear hE;cases hq:(E != 0)
 ·have bc:E=0:=by simpa using hq
  have a2:O (am (l.map Itm.z)=0):=by show _=_;rw[a7.out,bc]
  subst bc;go_wp2;go_loopw [5,15] (fun v i wr=>∃(k:Nat) (L:List Itm),k<=l.length/\i= Z J k/\O (L.length=k)/\O (L.map Itm.z=(l.take k).map (fun x=>(x.r,-x.n)))/\OwnT wr F.heap.size v L/\jb2 F wr/\O (fb wr L)) (fun _ i _=>l.length-(intOf i).toNat);exact ⟨0,[],by omega,rfl,rfl,by simp[O],OwnT.nil _ _,bR _ _,fun x hx=>by cases hx⟩;obtain ⟨k,L,hk,rfl,a8,bd,a3,an,b4⟩:=hrel;have D:=ja2 a3 an;by_cases m:k<l.length
  ·have bv:(k:Int)<(l.length:Int):=(by omega);have hI:=ja1 ((cn.out.gr ad).below an);obtain ⟨bb,cu,rfl,hb,cf⟩:=hI.out.at m;obtain ⟨x,hx⟩:=jb0 (l[k]);obtain ⟨e0,e1⟩:=cf k m;rw[hx] at e0 e1;have b9:=hI.out.each x (by rw[<-hx];exact gM m);have a4:=sW a2.out m;rw[hx] at a4;have a5:=ja4 b9.1 b9.2.2 a4.1 a4.2.1;have cr:O ((l.take (k+1)).map (fun x=>(x.r,-x.n))=(l.take k).map (fun x=>(x.r,-x.n))++[(x.r,-x.n)]):=by show _=_;rw[List.take_succ_eq_append_getElem m,hx];simp
   have cs:IntKind.i64.wrap (-x.n)= -x.n:=(by have h:=a4.2.1;simp only[okW,inB,Bool.and_eq_true,decide_eq_true_eq] at h;rw[IntKind.wrap_i64];omega);have bt:O (l.length<=400):=by show _<=_;have:=(lG a2.out).1;simpa using this
   have ah:O (Gr wr (wr.alloc (V #[I x.p x.r.length x.c,Z J x.n] 101))):=(gR _).alloc _;have x0:jb1 (wr.alloc (V #[I x.p x.r.length x.c,Z J x.n] 101)) wr.heap.size 0 (I x.p x.r.length x.c):=ab (gR _) rfl;have x1:jb1 (wr.alloc (V #[I x.p x.r.length x.c,Z J x.n] 101)) wr.heap.size 1 (Z J x.n):=ab (gR _) rfl;have bp:=kj x.r x.p x.c (wr.alloc (V #[I x.p x.r.length x.c,Z J x.n] 101)).drew (by have:=a5.out.2.2.1;omega) a5.out.2.1 ((a5.out.1.gr ah.out).gr (gR _).drew);have ce:O _:=bp;go_upto_region 8 with fail;have f:O (∀w':H,P (wr.alloc (V #[I x.p x.r.length x.c,Z J x.n] 101)).heap.size (wr.alloc (V #[I x.p x.r.length x.c,Z J x.n] 101)) w'->(fun w'=>jb1 w' wr.heap.size 0 (I x.p x.r.length x.c)/\jb1 w' wr.heap.size 1 (Z J x.n)) w'):=fun w' hb=>⟨(hb.cell (p:=(jb5 wr.heap.size 0)) (by simp)).trans x0,(hb.cell (p:=(jb5 wr.heap.size 1)) (by simp)).trans x1⟩;have a9:P (wr.alloc (V #[I x.p x.r.length x.c,Z J x.n] 101)).heap.size (wr.alloc (V #[I x.p x.r.length x.c,Z J x.n] 101)) (wr.alloc (V #[I x.p x.r.length x.c,Z J x.n] 101)).drew:=(bR _ _).drew;have a1:O (F.heap.size<=wr.heap.size/\(wr.alloc (V #[I x.p x.r.length x.c,Z J x.n] 101)).heap.size=wr.heap.size+1):=⟨D.out.2.size,by simp⟩;have cp:(wr.alloc (V #[I x.p x.r.length x.c,Z J x.n] 101)).drew.heap.size=wr.heap.size+1:=by simp[World.drew]
   have b2:O (∀j,u5.ownBlock=some j->j<wr.heap.size):=fun j hj=>(World.ownsRow.lt D.out.1.own j hj).2;have bG:O (∀(d:H) (C:Option Y) (c:Nat),P (wr.alloc (V #[I x.p x.r.length x.c,Z J x.n] 101)).heap.size (wr.alloc (V #[I x.p x.r.length x.c,Z J x.n] 101)) d->(aq d C x.r/\(C=none->c=0)/\(∀a,C=some a->wr.heap.size+1<=a.block/\a.block<d.heap.size))->OwnT (d.alloc (V #[I C x.r.length c,Z J (-x.n)] 101)) F.heap.size u5 L/\Apart (d.alloc (V #[I C x.r.length c,Z J (-x.n)] 101)) F.heap.size u5.ownBlock ⟨C,c,x.r,-x.n⟩/\(L.length+1<=maxLen/\(L.length+1)*32<=140737488355328)/\F.heap.size<=(d.alloc (V #[I C x.r.length c,Z J (-x.n)] 101)).heap.size):=by
    intro d C c g hC;have bh:jb2 wr (d.alloc (V #[I C x.r.length c,Z J (-x.n)] 101)):=ah.out.below.trans ((g.alloc g.size _).mono ah.out.size);refine ⟨D.out.1.below bh,⟨hC.1.gr ((gR _).alloc _),nT a5.out.2.2.1 (by decide),hC.2.1,fun a ha=>⟨?_,?_,?_⟩⟩,⟨?_,?_⟩,nT a1.out.1 bh.size⟩
    ·have h1:=(hC.2.2 a ha).1;have h2:=a1.out.1;omega
    ·have h1:=(hC.2.2 a ha).2;simp;omega
    ·intro e;have h1:=b2.out a.block e;have h2:=(hC.2.2 a ha).1;omega
    ·have h1:=a8.out;have h2:=bt.out;unfold maxLen;omega
    ·have h1:=a8.out;have h2:=bt.out;omega
   have bC:O (∀(d:H) (C:Option Y) (c:Nat) (w3:H),P (wr.alloc (V #[I x.p x.r.length x.c,Z J x.n] 101)).heap.size (wr.alloc (V #[I x.p x.r.length x.c,Z J x.n] 101)) (d.alloc (V #[I C x.r.length c,Z J (-x.n)] 101))->(d.alloc (V #[I C x.r.length c,Z J (-x.n)] 101)).grownBy w3 u5.ownBlock->jb1 w3 wr.heap.size 0 (I x.p x.r.length x.c)/\jb1 w3 wr.heap.size 1 (Z J x.n)):=by
    intro d C c w3 R bs;have m:wr.heap.size<(d.alloc (V #[I C x.r.length c,Z J (-x.n)] 101)).heap.size:=nL (by simp) R.size;have bN:some wr.heap.size≠u5.ownBlock:=fun e=>by have:=b2.out _ e.symm;omega
    have hk:=f.out _ R;exact ⟨(World.cell?_of_block (a:=(jb5 wr.heap.size 0)) (bs.block _ m bN)).trans hk.1,(World.cell?_of_block (a:=(jb5 wr.heap.size 1)) (bs.block _ m bN)).trans hk.2⟩
   go_region_held3 (fun w'=>jb1 w' wr.heap.size 0 (I x.p x.r.length x.c)/\jb1 w' wr.heap.size 1 (Z J x.n)) ((first|with_reducible exact f.out _ a9|with_reducible exact f.out _ g.out|with_reducible exact f.out _ R.out|with_reducible exact ck.out)) (first
    | (go_at_call 117;(refine ja0 ce ?_);rintro e d ⟨C,c,rfl,b7,b0,ba,bl,b3⟩;have g:O (P (wr.alloc (V #[I x.p x.r.length x.c,Z J x.n] 101)).heap.size (wr.alloc (V #[I x.p x.r.length x.c,Z J x.n] 101)) d):=a9.trans (bl.mono a9.size);have R:O (P (wr.alloc (V #[I x.p x.r.length x.c,Z J x.n] 101)).heap.size (wr.alloc (V #[I x.p x.r.length x.c,Z J x.n] 101)) (d.alloc (V #[I C x.r.length c,Z J (-x.n)] 101))):=g.out.alloc g.out.size _;have b6:O (fb d (L++[⟨C,c,x.r,-x.n⟩])):=(b4.out.below ah.out.below).snoc g.out b3;clear b3;have hC:O (aq d C x.r/\(C=none->c=0)/\(∀a,C=some a->wr.heap.size+1<=a.block/\a.block<d.heap.size)):=⟨b7,b0,fun a ha=>⟨nT (Nat.le_of_eq cp.symm) (ba a ha).1,(ba a ha).2⟩⟩;have ak:O (OwnT (d.alloc (V #[I C x.r.length c,Z J (-x.n)] 101)) F.heap.size u5 L/\Apart (d.alloc (V #[I C x.r.length c,Z J (-x.n)] 101)) F.heap.size u5.ownBlock ⟨C,c,x.r,-x.n⟩/\(L.length+1<=maxLen/\(L.length+1)*32<=140737488355328)/\F.heap.size<=(d.alloc (V #[I C x.r.length c,Z J (-x.n)] 101)).heap.size):=bG.out d C c g.out hC.out;clear b7 b0 ba bl)
    | (refine fZ _ rfl (.tmp 19) (.tmp 27) rfl F.heap.size u5 L ⟨C,c,x.r,-x.n⟩ (jb5 d.heap.size 0) 1 rfl rfl ak.out.1 (bV rfl ⟨C,c,x.r,-x.n⟩ 101) ak.out.2.1 ak.out.2.2.1.1 ak.out.2.2.1.2 ak.out.2.2.2 ?_;intro v2 w3 aL be ap;have ck:O (jb1 w3 wr.heap.size 0 (I x.p x.r.length x.c)/\jb1 w3 wr.heap.size 1 (Z J x.n)):=bC.out d C c w3 R.out ap;have a0:O (OwnT w3 F.heap.size v2 (L++[⟨C,c,x.r,-x.n⟩])/\jb2 F w3):=⟨aL,D.out.2.trans ((ah.out.below.trans (R.out.mono ah.out.size)).mono a1.out.1 |>.trans be)⟩;have b5:O (fb w3 (L++[⟨C,c,x.r,-x.n⟩])):=(b6.out.below ((gR d).alloc _).below).grown ap (ak.out.1.own.typed (by decide));clear aL be ap))
   all_goals
    go_wp2;go_roundw;case rel =>
     refine ⟨k+1,L++[⟨C,c,x.r,-x.n⟩],by omega,by go_num,?_,?_,a0.out.1,a0.out.2,b5⟩
     ·show _=_;simp[a8.out]
     ·show _=_;rw[cr.out,List.map_append,bd.out];rfl
    case measure=>simp[intOf];omega
  ·have bv:¬(k:Int)<(l.length:Int):=(by omega);have cl:l.take k=l:=List.take_of_length_le (by omega);have ao:O (L.map Itm.z=i7 (l.map Itm.z)):=by show _=_;unfold i7;rw[bd.out,cl,if_pos a2.out,List.map_map];rfl
   obtain ⟨A2,a6,b8,cm,cj,b1⟩:=a3.items;have cc:O (NwT wr a6 w.heap.size A2 L):=⟨⟨fun a ha=>nT ad.size (b1 a ha).1,fun x hx a ha=>nT ad.size ((a3.each x hx).own a ha).1⟩,by have:=a3.own;rw[b8] at this;exact this.roomA,b4.out⟩;have u:=ja3 cj cm (ad.below.trans (an.mono ad.size));subst b8;go_wp2;go_ret2;exact ⟨L,A2,a6,by rw[a2.out];rfl,ao.out,u.out.1,u.out.2.1,u.out.2.2,cc.out⟩
 ·have ao:O (i7 (l.map Itm.z)=[]):=by have:E≠0:=(by simpa using hq);show _=_;unfold i7;rw[a7.out,if_neg this]
  go_wp2;go_ret2;exact ⟨[],none,0,by rw[a7.out];rfl,by rw[ao.out];rfl,⟨oL rfl,fun x hx=>by cases hx⟩,fun _=>rfl,ad.below,NwT.none _ _⟩

theorem yG (l:List Itm) (A:Option Y) (cap:Nat) (w:H) (k:l.length<=maxLen) (m:Items w A l) :
  K X 92 #[I A l.length cap] w fun e w'=>∃(L:List Itm) (C:Option Y) (c:Nat),e= U (Q #[I C L.length c,Z J (am (l.map Itm.z))])/\L.map Itm.z=i7 (l.map Itm.z)/\Items w' C L/\dC C L.length c/\jb2 w w' :=
 (yH l A cap w k m).mono fun _ _ ⟨L,C,c,d,f,g,h,j,_⟩=>⟨L,C,c,d,f,g,h,j⟩

end Go.Proofs.YtbkjgjjpnfhkhaaGreatDoor

namespace Go.Proofs.YtbkjgjjpnfhkhaaGreatDoor

def gK (x:Zit):List Zit->List Zit
 | []=>if x.2=0 then [] else [x]
 | y::t=>if aw x.1 y.1<0 then (if x.2=0 then y::t else x::y::t) else if aw x.1 y.1=0 then (if x.2+y.2=0 then t else (y.1,x.2+y.2)::t) else y::gK x t
def bQ:List Zit->List Zit
 | []=>[]
 | x::t=>gK x (bQ t)
theorem pO {x:Zit}:∀ {S:List Zit} {z:Zit},z∈gK x S->z.1=x.1\/∃y∈S,z.1=y.1
 | [],z,h=>by
  unfold gK at h;by_cases e:x.2=0
  ·rw[if_pos e] at h;cases h
  ·rw[if_neg e] at h;exact oL (by rw[List.mem_singleton.1 h])
 | y::t,z,h=>by
  unfold gK at h;by_cases c:aw x.1 y.1<0
  ·rw[if_pos c] at h;by_cases e:x.2=0
   ·rw[if_pos e] at h;exact oR ⟨z,h,rfl⟩
   ·rw[if_neg e] at h;rcases List.mem_cons.1 h with k|k
    ·exact oL (by rw[k])
    ·exact oR ⟨z,k,rfl⟩
  ·rw[if_neg c] at h;by_cases d:aw x.1 y.1=0
   ·rw[if_pos d] at h;by_cases e:x.2+y.2=0
    ·rw[if_pos e] at h;exact oR ⟨z,mC _ h,rfl⟩
    ·rw[if_neg e] at h;rcases List.mem_cons.1 h with k|k
     ·exact oR ⟨y,mS ..,by rw[k]⟩
     ·exact oR ⟨z,mC _ k,rfl⟩
   ·rw[if_neg d] at h;rcases List.mem_cons.1 h with k|k
    ·exact oR ⟨y,mS ..,by rw[k]⟩
    ·rcases pO k with k|⟨u,hu,k⟩
     ·exact oL k
     ·exact oR ⟨u,mC _ hu,k⟩
theorem nx {x:Zit}:∀ {S:List Zit},ew S->ew (gK x S)
 | [],_=>by
  unfold gK;by_cases e:x.2=0
  ·rw[if_pos e];exact List.Pairwise.nil
  ·rw[if_neg e];exact List.pairwise_singleton _ _
 | y::t,h=>by
  have c:=List.pairwise_cons.1 h;unfold gK;by_cases f:aw x.1 y.1<0
  ·rw[if_pos f];by_cases e:x.2=0
   ·rw[if_pos e];exact h
   ·rw[if_neg e];refine List.pairwise_cons.2 ⟨fun z d=> ?_,h⟩;rcases List.mem_cons.1 d with k|k
    ·rw[k];exact f
    ·exact cH f (c.1 z k)
  ·rw[if_neg f];by_cases g:aw x.1 y.1=0
   ·rw[if_pos g];by_cases e:x.2+y.2=0
    ·rw[if_pos e];exact c.2
    ·rw[if_neg e];exact List.pairwise_cons.2 ⟨fun z d=>c.1 z d,c.2⟩
   ·rw[if_neg g];refine List.pairwise_cons.2 ⟨fun z d=> ?_,nx c.2⟩;rcases pO d with k|⟨u,hu,k⟩
    ·rw[k];have:=cR x.1 y.1;omega
    ·rw[k];exact c.1 u hu
theorem pP {x:Zit}:∀ {S:List Zit},NoZ S->NoZ (gK x S)
 | [],_=>by
  unfold gK;by_cases e:x.2=0
  ·rw[if_pos e];exact fun z c=>absurd c (by simp)
  ·rw[if_neg e];intro z c;rw[List.mem_singleton.1 c];exact e
 | y::t,h=>by
  have d:NoZ t:=fun z c=>h z (mC _ c);unfold gK;by_cases f:aw x.1 y.1<0
  ·rw[if_pos f];by_cases e:x.2=0
   ·rw[if_pos e];exact h
   ·rw[if_neg e];intro z c;rcases List.mem_cons.1 c with k|k
    ·rw[k];exact e
    ·exact h z k
  ·rw[if_neg f];by_cases g:aw x.1 y.1=0
   ·rw[if_pos g];by_cases e:x.2+y.2=0
    ·rw[if_pos e];exact d
    ·rw[if_neg e];intro z c;rcases List.mem_cons.1 c with k|k
     ·rw[k];exact e
     ·exact d z k
   ·rw[if_neg g];intro z c;rcases List.mem_cons.1 c with k|k
    ·rw[k];exact h y (mS ..)
    ·exact pP d z k
theorem sa {x:Zit} (r:List Int):∀ {S:List Zit},wt (gK x S) r=(if x.1=r then x.2 else 0)+wt S r
 | []=>by
  unfold gK;by_cases e:x.2=0
  ·rw[if_pos e,e];simp[wt]
  ·rw[if_neg e];simp only[wt]
 | y::t=>by
  unfold gK;by_cases f:aw x.1 y.1<0
  ·rw[if_pos f];by_cases e:x.2=0
   ·rw[if_pos e,e];simp
   ·rw[if_neg e];simp only[wt]
  ·rw[if_neg f];by_cases c:aw x.1 y.1=0
   ·rw[if_pos c];have d:=iC _ _ c;by_cases e:x.2+y.2=0
    ·rw[if_pos e];simp only[wt];rw[d];by_cases k:y.1=r
     ·rw[if_pos k,if_pos k];omega
     ·rw[if_neg k,if_neg k];omega
    ·rw[if_neg e];simp only[wt];rw[d];by_cases k:y.1=r
     ·rw[if_pos k,if_pos k,if_pos k];omega
     ·rw[if_neg k,if_neg k,if_neg k];omega
   ·rw[if_neg c];simp only[wt];rw[sa r];omega
theorem bk:∀l:List Zit,IsTot l (bQ l)
 | []=>⟨List.Pairwise.nil,fun z c=>absurd c (by simp[bQ]),fun r=>rfl⟩
 | x::t=>by have h:=bk t;exact ⟨nx h.rise,pP h.noz,fun r=>by show wt (gK x (bQ t)) r=wt (x::t) r;rw[sa,h.same];rfl⟩
theorem IsTot.eq {l S:List Zit} (h:IsTot l S):S=bQ l:=h.uniq (bk l) fun _=>rfl
def da (l:List Zit):Int:=if (bQ l).all (fun x=>okW x.2) then 0 else 5
def mD (l:List Zit):List Zit:=if da l=0 then bQ l else []
theorem xF {l:List Zit} (h:da l=5):mD l=[]:=by unfold mD;rw[h];rfl
theorem sC {l:List Zit} (h:da l=0):mD l=bQ l:=by unfold mD;rw[if_pos h]
theorem mB (l:List Zit):da l=5↔og l:=by
 unfold da;constructor
 ·intro h;by_cases e:(bQ l).all (fun x=>okW x.2)=true
  ·rw[if_pos e] at h;cases h
  ·simp only[List.all_eq_true,Classical.not_forall] at e;obtain ⟨x,d,g⟩:=e;exact ⟨x.1,by rw[<-(bk l).same,(bk l).rise.wt d];simpa using g⟩
 ·rintro ⟨r,c⟩;rw[if_neg];intro h;have f:wt l r≠0:=fun e=>by rw[e] at c;exact absurd c (by decide)
  rw[<-(bk l).same] at f c;obtain ⟨x,d,rfl⟩:=kZ f;rw[(bk l).rise.wt d] at c;have:=List.all_eq_true.1 h x d;rw[c] at this;cases this
theorem zg {l:List Zit} (h:¬og l):da l=0:=by
 by_cases e:da l=5
 ·exact absurd ((mB l).1 e) h
 ·unfold da at e ⊢;by_cases k:(bQ l).all (fun x=>okW x.2)=true
  ·rw[if_pos k]
  ·rw[if_neg k] at e;exact absurd rfl e
theorem oc {l:List Zit} (h:da l=0):¬og l:=fun k=>by rw[(mB l).2 k] at h;cases h
def bS (l:List Zit):Int:=if 400<l.length then 2 else if l.all (fun x=>okR x.1 && okW x.2) then da l else 5
def cY (l:List Zit):List Zit:=if bS l=0 then bQ l else []
def bi (a b:List Zit):Int:=if am a=0 then (if am b=0 then (if da (a++b)=0 then (if 400<(bQ (a++b)).length then 2 else 0) else da (a++b)) else am b) else am a
def aZ (a b:List Zit):List Zit:=if bi a b=0 then bQ (a++b) else []
theorem fl {l m:List Zit} (h:∀r,wt l r=wt m r):bQ l=bQ m:=(bk l).uniq (bk m) h
theorem ur {l m:List Zit} (h:∀r,wt l r=wt m r):da l=da m:=by unfold da;rw[fl h]

end Go.Proofs.YtbkjgjjpnfhkhaaGreatDoor

namespace Go.Proofs.YtbkjgjjpnfhkhaaGreatDoor
open Go.RowKit Go.Sort

theorem gt {S:List Itm} {k:Nat} (h:k<S.length):(S.map Itm.z)[k]'(by simpa using h)=S[k].z:=by simp

theorem od (ss:List Sl) (B:Option Y) (cb:Nat) (w:H) (cz:aC dW 1 w B ss) (bG:ss.length<=2)
  (a1:∀s∈ss,Items w s.A s.l/\(s.A=none->s.cap=0)/\s.l.length<=400/\∀x∈s.l,okW x.n=true/\x.r.length<=8) :
  K X 129 #[I B ss.length cb] w fun e w'=>∃(L:List Itm) (C:Option Y) (c:Nat),e= U (Q #[I C L.length c,Z J (da ((ss.flatMap (·.l)).map Itm.z))])/\L.map Itm.z=mD ((ss.flatMap (·.l)).map Itm.z)/\Items w' C L/\dC C L.length c/\jb2 w w'/\NwT w' c w.heap.size C L:=by
 have cc:=qN ss B cb w cz bG (fun s hs=>⟨(a1 s hs).1.row,(a1 s hs).2.1,(a1 s hs).2.2.1⟩);have a3:O _:=cc;have ah:O (∀x∈ss.flatMap (·.l),aq w x.p x.r/\x.r.length<=maxLen/\(x.p=none->x.c=0)/\okW x.n=true/\x.r.length<=8):=fun x F=>by obtain ⟨s,hs,F⟩:=List.mem_flatMap.1 F;have h:=(a1 s hs).1.each x F;exact ⟨h.1,h.2.1,h.2.2,(a1 s hs).2.2.2 x F⟩
 have an:O ((ss.flatMap (·.l)).length<=800):=pC bG fun s hs=>(a1 s hs).2.2.1;obtain ⟨all,b7⟩:=jb0 (ss.flatMap (·.l));rw[b7] at a3 ah an ⊢;go_enter Tryz.func129,Tryz.ntmps129;go_wp2_with fail;refine ja0 a3 ?_;rintro e w1 ⟨v,rfl,cs,bN⟩;have dg:=xu 155 (enters_of Tryz.func155 (by kernel_rfl) rfl) uQ w.heap.size v all w1 cs bN.size (fun x F=>by have h:=ah.out x F;exact ⟨h.1.below bN,h.2.1,h.2.2.1,fun a ha hr=>h.1.lt a ha hr⟩) (by have:=an.out;omega)
 have c1:O _:=dg;go_wp2_with fail;refine ja0 c1 ?_;rintro e w2 ⟨rfl,⟨S,A,cap,hv,a0,b4,be,hA⟩,c8⟩;subst hv;have f:O (Items w2 A S/\(A=none->cap=0)/\S.Perm all/\dF (S.map Itm.z)/\(∀x∈S.map Itm.z,okW x.2=true/\x.1.length<=8)/\jb2 w w2):=⟨be,hA,a0,b4,fun x F=>by obtain ⟨y,hy,rfl⟩:=List.mem_map.1 F;exact (ah.out y (a0.mem_iff.1 hy)).2.2.2,bN.trans c8⟩
 have dv:S.length<=800:=by rw[a0.length_eq];exact an.out
 go_wp2;go_loopw [5,6] (fun v i wr=>∃(k:Nat) (L:List Itm),k<=S.length/\i= Z J k/\O (Upto (S.map Itm.z) k (L.map Itm.z))/\O (OwnT wr w2.heap.size v L/\jb2 w2 wr)/\O (fb wr L)) (fun _ i _=>S.length-(intOf i).toNat);exact ⟨0,[],by omega,rfl,Upto.zero _,⟨OwnT.nil _ _,bR _ _⟩,fun x F=>by cases F⟩;rename H=>w3;obtain ⟨k,L,hk,rfl,ba,u,b3⟩:=hrel;by_cases R:k<S.length
 ·have cl:(k:Int)<(S.length:Int):=by omega
  have hI:=ja1 (f.out.1.below u.out.2);obtain ⟨bb,ad,rfl,hb,ce⟩:=hI.out.at R;obtain ⟨x,F⟩:=jb0 (S[k]);obtain ⟨e0,e1⟩:=ce k R;rw[F] at e0 e1;have bt:=ja1 ce;have ck:O (∃h:k<(S.map Itm.z).length,((S.map Itm.z)[k]).1=x.r):=⟨by simpa using R,by rw[gt R,F];rfl⟩;have a2:O (aq w3 x.p x.r/\x.r.length<=maxLen/\(x.p=none->x.c=0)):=hI.out.each x (by rw[<-F];exact gM R);have c5:O (x.r.length<=8):=(f.out.2.2.2.2.1 x.z (List.mem_map.2 ⟨x,by rw[<-F];exact gM R,rfl⟩)).2;have h0:O (wt ((S.map Itm.z).take k) x.r=0):=by show _=_;have:=ba.out.first (show k<(S.map Itm.z).length by simpa using R);rw[gt R,F] at this;exact this
  go_wp2;go_loopw [6,8] (fun i n wr=>∃j:Nat,k<=j/\j<=S.length/\i= Z J j/\n= Z J (wt ((S.map Itm.z).take j) x.r)/\O (Run (S.map Itm.z) x.r k j)/\Gr w3 wr) (fun i _ _=>S.length-(intOf i).toNat);exact ⟨k,nR _,hk,rfl,by rw[h0.out],fun m _ h1 h2=>by omega,gR _⟩;rename H=>w4;obtain ⟨j,dG,dy,rfl,rfl,cG,D⟩:=hrel;have a9:=ja1 cG;obtain ⟨N,hN⟩:=jb0 (wt ((S.map Itm.z).take j) x.r);rw[hN];have b6:=ja1 hN;have ds: -838860800<=N/\N<=838860800:=by
   have h1:=xP (l:=(S.map Itm.z).take j) (fun y hy=>(f.out.2.2.2.2.1 y (List.mem_of_mem_take hy)).1) x.r;rw[hN] at h1;have h2:((S.map Itm.z).take j).length<=800:=by simp;omega
   omega
  by_cases cf:∃h:j<S.length,aw x.r S[j].r=0
  ·obtain ⟨d,hc⟩:=cf;have a5:(j:Int)<(S.length:Int):=by omega
   obtain ⟨y,hy⟩:=jb0 (S[j]);obtain ⟨f0,f1⟩:=bt.out j d;rw[hy] at f0 f1 hc;have g0:jb1 w4 bb (ad+j*2) (I y.p y.r.length y.c):=(D.below.cell (p:=(jb5 bb (ad+j*2))) hb).trans f0;have g1:jb1 w4 bb (ad+j*2+1) (Z J y.n):=(D.below.cell (p:=(jb5 bb (ad+j*2+1))) hb).trans f1;have b5:=hI.out.each y (by rw[<-hy];exact gM d);have a6:=fw x.r y.r x.p y.p x.c y.c w4 a2.out.2.1 (a2.out.1.gr D) (b5.1.gr D);rw[hc] at a6;have a7:O _:=a6;have dl:O (okW y.n=true):=(f.out.2.2.2.2.1 y.z (List.mem_map.2 ⟨y,by rw[<-hy];exact gM d,rfl⟩)).1;have c2:O (wt ((S.map Itm.z).take (j+1)) x.r=N+y.n/\Run (S.map Itm.z) x.r k (j+1)):=by
    have cj:j<(S.map Itm.z).length:=(by simpa using d);have c6:y.r=x.r:=(iC _ _ hc).symm;refine ⟨?_,fun m hm h1 h2=> ?_⟩
    ·rw[oP cj,b6.out,gt d,hy];show N+(if y.r=x.r then y.n else 0)=_;rw[if_pos c6]
    ·by_cases e:m=j
     ·subst e;rw[gt d,hy];exact c6
     ·exact a9.out m hm h1 (by omega)
   have d0:IntKind.i64.wrap (N+y.n)=N+y.n:=(by have h:=dl.out;simp only[okW,inB,Bool.and_eq_true,decide_eq_true_eq] at h;rw[IntKind.wrap_i64];omega);go_wp2_with fail;refine ja0 a7 ?_;rintro e w5 ⟨rfl,bd⟩;have q1:jb1 w5 bb (ad+j*2+1) (Z J y.n):=(bd.below.cell (p:=(jb5 bb (ad+j*2+1))) (nL hb D.size)).trans g1;go_wp2;go_roundw;exact ⟨j+1,by omega,by omega,by go_num,by rw[c2.out.1],c2.out.2,D.trans bd⟩;simp[intOf];omega
  ·have b1:O (∀h:j<(S.map Itm.z).length,aw x.r ((S.map Itm.z)[j]).1≠0):=fun h e=>cf ⟨by simpa using h,by rw[gt (by simpa using h)] at e;exact e⟩;have a4:k<j:=by
    by_cases e:k=j
    ·subst e;obtain ⟨h1,h2⟩:=ck.out;exact absurd (by rw[h2,gg]) (b1.out h1)
    ·omega
   have cj:k<(S.map Itm.z).length:=(by simpa using R);have ao:O ((okW N=false->da (all.map Itm.z)=5)/\(N=0->Upto (S.map Itm.z) j (L.map Itm.z))/\(okW N=true->N≠0->Upto (S.map Itm.z) j (L.map Itm.z++[(x.r,N)]))):=by
    obtain ⟨h1,h2⟩:=ck.out;have hr:=a9.out;have he:=b1.out;have hn:=b6.out;rw[<-h2] at hr he hn;refine ⟨fun hw=> ?_,fun hw=> ?_,fun hw hz=> ?_⟩
    ·exact (mB _).2 ((dF.perm_bad (f.out.2.2.1.map Itm.z)).1 (yW f.out.2.2.2.1 h1 a4 he (by rw[hn];exact hw)))
    ·exact xn f.out.2.2.2.1 ba.out h1 a4 hr he (by rw[hn];exact hw)
    ·have:=xm f.out.2.2.2.1 ba.out h1 a4 hr he (by rw[hn];exact hw) (by rw[hn];exact hz);rw[hn,h2] at this;exact this
   by_cases d:j<S.length;rotate_left;focus have a5:¬(j:Int)<(S.length:Int):=(by omega);have g:=ja1 D;obtain ⟨w5,rfl⟩:∃W,W=w4:=⟨_,rfl⟩;go_wp2_with fail
   rotate_left;focus
    have a5:(j:Int)<(S.length:Int):=(by omega);obtain ⟨y,hy⟩:=jb0 (S[j]);obtain ⟨f0,f1⟩:=bt.out j d;rw[hy] at f0 f1;have g0:jb1 w4 bb (ad+j*2) (I y.p y.r.length y.c):=(D.below.cell (p:=(jb5 bb (ad+j*2))) hb).trans f0;have b5:=hI.out.each y (by rw[<-hy];exact gM d);obtain ⟨c,hc⟩:=jb0 (aw x.r y.r);have dx:¬c=0:=fun e=>by have:=b1.out (by simpa using d);rw[gt d,hy] at this;exact this (by rw[<-e,<-hc];rfl)
    have a6:=fw x.r y.r x.p y.p x.c y.c w4 a2.out.2.1 (a2.out.1.gr D) (b5.1.gr D);rw[hc] at a6;have a7:O _:=a6;go_wp2_with fail;refine ja0 a7 ?_;rintro e w5 ⟨rfl,bd⟩;have g:=ja1 (D.trans bd);go_wp2_with fail
   all_goals
    refine cM (gL N w5) ?_;rintro e w6 ⟨rfl,rfl⟩;cases c4:okW N
    ·have bp:=ja1 (ao.out.1 c4);have c9:=ja1 (f.out.2.2.2.2.2.trans ((u.out.2.trans (g.out.below.mono u.out.2.size)).mono f.out.2.2.2.2.2.size));go_wp2;go_ret2;exact ⟨[],none,0,by rw[bp.out];rfl,by rw[xF bp.out];rfl,⟨oL rfl,fun x F=>by cases F⟩,fun _=>rfl,c9.out,NwT.none _ _⟩
    ·cases cm:(N != 0)
     ·have bc:O (Upto (S.map Itm.z) j (L.map Itm.z)):=ao.out.2.1 (by simpa using cm);have E:=ja2 (u.out.1.gr g.out) (u.out.2.trans (g.out.below.mono u.out.2.size));go_wp2;go_roundw;exact ⟨j,L,by omega,rfl,bc,E,b3.out.below g.out.below⟩;simp[intOf];omega
     ·have bc:O (Upto (S.map Itm.z) j (L.map Itm.z++[(x.r,N)])):=ao.out.2.2 c4 (by simpa using cm);have E:=ja2 (u.out.1.gr g.out) (u.out.2.trans (g.out.below.mono u.out.2.size));have cd:=kj x.r x.p x.c w6 (by have:=c5.out;omega) a2.out.2.2 (a2.out.1.gr g.out);have bs:O _:=cd;clear cd;go_wp2_with fail;refine ja0 bs ?_;rintro e w7 ⟨C,c,rfl,c0,cp,ap,b0,b2⟩;clear bs;have bh:jb2 w6 (w7.alloc (V #[I C x.r.length c,Z J N] 101)):=b0.alloc b0.size _;have aL:O (OwnT (w7.alloc (V #[I C x.r.length c,Z J N] 101)) w2.heap.size u5 L/\Apart (w7.alloc (V #[I C x.r.length c,Z J N] 101)) w2.heap.size u5.ownBlock ⟨C,c,x.r,N⟩/\(L.length+1<=maxLen/\(L.length+1)*32<=140737488355328)/\w2.heap.size<=(w7.alloc (V #[I C x.r.length c,Z J N] 101)).heap.size/\jb2 w2 (w7.alloc (V #[I C x.r.length c,Z J N] 101))):=by
       have dk:=E.out.2.size;have dp:L.length<=k:=by have:=ba.out.len;simpa using this
       have b9:=E.out.2.trans (bh.mono dk);refine ⟨E.out.1.below bh,⟨c0.gr ((gR _).alloc _),nT c5.out (by decide),cp,fun a ha=>⟨?_,?_,?_⟩⟩,⟨?_,?_⟩,b9.size,b9⟩
       ·have h1:=(ap a ha).1;omega
       ·have h1:=(ap a ha).2;simp;omega
       ·intro e;have h1:=(World.ownsRow.lt E.out.1.own a.block e).2;have h2:=(ap a ha).1;omega
       ·unfold maxLen;omega
       ·omega
      have cv:O (fb (w7.alloc (V #[I C x.r.length c,Z J N] 101)) (L++[⟨C,c,x.r,N⟩])):=by
       intro z hz;rcases List.mem_append.1 hz with hz|hz
       ·exact ((b3.out.below g.out.below).below bh) z hz
       ·rw[List.mem_singleton.1 hz];exact ⟨b2.1.below ((gR _).alloc _).below,b2.2⟩
      clear c0 cp ap b0 bh b2;go_wp2_with (at_builtin;refine kg _ rfl (.tmp 50) (.tmp 55) rfl w2.heap.size u5 L ⟨C,c,x.r,N⟩ (jb5 w7.heap.size 0) 1 rfl rfl aL.out.1 (bV rfl ⟨C,c,x.r,N⟩ 101) aL.out.2.1 aL.out.2.2.1.1 aL.out.2.2.1.2 aL.out.2.2.2.1 ?_;intro v8 w8 a8 b8 bC);have cr:=ja2 a8 (aL.out.2.2.2.2.trans b8);have cu:O (fb w8 (L++[⟨C,c,x.r,N⟩])):=cv.out.grown bC (aL.out.1.own.typed (by decide));clear a8 b8 bC;go_roundw;exact ⟨j,L++[⟨C,c,x.r,N⟩],by omega,rfl,by rw[List.map_append];exact bc,cr,cu⟩;simp[intOf];omega
 ·have cl:¬(k:Int)<(S.length:Int):=by omega
  have bv:O (da (all.map Itm.z)=0/\L.map Itm.z=mD (all.map Itm.z)):=by have h1:=ba.out.done (by simp;omega);have hp:=f.out.2.2.1.map Itm.z;have h2:=zg (fun h=>h1.2 ((dF.perm_bad hp).2 h));refine ⟨h2,?_⟩;rw[sC h2];exact (h1.1.perm hp).eq
  obtain ⟨A2,bl,c3,cn,be,ap⟩:=u.out.1.items;have bo:eR w.heap.size A2 L:=⟨fun a ha=>nT f.out.2.2.2.2.2.size (ap a ha).1,fun x F a ha=>nT f.out.2.2.2.2.2.size ((u.out.1.each x F).own a ha).1⟩;have c7:O (NwT w3 bl w.heap.size A2 L):=⟨bo,by have:=u.out.1.own;rw[c3] at this;exact this.roomA,b3.out⟩;have ak:=ja3 be cn (f.out.2.2.2.2.2.trans (u.out.2.mono f.out.2.2.2.2.2.size));subst c3;clear be cn u ap bo;go_wp2;go_ret2;exact ⟨L,A2,bl,by rw[bv.out.1];rfl,bv.out.2,ak.out.1,ak.out.2.1,ak.out.2.2,c7.out⟩
theorem B3 {w:H} {A:Option Y} {ca:Nat} {a:List Itm} (T:TypeId):aC dW 1 (w.alloc (V #[I A a.length ca] T)) (jb4 w.heap.size 0) [⟨A,ca,a⟩]:=by
 refine oR ⟨w.heap.size,0,rfl,by simp,fun j c i hi=> ?_⟩;obtain rfl:i=0:=by omega
 obtain rfl:j=0:=by simp at c;omega
 exact ab (gR _) (j:=0) rfl
theorem B4 {w:H} {A B:Option Y} {ca cb:Nat} {a b:List Itm} (T:TypeId):aC dW 1 (w.alloc (V #[I A a.length ca,I B b.length cb] T)) (jb4 w.heap.size 0) [⟨A,ca,a⟩,⟨B,cb,b⟩]:=by
 refine oR ⟨w.heap.size,0,rfl,by simp,fun j d i hi=> ?_⟩;obtain rfl:i=0:=by omega
 have c:j=0\/j=1:=by simp at d;omega
 rcases c with rfl|rfl
 ·exact ab (gR _) (j:=0) rfl
 ·exact ab (gR _) (j:=1) rfl
theorem mP (a:List Itm) (A:Option Y) (ca:Nat) (w:H) (E:A=none->ca=0) (F:Items w A a) (R:a.length<=400) (hx:∀x∈a,okW x.n=true/\x.r.length<=8) :
  K X 129 #[I (jb4 w.heap.size 0) 1 1] (w.alloc (V #[I A a.length ca] 59)) fun e w'=>∃(L:List Itm) (C:Option Y) (c:Nat),e= U (Q #[I C L.length c,Z J (da (a.map Itm.z))])/\L.map Itm.z=mD (a.map Itm.z)/\Items w' C L/\dC C L.length c/\jb2 w w'/\NwT w' c w.heap.size C L:=by
 have d:Gr w (w.alloc (V #[I A a.length ca] 59)):=(gR _).alloc _;have h:=od [⟨A,ca,a⟩] (jb4 w.heap.size 0) 1 _ (B3 59) (by simp) (fun s hs=>by obtain rfl:s=_:=List.mem_singleton.1 hs;exact ⟨F.gr d,E,R,hx⟩)
 have f:([⟨A,ca,a⟩]:List Sl).flatMap (·.l)=a:=by simp
 rw[f] at h;refine h.mono ?_;rintro e w' ⟨L,C,c,g,j,k,m,u,D⟩;exact ⟨L,C,c,g,j,k,m,d.below.trans (u.mono d.size),D.mono d.size⟩

theorem mQ (a b:List Itm) (A B:Option Y) (ca cb:Nat) (w:H) (E:A=none->ca=0) (F:B=none->cb=0) (R:Items w A a) (hJ:Items w B b) (hl:a.length<=400) (hm:b.length<=400) (hx:∀x∈a,okW x.n=true/\x.r.length<=8) (hy:∀x∈b,okW x.n=true/\x.r.length<=8) :
  K X 129 #[I (jb4 w.heap.size 0) 2 2] (w.alloc (V #[I A a.length ca,I B b.length cb] 59)) fun e w'=>∃(L:List Itm) (C:Option Y) (c:Nat),e= U (Q #[I C L.length c,Z J (da (a.map Itm.z++b.map Itm.z))])/\L.map Itm.z=mD (a.map Itm.z++b.map Itm.z)/\Items w' C L/\dC C L.length c/\jb2 w w'/\NwT w' c w.heap.size C L:=by
 have d:Gr w (w.alloc (V #[I A a.length ca,I B b.length cb] 59)):=(gR _).alloc _
 have h:=od [⟨A,ca,a⟩,⟨B,cb,b⟩] (jb4 w.heap.size 0) 2 _ (B4 59) (by simp) (fun s hs=>by
  rcases List.mem_cons.1 hs with e|e
  ·subst e;exact ⟨R.gr d,E,hl,hx⟩
  ·obtain rfl:s=_:=List.mem_singleton.1 e;exact ⟨hJ.gr d,F,hm,hy⟩)
 have f:([⟨A,ca,a⟩,⟨B,cb,b⟩]:List Sl).flatMap (·.l)=a++b:=by simp
 rw[f,List.map_append] at h;refine h.mono ?_;rintro e w' ⟨L,C,c,g,j,k,m,u,D⟩;exact ⟨L,C,c,g,j,k,m,d.below.trans (u.mono d.size),D.mono d.size⟩

end Go.Proofs.YtbkjgjjpnfhkhaaGreatDoor

namespace Go.Proofs.YtbkjgjjpnfhkhaaGreatDoor

theorem pN {x:Zit}:∀ {S:List Zit},(gK x S).length<=S.length+1
 | []=>by
  unfold gK;by_cases e:x.2=0
  ·rw[if_pos e];simp
  ·rw[if_neg e];simp
 | y::t=>by
  unfold gK;by_cases c:aw x.1 y.1<0
  ·rw[if_pos c];by_cases e:x.2=0
   ·rw[if_pos e];simp
   ·rw[if_neg e];simp
  ·rw[if_neg c];by_cases d:aw x.1 y.1=0
   ·rw[if_pos d];by_cases e:x.2+y.2=0
    ·rw[if_pos e];simp;omega
    ·rw[if_neg e];simp
   ·rw[if_neg d];have:= @pN x t;simp;omega
theorem gA:∀l:List Zit,(bQ l).length<=l.length
 | []=>by simp[bQ]
 | x::t=>by have c:=gA t;have d:= @pN x (bQ t);show (gK x (bQ t)).length<=_;simp;omega
theorem kr {l:List Zit} (h:bS l=0):l.length<=400/\(∀x∈l,okR x.1=true/\okW x.2=true)/\da l=0:=by
 unfold bS at h;by_cases d:400<l.length
 ·rw[if_pos d] at h;cases h
 ·rw[if_neg d] at h;by_cases c:l.all (fun x=>okR x.1 && okW x.2)=true
  ·rw[if_pos c] at h;exact ⟨by omega,fun x f=>by simpa using List.all_eq_true.1 c x f,h⟩
  ·rw[if_neg c] at h;cases h
theorem sk {l:List Zit} (h:bS l=0):cY l=bQ l/\am (bQ l)=0:=by have p:=kr h;refine ⟨by unfold cY;rw[if_pos h],(aQ _).2 ⟨nT (gA l) p.1,?_,(bk l).rise⟩⟩;exact (bk l).okZ (oc p.2.2) fun x c=>(p.2.1 x c).1
theorem add_comm {a b:List Zit} (h:bi a b=0):bi b a=0/\aZ a b=aZ b a:=by
 have f:∀r,wt (b++a) r=wt (a++b) r:=fun r=>by rw[cC,cC];omega
 have e:bi b a=0:=by
  unfold bi at h ⊢;by_cases c:am a=0
  ·rw[if_pos c] at h;by_cases d:am b=0
   ·rw[if_pos d] at h;rw[if_pos d,if_pos c,ur f,fl f];exact h
   ·rw[if_neg d] at h;exact absurd h d
  ·rw[if_neg c] at h;exact absurd h c
 refine ⟨e,?_⟩;unfold aZ;rw[if_pos h,if_pos e,fl f]
theorem uC {a b:List Zit} (h:bi a b=0):aZ a b=bQ (a++b):=by unfold aZ;rw[if_pos h]
theorem add_assoc {a b c:List Zit} (d:bi a b=0) (f:bi b c=0) (h:bi (aZ a b) c=bi a (aZ b c)):aZ (aZ a b) c=aZ a (aZ b c):=by
 have g:∀r,wt (aZ a b++c) r=wt (a++aZ b c) r:=fun r=>by rw[uC d,uC f,cC,cC,(bk _).same,(bk _).same,cC,cC];omega
 have e:∀x y,aZ x y=if bi x y=0 then bQ (x++y) else []:=fun _ _=>rfl;rw[e (aZ a b) c,e a (aZ b c),h,fl g]

end Go.Proofs.YtbkjgjjpnfhkhaaGreatDoor
