import Derived.Test.YtbkjgjjpnfhkhaaGreatDoorM14
set_option maxRecDepth 100000
set_option maxHeartbeats 8000000
open Go renaming World → Y, Addr → X
open Go.IntKind renaming i64 → O
open Go.Obj renaming cells → H
open Go.RowKit renaming Hid → Z
open Go.Value renaming slice → I, int → J
namespace Go.Proofs.YtbkjgjjpnfhkhaaGreatDoor
open Go.RowKit Go.Sort Go.Shelf Go.Lib

theorem oq {d:List Int} (F:d.Pairwise (· <= ·)):∀m,m<=d.length->(compactUpTo d.toArray m).Pairwise (· < ·)/\(∀x,x∈compactUpTo d.toArray m↔∃j,∃h:j<d.length,j<m/\d[j]=x):=by
 intro m;induction m with
 | zero =>intro _;refine ⟨by simp[compactUpTo],fun x=> ?_⟩;simp[compactUpTo]
 | succ m ih =>
  intro hm;obtain ⟨h1,r⟩:=ih (by omega);have l:m<d.length:=by omega
  have D:d.toArray[m]! = d[m]:=by simp[l]
  rw[compactUpTo_succ];have ah:∀x∈compactUpTo d.toArray m,x<=d[m]:=by intro x R;obtain ⟨j,g,c,rfl⟩:=(r x).1 R;exact (List.pairwise_iff_getElem.1 F) j m g l c
  by_cases n:keeps d.toArray m=true
  ·rw[if_pos n,D];refine ⟨?_,fun x=> ?_⟩
   ·rw[List.pairwise_append];refine ⟨h1,by simp,?_⟩;intro x R y hy;have ad:y=d[m]:=by simpa using hy
    subst ad;obtain ⟨j,g,c,rfl⟩:=(r x).1 R;have f:m-1<d.length:=by omega
    have u:d.toArray[m-1]! = d[m-1]:=(by simp[f]);have ak:d[m]≠d[m-1]:=by
     unfold keeps at n;have:=of_decide_eq_true n;rcases this with k|k
     ·omega
     ·rw[D,u] at k;exact k
    have a1:d[j]<=d[m-1]:=by
     by_cases e:j=m-1
     ·subst e;exact Int.le_refl _
     ·exact (List.pairwise_iff_getElem.1 F) j (m-1) g f (by omega)
    have a2:d[m-1]<=d[m]:=(List.pairwise_iff_getElem.1 F) (m-1) m f l (by omega);omega
   ·rw[List.mem_append,r];constructor
    ·rintro (⟨j,g,c,e⟩|k)
     ·exact ⟨j,g,by omega,e⟩
     ·exact ⟨m,l,by omega,(by simpa using k:x=d[m]).symm⟩
    ·rintro ⟨j,g,c,e⟩;by_cases C:j=m
     ·subst C;exact oR (by simp[e])
     ·exact oL ⟨j,g,by omega,e⟩
  ·rw[if_neg n,List.append_nil];refine ⟨h1,fun x=> ?_⟩;rw[r];constructor
   ·rintro ⟨j,g,c,e⟩;exact ⟨j,g,by omega,e⟩
   ·rintro ⟨j,g,c,e⟩;by_cases C:j=m
    ·subst C;unfold keeps at n;have E:¬(j=0\/d.toArray[j]! ≠ d.toArray[j-1]!):=fun k=>n (decide_eq_true k);have f:j-1<d.length:=by omega
     have u:d.toArray[j-1]! = d[j-1]:=(by simp[f]);have he:d[j]=d[j-1]:=by
      by_cases k:d[j]=d[j-1]
      ·exact k
      ·exact absurd (oR (by rw[D,u];exact k)) E
     exact ⟨j-1,f,by omega,by rw[<-he];exact e⟩
    ·exact ⟨j,g,by omega,e⟩
theorem eL (l:List Int):(aX l).Pairwise (· < ·)/\∀x,x∈aX l↔x∈l:=by
 have f:(l.mergeSort fun x y=>decide (x<=y)).Pairwise (· <= ·):=by have:=List.pairwise_mergeSort (le:=fun x y:Int=>decide (x<=y)) (by intro a b c k m;simp only[decide_eq_true_eq] at *;omega) (by intro a b;simp only[Bool.or_eq_true,decide_eq_true_eq];omega) l;exact this.imp fun h=>by simpa using h
 have h:=oq f _ (nR _);refine ⟨h.1,fun x=> ?_⟩;show x∈compactUpTo _ _↔_;rw[h.2];constructor
 ·rintro ⟨j,d,_,e⟩;rw[<-e];exact (List.mergeSort_perm l _).mem_iff.1 (gM d)
 ·intro g;obtain ⟨j,d,e⟩:=List.getElem_of_mem ((List.mergeSort_perm l _).mem_iff.2 g);exact ⟨j,d,d,e⟩
theorem vY {key col:Int} {e:List Cel} {x:Int}:x∈aN key col e↔∃y∈e,cB key col y=true/\y.2.2.2=x:=by
 unfold aN;rw[List.mem_map];constructor
 ·rintro ⟨y,c,e⟩;have:=List.mem_filter.1 c;exact ⟨y,this.1,this.2,e⟩
 ·rintro ⟨y,c,d,e⟩;exact ⟨y,List.mem_filter.2 ⟨c,d⟩,e⟩
theorem gJ {t:Tab} (h:ay t=0) {x:Cel} (g:x∈t.e):aF x.2.1 x.2.2.1 x.2.2.2=true:=by
 obtain ⟨j,d,rfl⟩:=List.getElem_of_mem g;have c:=(af h).2.2 j d;have f:t.e.getD j ((0,0),0,0,0)=t.e[j]:=by simp[d]
 unfold dE at c;rw[f] at c;simp only[Bool.and_eq_true] at c;exact c.1.2

end Go.Proofs.YtbkjgjjpnfhkhaaGreatDoor

namespace Go.Proofs.YtbkjgjjpnfhkhaaGreatDoor

def grt (l:List Int):Int:=l.getD (l.length-1) 0
def ch (e:List Cel) (key:Int):List Int:=[key,grt (aX (aN key 0 e)),grt (aX (aN key 1 e)),grt (aX (aN key 2 e))]
def ofL (t:Tab):List Zit:=(aX (bJ t.e)).map fun key=>(ch t.e key,1)
theorem yt (l:List Int):grt l=0\/grt l∈l:=by
 unfold grt;by_cases h:l=[]
 ·subst h;exact oL rfl
 ·have c:0<l.length:=List.length_pos_iff.2 h;right;rw[List.getD_eq_getElem?_getD,List.getElem?_eq_getElem (show l.length-1<l.length by omega)];exact gM _
theorem vP {t:Tab} (h:ay t=0) {key:Int} (c:key∈bJ t.e):0<=key/\key<=49:=by unfold bJ at c;obtain ⟨y,d,rfl⟩:=List.mem_map.1 c;have:=gJ h d;simp only[aF,inB,Bool.and_eq_true,decide_eq_true_eq] at this;exact this.1.1
theorem rk {t:Tab} (h:ay t=0) (key col:Int): -1000<=grt (aX (aN key col t.e))/\grt (aX (aN key col t.e))<=1000:=by
 rcases yt (aX (aN key col t.e)) with k|k
 ·rw[k];omega
 ·have c:=((eL _).2 _).1 k;obtain ⟨y,d,_,e⟩:=vY.1 c;rw[<-e];have:=gJ h d;simp only[aF,inB,Bool.and_eq_true,decide_eq_true_eq] at this;exact this.2
theorem oH {n:Int} (h: -1000<=n/\n<=1000):okN n=true:=by simp only[okN,inB,Bool.and_eq_true,decide_eq_true_eq];omega
theorem AR {t:Tab} (h:ay t=0):am (ofL t)=0:=by
 have l:=af h;refine (aQ _).2 ⟨?_,?_,?_⟩
 ·have g:=di (bJ t.e);have d:=e7 t.e;unfold ofL;rw[List.length_map];omega
 ·intro x f;unfold ofL at f;obtain ⟨c,k,rfl⟩:=List.mem_map.1 f;have g:=vP h (((eL _).2 _).1 k);have d:okN c=true:=oH (by omega);unfold okZ okR ch;simp[d,oH (rk h c 0),oH (rk h c 1),oH (rk h c 2)];decide
 ·unfold ew ofL;rw[List.pairwise_map];refine (eL (bJ t.e)).1.imp fun {a b} j=> ?_;show (if bf a b=0 then _ else bf a b)<0;have:=db a b;rw[if_neg (by omega)];omega

end Go.Proofs.YtbkjgjjpnfhkhaaGreatDoor

namespace Go.Proofs.YtbkjgjjpnfhkhaaGreatDoor
open Go.RowKit Go.Sort

theorem oz (l:List Int) (A:Option X) (cap:Nat) (w:Y) (r:l.length<=maxLen) (C:aq w A l) :
  Calls Tryz.prog 102 #[I A l.length cap] w fun e w'=>e= .returned (J O (grt l))/\Gr w w':=by
 unfold maxLen at r;by_cases h:l=[]
 ·subst h;go_enter Tryz.func102,Tryz.ntmps102;go_wp2;go_ret;exact ⟨rfl,gR _⟩
 ·have E:0<l.length:=List.length_pos_iff.2 h;have f:l.length-1<l.length:=by omega
  obtain ⟨b,g,rfl,D,d⟩:=C.at f;obtain ⟨x,m⟩:=jb0 (l[l.length-1]);have j:=d (l.length-1) f 0 (by omega);rw[m] at j;have k:jb1 w b (g+(l.length-1)) (J O x):=by simpa[dU] using j
  have c:Z (grt l=x):=by show _=_;unfold grt;rw[List.getD_eq_getElem?_getD,List.getElem?_eq_getElem f,<-m];rfl
  obtain ⟨n,u⟩:∃n,l.length=n+1:=⟨l.length-1,by omega⟩;rw[u] at k ⊢;rw[Nat.add_sub_cancel] at k;go_enter Tryz.func102,Tryz.ntmps102;go_wp2;go_ret;exact ⟨by rw[c.out];rfl,gR _⟩


def ofR (t:Tab):List Zit:=if ay t=0 then ofL t else []
theorem Ac {t:Tab} (h:ay t≠0):ofR t=[]:=by unfold ofR;rw[if_neg h]
theorem rA {t:Tab} (h:ay t=0):ofR t=ofL t:=by unfold ofR;rw[if_pos h]

theorem rL (e:List Cel) (key:Int) {j:Nat} (h:j<3):(ch e key).take (j+1+1)=(ch e key).take (j+1)++[grt (aX (aN key j e))]:=by
 have c:j=0\/j=1\/j=2:=by omega
 rcases c with rfl|rfl|rfl<;>rfl
theorem nO (e:List Cel) (key:Int):(ch e key).length=4:=rfl
theorem rM (e:List Cel) (key:Int) (j:Nat):((ch e key).take j).length<=4:=by rw[List.length_take,nO];omega

theorem wH (t:Tab) (A:Option X) (ca:Nat) (D:Option X) (cd:Nat) (w:Y) (hl:t.c.l.length<=maxLen) (cu:t.e.length<=maxLen) (hr:Row w A t.c.l) (hd:av w D t.e) :
  Calls Tryz.prog 64 #[.agg (T6 t A ca D cd).toArray] w fun e w'=>∃(L:List Itm) (C:Option X) (c:Nat),e= .returned (.tuple #[I C L.length c,J O (ay t)])/\L.map Itm.z=ofR t/\Items w' C L/\dC C L.length c/\jb2 w w'/\eR w.heap.size C L:=by
 have u:TabAt (w.alloc (H #[J O t.c.c0,J O t.c.c1,J O t.c.c2,J O t.c.c3,I A t.c.l.length ca,I D t.e.length cd] 35)) w.heap.size t A ca D cd:=TabAt.new 35 hr hd rfl;have a4:jb2 w (w.alloc (H #[J O t.c.c0,J O t.c.c1,J O t.c.c2,J O t.c.c3,I A t.c.l.length ca,I D t.e.length cd] 35)):=((gR w).alloc _).below;have cs:=eE t A ca D cd (w.alloc (H #[J O t.c.c0,J O t.c.c1,J O t.c.c2,J O t.c.c3,I A t.c.l.length ca,I D t.e.length cd] 35)) hl cu u.row u.rowC;have b1:Z _:=cs;go_enter Tryz.func64,Tryz.ntmps64;obtain ⟨k0,k1,k2,k3,k4,k5⟩:_/\_/\_/\_/\_/\_:=⟨u.k0,u.k1,u.k2,u.k3,u.k4,u.k5⟩;go_wp2_with fail;refine ja0 b1 ?_;rintro e w1 ⟨rfl,b3⟩;have m:=ja2 (u.gr b3) (a4.trans (b3.below.mono a4.size));obtain ⟨E,hE⟩:=jb0 (ay t);have bd:=ja1 hE;rw[hE];clear hE;cases hq:(E != 0)
 ·have ak:E=0:=by simpa using hq
  have bc:Z (ay t=0):=by show _=_;rw[bd.out,ak]
  subst ak;have a2:Z (t.e.length*40<=140737488355328/\t.e.length<=400):=by have:=(af bc.out).2.1;exact ⟨by omega,this⟩
  have cz:=vQ t A ca D cd w1 a2.out.1 m.out.1.row m.out.1.rowC;have cc:Z _:=cz;obtain ⟨k0,k1,k2,k3,k4,k5⟩:_/\_/\_/\_/\_/\_:=⟨m.out.1.k0,m.out.1.k1,m.out.1.k2,m.out.1.k3,m.out.1.k4,m.out.1.k5⟩;go_wp2_with fail;refine ja0 cc ?_;rintro e w2 ⟨K,kc,rfl,cG,bG⟩;have a0:=ja2 (m.out.1.below bG) (m.out.2.trans (bG.mono m.out.2.size));obtain ⟨ks,a1⟩:=jb0 (aX (bJ t.e));have a6:Z (aX (bJ t.e)=ks/\aq w2 K ks):=⟨a1,by rw[<-a1];exact cG⟩;have c8:ks.length<=400:=by rw[<-a1];exact nT (di _) (nT (e7 _) a2.out.2)
  rw[a1];go_wp2;go_loopw [5,18] (fun v i wr=>∃(k:Nat) (L:List Itm),k<=ks.length/\i= J O k/\Z (L.length=k)/\Z (L.map Itm.z=(ks.take k).map (fun d=>(ch t.e d,1)))/\Z (OwnT wr w2.heap.size v L/\jb2 w2 wr)) (fun _ i _=>ks.length-(intOf i).toNat);exact ⟨0,[],by omega,rfl,rfl,by simp[Z],OwnT.nil _ _,bR _ _⟩;rename Y=>w3;obtain ⟨k,L,hk,rfl,bv,bC,n⟩:=hrel;by_cases bp:k<ks.length
  ·have ce:(k:Int)<(ks.length:Int):=(by omega);have a7:aq w3 K ks:=a6.out.2.below n.out.2;obtain ⟨bb,c6,rfl,hb,b2⟩:=a7.at bp;obtain ⟨d,ao⟩:=jb0 (ks[k]);have e0:=b2 k bp 0 (by omega);rw[ao] at e0;have e1:jb1 w3 bb (c6+k) (J O d):=by simpa[dU] using e0
   have cm:Z ((ks.take (k+1)).map (fun d=>(ch t.e d,(1:Int)))=(ks.take k).map (fun d=>(ch t.e d,1))++[(ch t.e d,1)]):=(by show _=_;rw[List.take_succ_eq_append_getElem bp,ao];simp);have c4:=ja1 (a0.out.1.below n.out.2);clear b2 e0 ao a7;go_wp2;go_loopw [8,24] (fun v i wr=>∃j:Nat,j<=3/\i= J O j/\Z (dD wr w3.heap.size v ((ch t.e d).take (j+1))/\jb2 w3 wr)) (fun _ i _=>3-(intOf i).toNat);exact ⟨0,by omega,rfl,World.ownsRow_lit w3 #[J O d] 1 (nR _) (by unfold maxLen;omega) rfl,((gR _).alloc _).below⟩;rename Y=>w4;obtain ⟨j,hj,rfl,r⟩:=hrel;have F:=ja1 (c4.out.below r.out.2);by_cases cv:j<3
   ·have b8:(j:Int)<3:=(by omega);obtain ⟨k0,k1,k2,k3,k4,k5⟩:_/\_/\_/\_/\_/\_:=⟨F.out.k0,F.out.k1,F.out.k2,F.out.k3,F.out.k4,F.out.k5⟩;have ba:=ja9 (rO t A ca D cd d j w4 a2.out.1 F.out.row F.out.rowC);go_wp2_with fail;refine ja0 ba ?_;rintro e w5 ⟨V,vc,rfl,ck,be⟩;clear ba k0 k1 k2 k3 k4 k5;have b6:=oz (aX (aN d j t.e)) V vc w5 (by have h1:=di (aN d j t.e);have h2:=eO d j t.e;have h3:=a2.out.2;unfold maxLen;omega) ck;have a5:Z _:=b6;clear b6 ck;go_wp2_with fail;refine ja0 a5 ?_;rintro e w6 ⟨rfl,b4⟩;clear a5;obtain ⟨gv,bo⟩:=jb0 (grt (aX (aN d j t.e)));have a9:Z ((ch t.e d).take (j+1+1)=(ch t.e d).take (j+1)++[gv]):=by show _=_;rw[rL _ _ cv,bo]
    rw[bo];obtain ⟨M,hM⟩:=jb0 ((ch t.e d).take (j+1));have cr:M.length<=4:=by rw[<-hM];exact rM _ _ _
    rw[hM] at r a9;have bh:jb2 w4 (w6.alloc (H #[J O gv] 3)):=be.trans ((b4.trans ((gR _).alloc _)).below.mono be.size);have f:Z (dD (w6.alloc (H #[J O gv] 3)) w3.heap.size u8 M/\aq (w6.alloc (H #[J O gv] 3)) (jb4 w6.heap.size 0) [gv]/\M.length+1<=maxLen/\(M.length+1)*8<=140737488355328/\jb2 w3 (w6.alloc (H #[J O gv] 3))):=⟨r.out.1.below bh,eQ rfl gv 3,by unfold maxLen;omega,by omega,r.out.2.trans (bh.mono r.out.2.size)⟩;clear hM cr bo be b4 bh r;go_wp2_with (at_builtin;refine aH _ rfl (.tmp 27) (.tmp 33) rfl w3.heap.size u8 M [gv] (jb4 w6.heap.size 0) 1 rfl rfl f.out.1 f.out.2.1 (fun h=>by cases h) f.out.2.2.1 f.out.2.2.2.1 f.out.2.2.2.2.size ?_;intro v7 w7 ap b5);have bl:=ja2 ap (f.out.2.2.2.2.trans (ae.grown_below f.out.1 b5 f.out.2.2.2.2.size));clear ap b5 f;go_roundw;exact ⟨j+1,by omega,by go_num,by rw[a9.out];exact bl⟩;simp[intOf];omega
   ·have b8:¬(j:Int)<3:=(by omega);obtain rfl:j=3:=by omega
    have cl:dD w4 w3.heap.size u8 (ch t.e d):=r.out.1;obtain ⟨C,c,rfl,hC,a8,ah⟩:=ae.row bI cl;have bs:jb2 w3 (w4.alloc (H #[I C (ch t.e d).length c,J O 1] 101)):=r.out.2.alloc r.out.2.size _;have f:Z (OwnT (w4.alloc (H #[I C (ch t.e d).length c,J O 1] 101)) w2.heap.size u5 L/\Apart (w4.alloc (H #[I C (ch t.e d).length c,J O 1] 101)) w2.heap.size u5.ownBlock ⟨C,c,ch t.e d,1⟩/\(L.length+1<=maxLen/\(L.length+1)*32<=140737488355328)/\w2.heap.size<=(w4.alloc (H #[I C (ch t.e d).length c,J O 1] 101)).heap.size/\jb2 w2 (w4.alloc (H #[I C (ch t.e d).length c,J O 1] 101))):=by
     have cn:=n.out.2.size;have c7:=bv.out;have b0:=n.out.2.trans (bs.mono cn);refine ⟨n.out.1.below bs,⟨a8.gr ((gR _).alloc _),by show (ch t.e d).length<=maxLen;rw[nO];unfold maxLen;omega,hC,fun a ha=>⟨?_,?_,?_⟩⟩,⟨?_,?_⟩,b0.size,b0⟩
     ·have h1:=(ah a ha).1;omega
     ·have h1:=(ah a ha).2;simp;omega
     ·intro e;have h1:=(World.ownsRow.lt n.out.1.own a.block e).2;have h2:=(ah a ha).1;omega
     ·unfold maxLen;omega
     ·omega
    obtain ⟨R,hR⟩:=jb0 (ch t.e d);rw[hR] at f cm ⊢;clear cl a8 hC ah bs r hR;go_wp2_with (at_builtin;refine cT _ rfl (.tmp 36) (.tmp 39) rfl w2.heap.size u5 L ⟨C,c,R,1⟩ (jb5 w4.heap.size 0) 1 rfl rfl f.out.1 (bV rfl ⟨C,c,R,1⟩ 101) f.out.2.1 f.out.2.2.1.1 f.out.2.2.1.2 f.out.2.2.2.1 ?_;intro v8 w8 aL bN);have cj:=ja2 aL (f.out.2.2.2.2.trans bN);clear aL bN f;go_roundw;case rel =>
     refine ⟨k+1,L++[⟨C,c,R,1⟩],by omega,by go_num,?_,?_,cj⟩
     ·show _=_;simp[bv.out]
     ·show _=_;rw[cm.out,List.map_append,bC.out];rfl
    case measure=>simp[intOf];omega
  ·have ce:¬(k:Int)<(ks.length:Int):=(by omega);have b9:ks.take k=ks:=List.take_of_length_le (by omega);have an:Z (L.map Itm.z=ofR t):=by show _=_;rw[bC.out,b9,rA bc.out];unfold ofL;rw[a6.out.1]
   obtain ⟨A2,a3,c5,cf,b7,bt⟩:=n.out.1.items;have ad:Z (Items w3 A2 L/\dC A2 L.length a3/\jb2 w w3/\eR w.heap.size A2 L):=⟨b7,cf,a0.out.2.trans (n.out.2.mono a0.out.2.size),fun a ha=>nT a0.out.2.size (bt a ha).1,fun x hx a ha=>nT a0.out.2.size ((n.out.1.each x hx).own a ha).1⟩;subst c5;clear b9 b7 cf bt n;go_wp2;go_ret2;exact ⟨L,A2,a3,by rw[bc.out];rfl,an.out,ad.out.1,ad.out.2.1,ad.out.2.2⟩
 ·have ak:E≠0:=by simpa using hq
  have an:Z (ofR t=[]):=Ac (by rw[bd.out];exact ak);clear ak;go_wp2;go_ret2;exact ⟨[],none,0,by rw[bd.out];rfl,by rw[an.out];rfl,⟨oL rfl,fun x hx=>by cases hx⟩,fun _=>rfl,m.out.2,eR.none _⟩
end Go.Proofs.YtbkjgjjpnfhkhaaGreatDoor

namespace Go.Proofs.YtbkjgjjpnfhkhaaGreatDoor

structure TS (z:List Zit):Prop where
 ok:am z=0
 wide:cQ 4 z
 len:z.length<=50
 one:∀x∈z,x.2=1
theorem TS.nil:TS []:=⟨by decide,fun x c=>(by cases c),by simp,fun x c=>(by cases c)⟩
theorem mo:∀(l:List Int) (c hi:Int),l.Pairwise (· < ·)->(∀x∈l,c<=x/\x<=hi)->(l.length:Int)<=max 0 (hi-c+1)
 | [],c,hi,_,_=>by simp;omega
 | x::l,c,hi,hp,hb=>by have d:=List.pairwise_cons.1 hp;have g:=hb x (by simp);have:=mo l (x+1) hi d.2 fun y f=>⟨by have:=d.1 y f;omega,(hb y (by simp[f])).2⟩;simp only[List.length_cons];omega
theorem TS.of {t:Tab} (h:ay t=0):TS (ofR t):=by
 have e:ofR t=ofL t:=by unfold ofR;rw[if_pos h]
 rw[e];refine ⟨AR h,fun x c=> ?_,?_,fun x c=> ?_⟩
 ·unfold ofL at c;obtain ⟨d,_,rfl⟩:=List.mem_map.1 c;rfl
 ·unfold ofL;rw[List.length_map];have:=mo (aX (bJ t.e)) 0 49 (eL _).1 fun x c=>vP h (((eL _).2 _).1 c);omega
 ·unfold ofL at c;obtain ⟨d,_,rfl⟩:=List.mem_map.1 c;rfl
theorem TS.wt {z:List Zit} (h:TS z) (r:List Int):0<=wt z r/\wt z r<=1:=by
 by_cases d:Proofs.YtbkjgjjpnfhkhaaGreatDoor.wt z r=0
 ·omega
 ·obtain ⟨x,c,e⟩:=kZ d;have:=((aQ z).1 h.ok).2.2.wt c;rw[e,h.one x c] at this;omega
theorem TS.row {z:List Zit} (h:TS z) {x:Zit} (c:x∈z):okR x.1=true:=(bg (((aQ z).1 h.ok).2.1 x c)).1
theorem lz (a b:List Zit) (r:List Int):wt (bD a b) r=wt a r-wt b r:=by unfold bD;rw[(bk _).same,gW]
theorem tD {n:Int} (h: -1<=n/\n<=1):okW n=true:=by simp only[okW,inB,Bool.and_eq_true,decide_eq_true_eq];omega
theorem TS.mem {a b:List Zit} {x:Zit} (d:x∈bD a b):∃y∈a++b,y.1=x.1:=by
 obtain ⟨y,f,e⟩:=(bk (a++cW b)).row d;rcases List.mem_append.1 f with k|k
 ·exact ⟨y,List.mem_append.2 (oL k),e⟩
 ·obtain ⟨z,g,c⟩:=kM k;exact ⟨z,List.mem_append.2 (oR g),c.trans e⟩
theorem yg {a b:List Zit} (d:TS a) (f:TS b):(bD a b).length<=100:=by
 have:=gA (a++cW b);have g:=d.len;have h:=f.len;have c:(cW b).length=b.length:=by unfold cW;exact List.length_map _
 unfold bD;rw[List.length_append,c] at this;omega
theorem gH {a b:List Zit} (d:TS a) (f:TS b):am (bD a b)=0/\cQ 4 (bD a b):=by
 have u:=yg d f;have g:=bk (a++cW b);refine ⟨(aQ _).2 ⟨by omega,fun x c=> ?_,g.rise⟩,fun x c=> ?_⟩
 ·obtain ⟨y,h,e⟩:=TS.mem c;have j:okR x.1=true:=by
   rw[<-e];rcases List.mem_append.1 h with k|k
   ·exact d.row k
   ·exact f.row k
  have l:okW x.2=true:=by have:=g.rise.wt c;rw[<-this,g.same,gW];have n:=d.wt x.1;have r:=f.wt x.1;exact tD (by omega)
  have m:=g.noz x c;unfold okZ;rw[j,l];simpa using m
 ·obtain ⟨y,h,e⟩:=TS.mem c;rw[<-e];rcases List.mem_append.1 h with k|k
  ·exact d.wide y k
  ·exact f.wide y k
theorem qE {a b c:List Zit} (k:am a=0) (l:am b=0) (m:am c=0) (h:∀r,wt c r=wt a r+wt b r):bi a b=0/\aZ a b=c:=by
 have f:=(aQ c).1 m;have d:bQ (a++b)=c:=(bk _).uniq (⟨f.2.2,kS f.2.1,fun _=>rfl⟩:IsTot c c) fun r=>by rw[cC,h]
 have j:da (a++b)=0:=by unfold da;rw[d,if_pos];rw[List.all_eq_true];intro x n;exact (bg (f.2.1 x n)).2.1
 have g:bi a b=0:=by unfold bi;rw[if_pos k,if_pos l,if_pos j,if_neg (by rw[d];omega)]
 exact ⟨g,by unfold aZ;rw[if_pos g,d]⟩
theorem mT {a b:List Zit} (d:TS a) (c:TS b):bi a (i7 b)=0/\aZ a (i7 b)=bD a b:=by
 have e:i7 b=cW b:=by unfold i7;rw[if_pos c.ok];rfl
 rw[e];refine qE d.ok (sj c.ok) (gH d c).1 fun r=> ?_;rw[lz];unfold cW;rw[xQ];omega
theorem l6 {k z d:List Zit} (f:TS k) (g:TS z) (c:TS d):bi (bD z k) (bD d z)=0/\aZ (bD z k) (bD d z)=bD d k :=
 qE (gH g f).1 (gH c g).1 (gH c f).1 fun r=>by rw[lz,lz,lz];omega
theorem g8 {k z:List Zit} (c:TS k) (d:TS z):bi k (bD z k)=0/\aZ k (bD z k)=z :=
 qE c.ok (gH d c).1 d.ok fun r=>by rw[lz];omega
theorem pq (z:List Zit):bD z z=[]:=by have h:=bk (z++cW z);refine h.uniq (m:=[]) (T:=[]) ⟨List.Pairwise.nil,fun x c=>(by cases c),fun r=>rfl⟩ fun r=> ?_;rw[gW];show _=0;omega
theorem pp {z:List Zit} (h:am z=0):bD z []=z:=by unfold bD cW;rw[List.map_nil,List.append_nil];exact xH h
theorem re {q:List Stp} {k l z y:List Zit} (c:TS k) (d:TS l) (g:TS z) (f:TS y):iM q k l (bD z k) (bD y l)=ct q z y:=by unfold iM;rw[if_pos (zd (gH g c).1 (gH f d).1 (gH g c).2 (gH f d).2),if_pos (g8 c g).1,if_pos (g8 d f).1,(g8 c g).2,(g8 d f).2]
end Go.Proofs.YtbkjgjjpnfhkhaaGreatDoor

namespace Go.Proofs.YtbkjgjjpnfhkhaaGreatDoor
open Go.RowKit Go.Sort Go.Maps

def Aq (N:Nat) (s:Sl):Prop:=(∀a,s.A=some a->a.block<N)/\∀x∈s.l,∀a,x.p=some a->a.block<N
def Be (ss:List Sl):Prop:=∀s0 t,ss=s0::t->∃N,Aq N s0/\∀s∈t,eR N s.A s.l
structure AInv (w wr:Y) (a b:List Zit) (q:List Stp) (j:Nat) (u:Value) (ss:List Sl) (S:List (List Zit)) (ah:List Int):Prop where
 own:ae dW 1 59 wr w.heap.size u ss
 each:∀s∈ss,Lv wr s.A s.cap s.l/\Far u.ownBlock s
 z:ss.map (fun s=>s.l.map Itm.z)=S
 len:ss.length=j
 ahd:Ahd S ah
 wid:(bT (q.drop j) ah).isSome=true
 e:g9 a b (q.drop j) S=g9 a b q []
 f:gB a b (q.drop j) S=gB a b q []
 bel:jb2 w wr
 nw:∀s∈ss,NwT wr s.cap w.heap.size s.A s.l
 sep:∀s0 t,ss=s0::t->∃N,N<=wr.heap.size/\Aq N s0/\∀s∈t,eR N s.A s.l

theorem NwT.grown {w w':Y} {k n:Nat} {C:Option X} {L:List Itm} {row:Option Nat} (h:NwT w k n C L) (q:w.grownBy w' row) (d:∀g,row=some g->∃c j,w.heap[g]? = some (H c j (0,0))/\j≠3) (f:∀g,row=some g->∃c j,w.heap[g]? = some (H c j (0,0))/\j≠101):NwT w' k n C L:=⟨h.new,h.arr.grown q f,h.rows.grown q d⟩
theorem AInv.step {w wr WX m w3:Y} {a b:List Zit} {q:List Stp} {j:Nat} {u v3:Value} {ss:List Sl} {S:List (List Zit)} {ah:List Int} {s:Stp} {L:List Itm} {C:Option X} {k:Nat} {o:Obj} (h:AInv w wr a b q j u ss S ah) (hs:q.drop j=s::q.drop (j+1)) (ha:cQ 4 a) (hb:cQ 4 b) (hT:aK s a b S=0) (d:Gr wr WX) (hz:L.map Itm.z=aJ s a b S) (hL:Lv m C k L) (hB:jb2 WX m) (hN:NwT m k WX.heap.size C L)
  (ap:ae dW 1 59 w3 w.heap.size v3 (ss++[⟨C,k,L⟩])) (hg:(m.alloc o).grownBy w3 u.ownBlock) (an:v3.ownBlock=u.ownBlock\/v3.ownBlock=some (m.alloc o).heap.size):AInv w w3 a b q (j+1) v3 (ss++[⟨C,k,L⟩]) (S++[aJ s a b S]) (ah++[aB s ah]):=by
 have hw:=fB (by rw[<-hs];exact h.wid);have hr:=jc hw.1 h.ahd ha hb hT;have D:Gr m (m.alloc o):=(gR _).alloc _;have c:jb2 wr (m.alloc o):=d.below.trans ((hB.trans (D.below.mono hB.size)).mono d.size);have ao:∀g,u.ownBlock=some g->g<wr.heap.size/\w.heap.size<=g:=fun g e=>⟨(World.ownsRow.lt h.own g e).2,(World.ownsRow.lt h.own g e).1⟩;have F:∀(x:Sl),Lv (m.alloc o) x.A x.cap x.l->Far u.ownBlock x->Far v3.ownBlock x:=fun x hx hf=>by
  rcases an with e|e
  ·rw[e];exact hf
  ·rw[e];exact Far.top hx (nR _)
 have he:g9 a b (q.drop j) S=g9 a b (q.drop (j+1)) (S++[aJ s a b S]):=by rw[hs];show (if aK s a b S=0 then _ else _)=_;rw[if_pos hT]
 have hf:gB a b (q.drop j) S=gB a b (q.drop (j+1)) (S++[aJ s a b S]):=by rw[hs];show (if aK s a b S=0 then _ else _)=_;rw[if_pos hT]
 refine ⟨ap,fun x hx=> ?_,by rw[List.map_append,h.z];simp[hz],by simp[h.len],h.ahd.snoc hr.1 hr.2,hw.2,by rw[<-he];exact h.e,by rw[<-hf];exact h.f,?_,?_,?_⟩
 ·rcases List.mem_append.1 hx with e|e
  ·have R:=h.each x e;have E:=R.1.below c;exact ⟨E.grown hg R.2,F x E R.2⟩
  ·rw[List.mem_singleton.1 e];have E:Lv (m.alloc o) C k L:=hL.gr D;have ak:Far u.ownBlock ⟨C,k,L⟩:=Far.new (n:=WX.heap.size) hN.new (fun g e2=>nL (ao g e2).1 d.size);exact ⟨Lv.grown (s:=⟨C,k,L⟩) E hg ak,F ⟨C,k,L⟩ E ak⟩
 ·exact (h.bel.trans (c.mono h.bel.size)).grown hg (nT h.bel.size c.size) (fun g e=>(ao g e).2)
 ·intro x hx;have ho:=h.own.below c;rcases List.mem_append.1 hx with e|e
  ·exact ((h.nw x e).below c).grown hg (ho.typed (by decide)) (ho.typed (by decide))
  ·rw[List.mem_singleton.1 e];exact ((hN.mono (nT h.bel.size d.size)).below D.below).grown hg (ho.typed (by decide)) (ho.typed (by decide))
 ·intro s0 t aL;have ho:=h.own.below c;have a2:wr.heap.size<=w3.heap.size:=nT c.size hg.size;cases ss with
  | nil =>have R:s0=⟨C,k,L⟩/\t=[]:=(by simpa using aL.symm);obtain ⟨rfl,rfl⟩:=R;have E:=(hN.below D.below).grown hg (ho.typed (by decide)) (ho.typed (by decide));exact ⟨w3.heap.size,nR _,⟨E.arr.lt,fun x hx=>(E.rows x hx).1.lt⟩,fun s hs=>by cases hs⟩
  | cons y r =>
   have R:y=s0/\r++[⟨C,k,L⟩]=t:=(by simpa using aL);obtain ⟨rfl,rfl⟩:=R;obtain ⟨N,ad,a0,a1⟩:=h.sep y r rfl;refine ⟨N,nT ad a2,a0,fun s hs=> ?_⟩;rcases List.mem_append.1 hs with e|e
   ·exact a1 s e
   ·rw[List.mem_singleton.1 e];exact hN.new.mono (nT ad d.size)
theorem kV {W:Y} {n:Nat} (d:W.heap.size=n) (x:Sl) (T:TypeId):aC dW 1 (W.alloc (H #[I x.A x.l.length x.cap] T)) (jb4 n 0) [x]:=by
 subst d;refine oR ⟨W.heap.size,0,rfl,by simp,fun j c i hi=> ?_⟩;obtain rfl:j=0:=by simp at c;omega
 obtain rfl:i=0:=by omega
 exact ab (w:=W) (gR _) (j:=0) rfl

structure NewS (w:Y) (n:Nat) (C:Option X) (k:Nat) (ss:List Sl):Prop where
 own:ae dW 1 59 w n (I C ss.length k) ss
 each:∀s∈ss,NwT w s.cap n s.A s.l
 sep:Be ss
theorem NewS.none (w:Y) (n:Nat):NewS w n none 0 []:=⟨ae.nil _ _ _ _ _,fun s c=>(by cases c),fun d t h=>by cases h⟩

theorem xT (q:List Stp) (QA:Option X) (cq:Nat) (a b:List Itm) (A B:Option X) (ca cb:Nat) (w:Y) (hl:q.length<=maxLen) (hq:Stps w QA q) (ha:Lv w A ca a) (hb:Lv w B cb b) :
  Calls Tryz.prog 130 #[I QA q.length cq,I A a.length ca,I B b.length cb] w fun e w'=>∃(ss:List Sl) (C:Option X) (k:Nat),e= .returned (.tuple #[I C ss.length k,J O (ct q (a.map Itm.z) (b.map Itm.z))])/\Sts w' C ss (eu q (a.map Itm.z) (b.map Itm.z))/\jb2 w w'/\NewS w' w.heap.size C k ss:=by
 obtain ⟨E1,bh⟩:=jb0 (bX q);obtain ⟨E2,bC⟩:=jb0 (gU (a.map Itm.z) (b.map Itm.z));have a0:=om (A:=QA) (ca:=cq) bh hl hq;have hC:Z _:=a0;obtain ⟨P,hP⟩:=jb0 (ct q (a.map Itm.z) (b.map Itm.z));rw[hP];have hH:=ja6 hq ha hb bh hP bC;go_enter Tryz.func130,Tryz.ntmps130;go_wp2_with fail;refine ja0 hC ?_;rintro e w0 ⟨rfl,a4⟩;have ak:=ja4 a4 (hH.out.1.below a4) (hH.out.2.1.below a4) (hH.out.2.2.1.below a4);cases h0:(E1 != 0);rotate_left;focus
  have d:Z (E1=P/\eu q (a.map Itm.z) (b.map Itm.z)=[]):=by
   have hn:¬E1=0:=(by simpa using h0);have hp:P=E1:=by rw[<-hH.out.2.2.2.2.1];unfold ct;rw[jd,if_neg (show ¬bX q=0 by rw[hH.out.2.2.2.1];exact hn),if_neg (show ¬bX q=0 by rw[hH.out.2.2.2.1];exact hn)];exact hH.out.2.2.2.1
   refine ⟨hp.symm,?_⟩;unfold eu;rw[if_neg (by rw[hH.out.2.2.2.2.1,hp];exact hn)]
  go_wp2;go_ret2;exact ⟨[],none,0,by rw[<-d.out.1];rfl,⟨oL rfl,fun s F=>(by cases F),by rw[d.out.2];rfl⟩,ak.out.1,NewS.none _ _⟩
 have a7:Z (bX q=0):=by show _=_;rw[hH.out.2.2.2.1];simpa using h0
 have an:=jb a b A B ca cb w0 ak.out.2.2.1 ak.out.2.2.2;rw[hH.out.2.2.2.2.2] at an;have hT:Z _:=an;go_wp2_with fail;refine ja0 hT ?_;rintro e m ⟨rfl,a5⟩;have aL:=ja4 (ak.out.1.trans (a5.below.mono ak.out.1.size)) (ak.out.2.1.gr a5) (ak.out.2.2.1.gr a5) (ak.out.2.2.2.gr a5);cases h1:(E2 != 0)
 ·have ba:ff q (a.map Itm.z) (b.map Itm.z)=0:=by rw[jd,if_pos a7.out,hH.out.2.2.2.2.2];simpa using h1
  have hQ:Z (ff q (a.map Itm.z) (b.map Itm.z)=0/\P=g9 (a.map Itm.z) (b.map Itm.z) q []):=⟨ba,by rw[<-hH.out.2.2.2.2.1];unfold ct;rw[if_pos ba]⟩;have h8:q.length<=8:=(dO (aT ba).1).2.1;obtain ⟨w1,g⟩:=jb0 (m.alloc (H #[I A a.length ca,I B b.length cb] 64));have r:Z (Gr m w1):=by show Gr _ _;rw[<-g];exact (gR _).alloc _
  have s0:jb1 w1 m.heap.size 0 (I A a.length ca):=by rw[<-g];exact ab (w:=m) (gR _) rfl
  have s1:jb1 w1 m.heap.size 1 (I B b.length cb):=by rw[<-g];exact ab (w:=m) (gR _) rfl
  have a9:m.heap.size<w1.heap.size:=by rw[<-g];simp
  have R:=ja4 (aL.out.1.trans (r.out.below.mono aL.out.1.size)) (aL.out.2.1.gr r.out) (aL.out.2.2.1.gr r.out) (aL.out.2.2.2.gr r.out);go_wp2;go_loopw [11,32] (fun u i wr=>∃(j:Nat) (ss:List Sl) (S:List (List Zit)) (ah:List Int),j<=q.length/\i= J O j/\Z (AInv w1 wr (a.map Itm.z) (b.map Itm.z) q j u ss S ah)) (fun _ i _=>q.length-(intOf i).toNat);exact ⟨0,[],[],[],nZ _,rfl,show AInv _ _ _ _ _ _ _ _ _ _ from ⟨ae.nil _ _ _ _ _,fun s F=>(by cases F),rfl,rfl,Ahd.nil,by rw[List.drop_zero];exact (dO (aT hQ.out.1).1).2.2,by rw[List.drop_zero],by rw[List.drop_zero],bR _ _,fun s F=>(by cases F),fun s0 t h=>(by cases h)⟩⟩;obtain ⟨j,ss,S,ah,hj,rfl,D⟩:=hrel;obtain ⟨GA,gc,hu,b0,bv,_⟩:=D.out.own.row jk;have a8:=ja1 bv;subst hu;by_cases be:j<q.length
  ·have bt:(j:Int)<(q.length:Int):=(by omega);have hI:=ja1 (R.out.2.1.below D.out.bel);obtain ⟨bb,ap,rfl,hb,ad⟩:=hI.out.at be;obtain ⟨s,F⟩:=jb0 (q[j]);have bN:Z (s∈q):=by show _∈_;rw[<-F];exact gM be
   have bd:Z (q.drop j=s::q.drop (j+1)):=(by show _=_;rw[<-F];exact List.drop_eq_getElem_cons be);rw[F] at ad;have m0:jb1 wr bb (ap+j*7) (J O s.k):=ad 0 (by omega);have m1:jb1 wr bb (ap+j*7+1) (J O s.a):=ad 1 (by omega);have m2:jb1 wr bb (ap+j*7+2) (J O s.b):=ad 2 (by omega);have m3:jb1 wr bb (ap+j*7+3) (J O s.c):=ad 3 (by omega);have m4:jb1 wr bb (ap+j*7+4) (J O s.o):=ad 4 (by omega);have m5:jb1 wr bb (ap+j*7+5) (J O s.v):=ad 5 (by omega);have m6:jb1 wr bb (ap+j*7+6) (I s.p s.l.length s.n):=ad 6 (by omega);have hw:=fB (by rw[<-bd.out];exact D.out.wid);obtain ⟨WX,g⟩:=jb0 (wr.alloc (H (ja8 s) 132));have r:Z (Gr wr WX):=by show Gr _ _;rw[<-g];exact (gR _).alloc _
   have ao:=ja1 (D.out.bel.trans (r.out.below.mono D.out.bel.size));obtain ⟨b1,hT⟩:=jb0 (aK s (a.map Itm.z) (b.map Itm.z) S);have a0:=Bc (sc:=gc) hw.1 D.out.ahd (Sts.gr ⟨a8.out,fun s F=>(D.out.each s F).1,D.out.z⟩ r.out) (R.out.2.2.1.below ao.out) (R.out.2.2.2.below ao.out) ((hI.out.each s bN.out).1.gr r.out);rw[hT] at a0;have hC:Z _:=a0;have bc:=ja1 hT;have x0:jb1 WX wr.heap.size 0 (J O s.k):=by rw[<-g];exact ab (w:=wr) (gR _) rfl
   have x1:jb1 WX wr.heap.size 1 (J O s.a):=(by rw[<-g];exact ab (w:=wr) (gR _) rfl);have x2:jb1 WX wr.heap.size 2 (J O s.b):=by rw[<-g];exact ab (w:=wr) (gR _) rfl
   have x3:jb1 WX wr.heap.size 3 (J O s.c):=(by rw[<-g];exact ab (w:=wr) (gR _) rfl);have x4:jb1 WX wr.heap.size 4 (J O s.o):=by rw[<-g];exact ab (w:=wr) (gR _) rfl
   have x5:jb1 WX wr.heap.size 5 (J O s.v):=(by rw[<-g];exact ab (w:=wr) (gR _) rfl);have x6:jb1 WX wr.heap.size 6 (I s.p s.l.length s.n):=by rw[<-g];exact ab (w:=wr) (gR _) rfl
   have z0:jb1 WX m.heap.size 0 (I A a.length ca):=(ao.out.cell (p:=(jb5 m.heap.size 0)) a9).trans s0;have z1:jb1 WX m.heap.size 1 (I B b.length cb):=(ao.out.cell (p:=(jb5 m.heap.size 1)) a9).trans s1;clear a0 ad F hw hT;cases hq:(b1 != 0)
   ·have an:Z (aK s (a.map Itm.z) (b.map Itm.z) S=0):=(by show _=_;rw[bc.out];simpa using hq);have bs:=ja1 D.out.len;go_wp2_with (first|(go_at_call 156;(refine ja0 hC ?_);rintro e w2 ⟨L,C,k,rfl,h1,h2,h3,h4⟩;have a3:Z (L.map Itm.z=aJ s (a.map Itm.z) (b.map Itm.z) S/\Lv w2 C k L/\jb2 WX w2/\NwT w2 k WX.heap.size C L):=⟨h1,h2,h3,h4⟩;have a6:Z (ae dW 1 59 (w2.alloc (H #[I C L.length k] 59)) w1.heap.size (I GA ss.length gc) ss/\ss.length+1<=maxLen/\(ss.length+1)*24<=140737488355328/\w1.heap.size<=(w2.alloc (H #[I C L.length k] 59)).heap.size):=⟨((D.out.own.gr r.out).below h3).gr ((gR _).alloc _),by have:=bs.out;unfold maxLen;omega,by have:=bs.out;omega,nT ao.out.size (nT h3.size (by simp))⟩;clear h1 h2 h3 h4)|(at_builtin;refine dZ _ rfl (.tmp 46) (.tmp 48) rfl w1.heap.size (I GA ss.length gc) ss ⟨C,k,L⟩ (jb5 w2.heap.size 0) 1 rfl rfl a6.out.1 (kV rfl ⟨C,k,L⟩ _) a6.out.2.1 a6.out.2.2.1 a6.out.2.2.2 ?_;intro v3 w3 a2 bp a1)|fail);have d:=ja1 (D.out.step bd.out (aT hQ.out.1).2.2.2.1 (aT hQ.out.1).2.2.2.2 an.out r.out a3.out.1 a3.out.2.1 a3.out.2.2.1 a3.out.2.2.2 a2 bp a1);clear a2 bp a1;go_roundw;exact ⟨j+1,ss++[(⟨C,k,L⟩:Sl)],S++[aJ s (a.map Itm.z) (b.map Itm.z) S],ah++[aB s ah],by omega,by go_num,d⟩;simp[intOf];omega
   ·have an:Z (P=b1/\eu q (a.map Itm.z) (b.map Itm.z)=[]):=by
     have hn:¬b1=0:=(by simpa using hq);have hp:P=b1:=by rw[hQ.out.2,<-D.out.e,bd.out];show (if aK s (a.map Itm.z) (b.map Itm.z) S=0 then _ else _)=_;rw[if_neg (by rw[bc.out];exact hn),bc.out]
     refine ⟨hp,?_⟩;unfold eu;rw[if_neg (by rw[hH.out.2.2.2.2.1,hp];exact hn)]
    go_wp2_with (go_at_call 156;(refine ja0 hC ?_);rintro e w2 ⟨L,C,k,rfl,h1,h2,h3,h4⟩);go_ret2;exact ⟨[],none,0,by rw[an.out.1];rfl,⟨oL rfl,fun s F=>(by cases F),by rw[an.out.2];rfl⟩,R.out.1.trans ((ao.out.trans (h3.mono ao.out.size)).mono R.out.1.size),NewS.none _ _⟩
  ·have bt:¬(j:Int)<(q.length:Int):=(by omega);have bG:Z (NewS wr w.heap.size GA gc ss):=⟨D.out.own.mono R.out.1.size,fun s F=>(D.out.nw s F).mono R.out.1.size,fun s0 t h=>by obtain ⟨N,_,h2,h3⟩:=D.out.sep s0 t h;exact ⟨N,h2,h3⟩⟩
   have d:Z (P=0/\Sts wr GA ss (eu q (a.map Itm.z) (b.map Itm.z))/\jb2 w wr):=by
    have hd:q.drop j=[]:=List.drop_eq_nil_of_le (by omega);have he:=D.out.e;have hf:=D.out.f;rw[hd] at he hf;have bl:P=0:=by rw[hQ.out.2,<-he];rfl
    refine ⟨bl,⟨a8.out,fun s F=>(D.out.each s F).1,?_⟩,R.out.1.trans (D.out.bel.mono R.out.1.size)⟩;unfold eu;rw[if_pos (by rw[hH.out.2.2.2.2.1];exact bl),<-hf,D.out.z];rfl
   go_wp2;go_ret2;exact ⟨ss,GA,gc,by rw[d.out.1];rfl,d.out.2.1,d.out.2.2,bG.out⟩
 ·have d:Z (E2=P/\eu q (a.map Itm.z) (b.map Itm.z)=[]):=by
   have hn:¬E2=0:=(by simpa using h1);have bo:ff q (a.map Itm.z) (b.map Itm.z)=E2:=by rw[jd,if_pos a7.out];exact hH.out.2.2.2.2.2
   have hp:P=E2:=(by rw[<-hH.out.2.2.2.2.1];unfold ct;rw[if_neg (by rw[bo];exact hn)];exact bo);refine ⟨hp.symm,?_⟩;unfold eu;rw[if_neg (by rw[hH.out.2.2.2.2.1,hp];exact hn)]
  go_wp2;go_ret2;exact ⟨[],none,0,by rw[<-d.out.1];rfl,⟨oL rfl,fun s F=>(by cases F),by rw[d.out.2];rfl⟩,aL.out.1,NewS.none _ _⟩
end Go.Proofs.YtbkjgjjpnfhkhaaGreatDoor
