import Derived.Test.YtbkjgjjpnfhkhaaGreatDoorM22
import Derived.Test.YtbkjgjjpnfhkhaaGreatDoorM20
import Derived.Test.YtbkjgjjpnfhkhaaGreatDoorM21
set_option maxRecDepth 100000
set_option maxHeartbeats 8000000
open Go renaming World → H, Addr → U, Calls → P
open Go.IntKind renaming i64 → I
open Go.Obj renaming cells → J
open Go.RowKit renaming Hid → Z
open Go.Value renaming int → S, slice → O, tuple → Y, agg → L
namespace Go.Proofs.YtbkjgjjpnfhkhaaGreatDoor
open Go.RowKit Go.Sort

structure Can (c:Ctx):Prop where
 ck:aW c=true
 right:∀y∈c.l,ai y=true
 above:∀y∈c.l,clk c y.1+1<y.2
 rise:c.l.Pairwise fun x y=>bj x y=true

theorem xW (x:Int×Int):bj x x=false:=by simp[bj]
theorem sK {x y z:Int×Int} (h:bj x y=true) (k:bj y z=true):bj x z=true:=by rw[i8] at *;omega
theorem uJ {x y:Int×Int} (h:bj x y=true) (k:bj y x=true):x=y:=by rw[i8] at *;omega
theorem zP {x y:Int×Int} (h:leD x y) (k:x≠y):bj x y=true:=by
 rw[i8];rw[fJ] at h;by_cases c:x.1=y.1
 ·have:x.2≠y.2:=fun d=>k (Prod.ext c d);omega
 ·omega

theorem fo {c:Ctx} (h:aU c=0):Can c:=by
 have n:=aY h;have r:=fr h;refine ⟨n.1,r,?_,?_⟩
 ·intro y u;obtain ⟨j,f,rfl⟩:=List.getElem_of_mem u;have:=n.2.2 j f;cases j with
  | zero=>rw[dR f rfl] at this;simp at this;omega
  | succ m=>rw[cS f rfl rfl] at this;simp at this;omega
 ·have step:∀m (k:m+1<c.l.length),bj c.l[m] c.l[m+1]=true:=by intro m k;have:=n.2.2 (m+1) k;rw[cS k rfl rfl] at this;simp at this;exact this.1.2
  rw[List.pairwise_iff_getElem];intro i j hi f g;obtain ⟨d,rfl⟩:∃d,j=i+d+1:=⟨j-i-1,by omega⟩;clear g;induction d with
  | zero=>exact step i f
  | succ d ih=>exact sK (ih (by omega)) (step (i+d+1) f)

theorem lH {c:Ctx} (h:Can c) (j:c.l.length<=400):aU c=0:=by
 refine ow h.ck j fun k d=> ?_;have f:=h.right _ (gM d);have n:=h.above _ (gM d);cases k with
 | zero=>rw[dR d rfl,f];simp;omega
 | succ m =>have g:=(List.pairwise_iff_getElem.1 h.rise) m (m+1) (by omega) d (by omega);rw[cS d rfl rfl,f,g];simp;omega

theorem nf {c d:Ctx} (l:Can c) (j:Can d) (h:∀x,ax c x=true->ax d x=true) (n:Int) (f:0<=n) (g:n<4):clk c n<=clk d n:=by
 have r:=bF l.ck n f g;have m:=bF j.ck n f g;rcases Int.lt_or_le (clk d n) (clk c n) with hlt|hle
 ·have k:ax c (n,clk d n+1)=true:=(cg _ _).2 (oR ⟨f,by show n<=3;omega,by show 1<=clk d n+1;omega,by show clk d n+1<=clk c n;omega⟩);rcases (cg _ _).1 (h _ k) with hm|hm
  ·have:clk d n+1<clk d n+1:=j.above _ hm;omega
  ·have:clk d n+1<=clk d n:=hm.2.2.2;omega
 ·exact hle

theorem zQ {c d:Ctx} (f:Can c) (j:Can d) (h:∀x,ax c x=true↔ax d x=true):c=d:=by
 have g:∀n,0<=n->n<4->clk c n=clk d n:=fun n r u=>Int.le_antisymm (nf f j (fun x=>(h x).1) n r u) (nf j f (fun x=>(h x).2) n r u);have k:∀ {c d:Ctx},Can c->Can d->(∀x,ax c x=true↔ax d x=true)->(∀n,0<=n->n<4->clk c n=clk d n)->∀x∈c.l,x∈d.l:=by
  intro c d f j h g x hx;have C:=(h x).1 ((cg c x).2 (oL hx));rcases (cg d x).1 C with k|k
  ·exact k
  ·have:=f.above x hx;have:=g x.1 k.1 (by omega);omega
 have hl:c.l=d.l:=by
  refine List.Perm.eq_of_pairwise (fun a b _ _ C h2=>uJ C h2) f.rise j.rise ?_;have nd:∀ {c:Ctx},Can c->c.l.Nodup:=fun f=>f.rise.imp fun m e=>by rw[e,xW] at m;cases m
  exact (List.perm_ext_iff_of_nodup (nd f) (nd j)).2 fun x=>⟨k f j h g x,k j f (fun x=>(h x).symm) (fun n r u=>(g n r u).symm) x⟩
 have D:=g 0 (by omega) (by omega);have E:=g 1 (by omega) (by omega);have F:=g 2 (by omega) (by omega);have R:=g 3 (by omega) (by omega);simp[clk] at D E F R;obtain ⟨c0,c1,c2,c3,cl⟩:=c;obtain ⟨d0,d1,d2,d3,dl⟩:=d;simp only at D E F R hl;subst D E F R hl;rfl

theorem th {c:Ctx} {x:Int×Int} (m:ai x=true) (z:Int×Int):ax (bx c x) z=true↔ax c z=true\/z=x:=by
 have d:=dr m;unfold bx;by_cases g:ax c x=true
 ·rw[if_pos g];constructor
  ·exact oL
  ·rintro (h|rfl)
   ·exact h
   ·exact g
 ·rw[if_neg g];by_cases k:x.2=clk c x.1+1
  ·rw[if_pos k,cg,cg,dX];constructor
   ·rintro (h|h)
    ·exact oL (oL h)
    ·rw[dI c x.1 x.2 z.1 d.1 d.2.1 h.1 (by omega)] at h;by_cases f:z.1=x.1
     ·rw[if_pos f] at h;by_cases j:z.2=x.2
      ·exact oR (Prod.ext f j)
      ·exact oL (oR ⟨h.1,h.2.1,h.2.2.1,by rw[f];omega⟩)
     ·rw[if_neg f] at h;exact oL (oR h)
   ·rintro ((h|h)|rfl)
    ·exact oL h
    ·refine oR ⟨h.1,h.2.1,h.2.2.1,?_⟩;rw[dI c x.1 x.2 z.1 d.1 d.2.1 h.1 (by omega)];by_cases f:z.1=x.1
     ·rw[if_pos f];have:=h.2.2.2;rw[f] at this;omega
     ·rw[if_neg f];exact h.2.2.2
    ·refine oR ⟨d.1,by omega,d.2.2.1,?_⟩;rw[dI c z.1 z.2 z.1 d.1 d.2.1 d.1 d.2.1,if_pos rfl];exact Int.le_refl _
  ·rw[if_neg k,cg,cg];show (z∈c.l++[x]\/_)↔_;rw[List.mem_append];constructor
   ·rintro ((h|h)|h)
    ·exact oL (oL h)
    ·exact oR (by simpa using h)
    ·exact oL (oR h)
   ·rintro ((h|h)|h)
    ·exact oL (oL h)
    ·exact oR h
    ·exact oL (oR (by simp[h]))

theorem vD (l:List (Int×Int)):∀(c:Ctx),(∀x∈l,ai x=true)->∀z,ax (l.foldl bx c) z=true↔ax c z=true\/z∈l:=by
 induction l with
 | nil=>intro c _ z;simp
 | cons x l ih =>
  intro c d z
  show ax (l.foldl bx (bx c x)) z=true↔_
  rw[ih (bx c x) (fun y f=>d y (List.mem_cons_of_mem _ f)) z,th (d x (List.mem_cons_self ..)),List.mem_cons]
  constructor
  ·rintro ((h|h)|h)
   ·exact oL h
   ·exact oR (oL h)
   ·exact oR (oR h)
  ·rintro (h|h|h)
   ·exact oL (oL h)
   ·exact oL (oR h)
   ·exact oR h

theorem sL {c:Ctx} {p:Option (Int×Int)} {x:Int×Int} {r:List (Int×Int)} (g:Can c) (h:Mid c p (x::r)) (C:ai x=true) (F:∀y∈r,leD x y):Can (bx c x):=by
 have u:=lX h C F;have n:∀y∈c.l,leD y x:=fun y d=>by obtain ⟨q,E,D⟩:=h.last y d;exact iH D (h.rest q E x (mS ..))
 have f:=u.2;rw[<-u.1] at f;have m:aW (bx c x)=true:=by rw[u.1];exact qw g.ck C
 refine ⟨m,?_,f.above,?_⟩
 ·unfold bx;by_cases j:ax c x=true
  ·rw[if_pos j];exact g.right
  ·rw[if_neg j];by_cases k:x.2=clk c x.1+1
   ·rw[if_pos k,dX];exact g.right
   ·rw[if_neg k];intro y d;rcases List.mem_append.1 d with d|d
    ·exact g.right y d
    ·obtain rfl:y=x:=(by simpa using d);exact C
 ·unfold bx;by_cases j:ax c x=true
  ·rw[if_pos j];exact g.rise
  ·rw[if_neg j];by_cases k:x.2=clk c x.1+1
   ·rw[if_pos k,dX];exact g.rise
   ·rw[if_neg k];refine List.pairwise_append.2 ⟨g.rise,List.pairwise_singleton _ _,?_⟩;intro y d z R;obtain rfl:z=x:=by simpa using R
    exact zP (n y d) fun e=>j ((cg _ _).2 (oL (by rw[<-e];exact d)))

theorem uL (l:List (Int×Int)):∀(c:Ctx) (p:Option (Int×Int)),Can c->Mid c p l->l.Pairwise leD->(∀x∈l,ai x=true)->Can (l.foldl bx c):=by
 induction l with
 | nil=>intro c p f _ _ _;exact f
 | cons x l ih =>
  intro c p f h m j
  have g:=List.pairwise_cons.1 m
  have k:=lX h (j x (mS ..)) g.1
  have d:=k.2
  rw[<-k.1] at d
  exact ih (bx c x) (some x) (sL f h (j x (mS ..)) g.1) d g.2 (fun y n=>j y (mC _ n))

theorem uM {c:Ctx} (f:c.l=[]) (g:aW c=true):Can c :=
 ⟨g,(fun y d=>by rw[f] at d;cases d),(fun y d=>by rw[f] at d;cases d),by rw[f];exact List.Pairwise.nil⟩

theorem gl {c:Ctx} (d:c.l=[]) (g:aW c=true) {l:List (Int×Int)} (f:∀x∈l,ai x=true):Can (eh c l):=by rw[ii d f];exact uL (srt l) c none (uM d g) (nC d _) (ja l) (fun x h=>f x (jx h))
theorem iF {c:Ctx} (f:c.l=[]) {l:List (Int×Int)} (d:∀x∈l,ai x=true) (z:Int×Int):ax (eh c l) z=true↔ax c z=true\/z∈l:=by rw[ii f d,vD (srt l) c (fun x g=>d x (jx g)) z,(qv l).mem_iff]

theorem jJ {a b:Ctx} (c:Can a) (d:Can b):Can (gX a b) :=
 gl rfl (lT c.ck d.ck) fun x f=>by
  rcases List.mem_append.1 f with h|h
  ·exact c.right x h
  ·exact d.right x h
theorem nA {a b:Ctx} (d:Can a) (f:Can b) (z:Int×Int):ax (gX a b) z=true↔ax a z=true\/ax b z=true:=by
 unfold gX
 rw[iF rfl (fun x g=>by
  rcases List.mem_append.1 g with h|h
  ·exact d.right x h
  ·exact f.right x h) z,List.mem_append]
 have j:ax (iQ a b) z=true↔0<=z.1/\z.1<=3/\1<=z.2/\z.2<=max (clk a z.1) (clk b z.1):=by
  rw[cg,mZ];constructor
  ·rintro (h|h)
   ·cases h
   ·exact h
  ·exact oR
 rw[j,cg,cg];constructor
 ·rintro (h|h|h)
  ·by_cases c:z.2<=clk a z.1
   ·exact oL (oR ⟨h.1,h.2.1,h.2.2.1,c⟩)
   ·exact oR (oR ⟨h.1,h.2.1,h.2.2.1,by omega⟩)
  ·exact oL (oL h)
  ·exact oR (oL h)
 ·rintro ((h|h)|(h|h))
  ·exact oR (oL h)
  ·exact oL ⟨h.1,h.2.1,h.2.2.1,by omega⟩
  ·exact oR (oR h)
  ·exact oL ⟨h.1,h.2.1,h.2.2.1,by omega⟩

theorem jo {a b:Ctx} (h:aI a b=0):Can a/\Can b/\eH a b=0/\aO a b=gX a b/\(gX a b).l.length<=400:=by
 have c:eH a b=0:=by
  unfold aI at h;by_cases c:eH a b=0
  ·exact c
  ·rw[if_neg c] at h;exact absurd h c
 have d:(gX a b).l.length<=400:=by
  unfold aI at h;rw[if_pos c] at h;by_cases d:400<(gX a b).l.length
  ·rw[if_pos d] at h;cases h
  ·omega
 exact ⟨fo (kJ c).1,fo (kJ c).2,c,by simp[aO,h],d⟩
section
open Go.Shelf Go.Lib

def fe (b:Tab) (x:Cel):Bool:=bY b.e x.1 || !ax b.c x.1
def eC (a:Tab) (x:Cel):Bool:= !ax a.c x.1
def gd (a b:Tab):List Cel:=a.e.filter (fe b)++b.e.filter (eC a)
def mrg (a b:Tab):List Cel:=f9 (gd a b)

theorem ig {t:Tab} (h:ay t=0) {x:Cel} (k:x∈t.e):ax t.c x.1=true:=by
 obtain ⟨j,f,rfl⟩:=List.getElem_of_mem k;have d:=(af h).2.2 j f;have g:t.e.getD j ((0,0),0,0,0)=t.e[j]:=by simp[f]
 unfold dE at d;rw[g] at d;simp only[Bool.and_eq_true] at d;exact d.1.1
theorem fs {t:Tab} (h:ay t=0):Asc t.e:=by
 have n:=(af h).2.2;have step:∀j (c:j+1<t.e.length),bj (t.e[j]'(by omega)).1 t.e[j+1].1=true:=by intro j c;have g:=n (j+1) c;rw[co c rfl rfl] at g;simp only[Bool.and_eq_true] at g;exact g.2
 have f:∀d i (hi:i+d+1<t.e.length),bj (t.e[i]'(by omega)).1 (t.e[i+d+1]'hi).1=true:=by
  intro d;induction d with
  | zero=>intro i hi;exact step i hi
  | succ d ih =>intro i hi;have k:=ih i (by omega);have l:=step (i+d+1) (by omega);exact gC k l
 unfold Asc;rw[List.pairwise_iff_getElem];intro i j hi c m;have:=f (j-i-1) i (by omega);have e:i+(j-i-1)+1=j:=by omega
 simp only[e] at this;exact this
theorem iz {l:List Cel} (h:Asc l):(l.map (·.1)).Nodup:=by unfold List.Nodup;rw[List.pairwise_map];exact h.imp fun h=>iA h
theorem m9 {l:List Cel} (h:(l.map (·.1)).Nodup):mR l:=by
 intro x d y f e;obtain ⟨i,hi,rfl⟩:=List.getElem_of_mem d;obtain ⟨j,c,rfl⟩:=List.getElem_of_mem f;unfold List.Nodup at h;rw[List.pairwise_map] at h;rcases Nat.lt_trichotomy i j with h1|h1|h1
 ·exact absurd e ((List.pairwise_iff_getElem.1 h) i j hi c h1)
 ·subst h1;rfl
 ·exact absurd e.symm ((List.pairwise_iff_getElem.1 h) j i c hi h1)
theorem li {a b:Tab} (g:ay a=0) (j:ay b=0):((gd a b).map (·.1)).Nodup:=by
 unfold gd;rw[List.map_append,List.nodup_append];refine ⟨?_,?_,?_⟩
 ·exact (iz (fs g)).sublist (List.filter_sublist.map _)
 ·exact (iz (fs j)).sublist (List.filter_sublist.map _)
 ·intro d k n f e;subst e;obtain ⟨x,l,rfl⟩:=List.mem_map.1 k;obtain ⟨y,m,e⟩:=List.mem_map.1 f;have h:=ig g (List.mem_filter.1 l).1;have c:=(List.mem_filter.1 m).2;unfold eC at c;rw[e,h] at c;cases c
theorem si {a b:Tab} (c:ay a=0) (d:ay b=0):Asc (mrg a b):=qu (li c d)
theorem ph (a b:Tab):(gd a b).length<=a.e.length+b.e.length:=by unfold gd;rw[List.length_append];have:=List.length_filter_le (fe b) a.e;have:=List.length_filter_le (eC a) b.e;omega

theorem lW (a b:Tab) (A B C D:Option U) (ca cb cc cd:Nat) (w:H) (ha:ay a=0) (hb:ay b=0) (d6:Row w A a.c.l) (d7:Row w B b.c.l) (d8:av w C a.e) (d9:av w D b.e) :
  P Tryz.prog 49 #[L (T6 a A ca C cc).toArray,L (T6 b B cb D cd).toArray] w fun e w'=>∃E ce,e= .returned (O E (mrg a b).length ce)/\av w' E (mrg a b)/\(E=none->ce=0)/\(∀x,E=some x->w.heap.size<=x.block)/\jb2 w w':=by
 have ao:Gr w ((w.alloc (J #[S I a.c.c0,S I a.c.c1,S I a.c.c2,S I a.c.c3,O A a.c.l.length ca,O C a.e.length cc] 35)).alloc (J #[S I b.c.c0,S I b.c.c1,S I b.c.c2,S I b.c.c3,O B b.c.l.length cb,O D b.e.length cd] 35)):=((gR _).alloc _).alloc _;have bh:TabAt ((w.alloc (J #[S I a.c.c0,S I a.c.c1,S I a.c.c2,S I a.c.c3,O A a.c.l.length ca,O C a.e.length cc] 35)).alloc (J #[S I b.c.c0,S I b.c.c1,S I b.c.c2,S I b.c.c3,O B b.c.l.length cb,O D b.e.length cd] 35)) w.heap.size a A ca C cc:=(TabAt.new 35 d6 d8 rfl).gr ((gR _).alloc _);have bs:TabAt ((w.alloc (J #[S I a.c.c0,S I a.c.c1,S I a.c.c2,S I a.c.c3,O A a.c.l.length ca,O C a.e.length cc] 35)).alloc (J #[S I b.c.c0,S I b.c.c1,S I b.c.c2,S I b.c.c3,O B b.c.l.length cb,O D b.e.length cd] 35)) (w.heap.size+1) b B cb D cd:=TabAt.new 35 (d7.gr ((gR _).alloc _)) (d9.gr ((gR _).alloc _)) (by simp);have aL:jb2 w ((w.alloc (J #[S I a.c.c0,S I a.c.c1,S I a.c.c2,S I a.c.c3,O A a.c.l.length ca,O C a.e.length cc] 35)).alloc (J #[S I b.c.c0,S I b.c.c1,S I b.c.c2,S I b.c.c3,O B b.c.l.length cb,O D b.e.length cd] 35)):=ao.below;have cr:a.e.length<=400:=(af ha).2.1;have d3:b.e.length<=400:=(af hb).2.1;have a5:=bh.k5;go_enter Tryz.func49,Tryz.ntmps49;go_wp2;generalize ((w.alloc (J #[S I a.c.c0,S I a.c.c1,S I a.c.c2,S I a.c.c3,O A a.c.l.length ca,O C a.e.length cc] 35)).alloc (J #[S I b.c.c0,S I b.c.c1,S I b.c.c2,S I b.c.c3,O B b.c.l.length cb,O D b.e.length cd] 35))=w0 at bh bs aL a5 ⊢;have dG:=ja1 ha;have d1:=ja1 hb;have bv:=ja1 (fs hb);have cz:Z (a.c.l.length<=maxLen/\b.c.l.length<=maxLen):=by have h1:=(aY (af ha).1).2.1;have h2:=(aY (af hb).1).2.1;exact ⟨nT h1 (by decide),nT h2 (by decide)⟩
 go_loopw [5,15] (fun v i wr=>∃k:Nat,k<=a.e.length/\i= S I k/\cL wr w0.heap.size v ((a.e.take k).filter (fe b))/\jb2 w0 wr) (fun _ i _=>a.e.length-(intOf i).toNat);exact ⟨0,by omega,rfl,ae.nil _ _ _ _ _,bR _ _⟩;obtain ⟨k,hk,rfl,m,f⟩:=hrel;obtain ⟨A1,bo,rfl,em,ap,ec⟩:=ae.row cO m;have bl:=bh.below f;have a8:=bs.below f;have cl:w0.heap.size<=wr.heap.size:=f.size;by_cases b9:k<a.e.length
 ·have cG:(k:Int)<(a.e.length:Int):=by omega
  obtain ⟨bb,eb,rfl,d2,bG⟩:=av.get bl.rowC b9;obtain ⟨x,hx⟩:=jb0 (a.e[k]);obtain ⟨e0,e1,e2,e3,e4⟩:=bG k b9;rw[hx] at e0 e1 e2 e3 e4;have a7:=eV (p:=fe b) b9 hx;obtain ⟨M,HM⟩:=jb0 ((a.e.take k).filter (fe b));have dy:M.length<=400:=by rw[<-HM];exact nT (iE _ _ _) cr
  rw[HM] at m a7 ap ⊢;have n:=ja1 m;have u:=ja1 f;have ao:Gr wr (wr.alloc (J #[S I x.1.1,S I x.1.2,S I x.2.1,S I x.2.2.1,S I x.2.2.2] 91)):=(gR _).alloc _;have be:=CelAt.new (w:=wr) x 91 rfl;have bt:=a8.gr ao;have b5:=bt.k5;obtain ⟨x0,x1,x2,x3,x4,c8⟩:=(show CelAt _ _ _ from be);have d4:=ki b.e D cd x _ d3 bt.rowC bv.out;have cu:Z _:=d4;go_wp2_with fail;refine ja0 cu ?_;rintro e w2 ⟨ix,rfl,-,bN⟩;have c7:=be.gr bN;have ds:=bt.gr bN;have a6:Gr wr w2:=ao.trans bN;obtain ⟨x0,x1,x2,x3,x4,c8⟩:=(show CelAt _ _ _ from c7);cases hm:bY b.e x.1
  ·obtain ⟨b0,b1,b2,b3,b4,b5,ek,cn,dl⟩:=(show TabAt _ _ _ _ _ _ _ from ds);have b6:=jm b.c B cb x.1 w2 cz.out.2 cn;have bc:Z _:=b6;go_wp2_with fail;refine ja0 bc ?_;rintro e w3 ⟨rfl,ba⟩;have d:Gr wr w3:=a6.trans ba;obtain ⟨x0,x1,x2,x3,x4,c9⟩:=(show CelAt _ _ _ from c7.gr ba);cases hq:ax b.c x.1
   ·have r:Z ((a.e.take (k+1)).filter (fe b)=M++[x]):=(by show _=_;rw[a7,if_pos (by simp[fe,hm,hq])]);have ak:Z (M.length+[x].length<=maxLen/\(M.length+[x].length)*40<=140737488355328):=by show _/\_;unfold maxLen;simp only[List.length_cons,List.length_nil];omega
    go_wp2_with (at_builtin;refine cD _ rfl _ _ rfl w0.heap.size (O A1 M.length bo) M [x] (jb4 w3.heap.size 0) 1 rfl rfl ?ho ?hr (fun h=>by cases h) ak.out.1 ak.out.2 ?hs ?_);case ho=>exact n.out.gr (d.alloc _)
    case hr=>exact fx rfl _ _
    case hs=>have:=d.size;simp;omega
    intro v1 w4 R an;have a9:Z (jb2 w0 w4):=u.out.trans (((d.alloc _).below.mono cl).trans (ae.grown_below (n.out.gr (d.alloc _)) an (by have:=d.size;simp;omega)));have ad:=ja1 R;go_wp2;go_roundw;exact ⟨k+1,by omega,by go_num,by rw[r.out];exact ad.out,a9.out⟩;simp[intOf];omega
   ·have r:Z ((a.e.take (k+1)).filter (fe b)=M):=(by show _=_;rw[a7,if_neg (by simp[fe,hm,hq])];simp);go_wp2;go_roundw;exact ⟨k+1,by omega,by go_num,by rw[r.out];exact n.out.gr d,u.out.trans (d.below.mono cl)⟩;simp[intOf];omega
  ·have r:Z ((a.e.take (k+1)).filter (fe b)=M++[x]):=(by show _=_;rw[a7,if_pos (by simp[fe,hm])]);have ak:Z (M.length+[x].length<=maxLen/\(M.length+[x].length)*40<=140737488355328):=by show _/\_;unfold maxLen;simp only[List.length_cons,List.length_nil];omega
   go_wp2_with (at_builtin;refine cD _ rfl _ _ rfl w0.heap.size (O A1 M.length bo) M [x] (jb4 w2.heap.size 0) 1 rfl rfl ?ho ?hr (fun h=>by cases h) ak.out.1 ak.out.2 ?hs ?_);case ho=>exact n.out.gr (a6.alloc _)
   case hr=>exact fx rfl _ _
   case hs=>have:=a6.size;simp;omega
   intro v1 w4 R an;have a9:Z (jb2 w0 w4):=u.out.trans (((a6.alloc _).below.mono cl).trans (ae.grown_below (n.out.gr (a6.alloc _)) an (by have:=a6.size;simp;omega)));have ad:=ja1 R;go_wp2;go_roundw;exact ⟨k+1,by omega,by go_num,by rw[r.out];exact ad.out,a9.out⟩;simp[intOf];omega
 ·have cG:¬(k:Int)<(a.e.length:Int):=by omega
  have b8:a.e.take k=a.e:=List.take_of_length_le (by omega);rw[b8] at m ap ⊢;have b5:=a8.k5;obtain ⟨F,HF⟩:=jb0 (a.e.filter (fe b));have es:F.length<=400:=by rw[<-HF];exact nT (List.length_filter_le _ _) cr
  rw[HF] at m ap ⊢;have dg:=ja1 HF;have c4:=ja1 m;have bC:=ja1 f;go_wp2;go_loopw [5,43] (fun v i wq=>∃k:Nat,k<=b.e.length/\i= S I k/\cL wq w0.heap.size v (F++(b.e.take k).filter (eC a))/\jb2 w0 wq) (fun _ i _=>b.e.length-(intOf i).toNat);exact ⟨0,by omega,rfl,by simpa using c4.out,bC.out⟩;rename H=>wq;obtain ⟨j,hj,rfl,m,f⟩:=hrel;obtain ⟨A2,cp,rfl,en,ah,eg⟩:=ae.row cO m;have bl:=bh.below f;have a8:=bs.below f;have ck:w0.heap.size<=wq.heap.size:=f.size;by_cases b7:j<b.e.length
  ·have cf:(j:Int)<(b.e.length:Int):=(by omega);obtain ⟨bb,eb,rfl,d2,bG⟩:=av.get a8.rowC b7;obtain ⟨x,hx⟩:=jb0 (b.e[j]);obtain ⟨e0,e1,e2,e3,e4⟩:=bG j b7;rw[hx] at e0 e1 e2 e3 e4;have a7:=eV (p:=eC a) b7 hx;obtain ⟨M,HM⟩:=jb0 (F++(b.e.take j).filter (eC a));have dy:M.length<=800:=by rw[<-HM,List.length_append];have:=iE (eC a) b.e j;omega
   have bp:F++(b.e.take (j+1)).filter (eC a)=M++(if eC a x then [x] else []):=(by rw[a7,<-List.append_assoc,HM]);rw[HM] at m ah ⊢;have n:=ja1 m;have u:=ja1 f;have ao:Gr wq (wq.alloc (J #[S I x.1.1,S I x.1.2,S I x.2.1,S I x.2.2.1,S I x.2.2.2] 91)):=(gR _).alloc _;have be:=CelAt.new (w:=wq) x 91 rfl;have dp:=bl.gr ao;obtain ⟨a0,a1,a2,a3,a4,a5,ej,cm,dk⟩:=(show TabAt _ _ _ _ _ _ _ from dp);obtain ⟨x0,x1,x2,x3,x4,c8⟩:=(show CelAt _ _ _ from be);have b6:=jm a.c A ca x.1 _ cz.out.1 cm;have bc:Z _:=b6;go_wp2_with fail;refine ja0 bc ?_;rintro e w3 ⟨rfl,ba⟩;have d:Gr wq w3:=ao.trans ba;obtain ⟨x0,x1,x2,x3,x4,c9⟩:=(show CelAt _ _ _ from be.gr ba);cases hq:ax a.c x.1
   ·have r:Z (F++(b.e.take (j+1)).filter (eC a)=M++[x]):=(by show _=_;rw[bp,if_pos (by simp[eC,hq])]);have ak:Z (M.length+[x].length<=maxLen/\(M.length+[x].length)*40<=140737488355328):=by show _/\_;unfold maxLen;simp only[List.length_cons,List.length_nil];omega
    go_wp2_with (at_builtin;refine cD _ rfl _ _ rfl w0.heap.size (O A2 M.length cp) M [x] (jb4 w3.heap.size 0) 1 rfl rfl ?ho ?hr (fun h=>by cases h) ak.out.1 ak.out.2 ?hs ?_);case ho=>exact n.out.gr (d.alloc _)
    case hr=>exact fx rfl _ _
    case hs=>have:=d.size;simp;omega
    intro v1 w4 R an;have a9:Z (jb2 w0 w4):=u.out.trans (((d.alloc _).below.mono ck).trans (ae.grown_below (n.out.gr (d.alloc _)) an (by have:=d.size;simp;omega)));have ad:=ja1 R;go_wp2;go_roundw;exact ⟨j+1,by omega,by go_num,by rw[r.out];exact ad.out,a9.out⟩;simp[intOf];omega
   ·have r:Z (F++(b.e.take (j+1)).filter (eC a)=M):=(by show _=_;rw[bp,if_neg (by simp[eC,hq])];simp);go_wp2;go_roundw;exact ⟨j+1,by omega,by go_num,by rw[r.out];exact n.out.gr d,u.out.trans (d.below.mono ck)⟩;simp[intOf];omega
  ·have cf:¬(j:Int)<(b.e.length:Int):=(by omega);have b8:b.e.take j=b.e:=List.take_of_length_le (by omega);rw[b8] at m ah ⊢;have cs:F++b.e.filter (eC a)=gd a b:=by unfold gd;rw[dg.out]
   rw[cs] at m ah ⊢;have hM:=ph a b;have c6:=xq (fun x y=>AJ x y) 86 #[] (enters_of Tryz.func86 (by kernel_rfl) rfl) w0.heap.size _ (gd a b) wq (fun g=>zR g 0 _ wq) (m9 (li dG.out d1.out)) m ck (by omega);have bd:Z _:=c6;have cv:jb2 w wq:=aL.trans (f.mono aL.size);have c5:=aL.size;have cj:Z (mrg a b=f9 (gd a b)):=rfl;clear c6 m ah cs a8 bl;generalize gd a b=M at bd cj ⊢;go_wp2_with fail;refine ja0 bd ?_;rintro e w4 ⟨rfl,⟨E,ce,ea,d5,dv,dx⟩,d0⟩;clear bd;go_wp2;go_ret;exact ⟨E,ce,by rw[cj.out,<-ea];rfl,by rw[cj.out];exact d5,dv,fun x hx=>nT c5 (dx x hx),cv.trans (d0.mono c5)⟩

end

def dH (a b:Tab):Bool:=a.e.any (clP b.e)
def aD (a b:Tab):Int:=if ay a≠0 then ay a else if ay b≠0 then ay b else if dH a b then 5 else if aI a.c b.c≠0 then aI a.c b.c else if 400<(mrg a b).length then 2 else 0
def aR (a b:Tab):Tab:=if aD a b=0 then ⟨aO a.c b.c,mrg a b⟩ else ⟨ar,[]⟩

theorem dB {a b:Tab} {E:Int} (h:aD a b=E) (c:E≠0):aD a b=E/\aR a b=⟨ar,[]⟩:=⟨h,by unfold aR;rw[h,if_neg c]⟩

structure MergeAt (w W:H) (a b:Tab) (A:Option U) (ca:Nat) (C:Option U) (cc:Nat) (B:Option U) (cb:Nat) (D:Option U) (cd:Nat):Prop where
 ta:TabAt W w.heap.size a A ca C cc
 tb:TabAt W (w.heap.size+1) b B cb D cd
 res:qD W (w.heap.size+1+1)
 hw:jb2 w W
theorem MergeAt.below {w W c:H} {a b:Tab} {A B C D:Option U} {ca cb cc cd:Nat} (h:MergeAt w W a b A ca C cc B cb D cd) (k:jb2 W c):MergeAt w c a b A ca C cc B cb D cd :=
 ⟨h.ta.below k,h.tb.below k,h.res.below k,h.hw.trans (k.mono h.hw.size)⟩
theorem MergeAt.gr {w W c:H} {a b:Tab} {A B C D:Option U} {ca cb cc cd:Nat} (h:MergeAt w W a b A ca C cc B cb D cd) (k:Gr W c):MergeAt w c a b A ca C cc B cb D cd:=h.below k.below

theorem jL (a b:Tab) (A B C D:Option U) (ca cb cc cd:Nat) (w:H) (cj:a.c.l.length<=maxLen) (c7:b.c.l.length<=maxLen) (be:a.e.length<=maxLen) (ck:b.e.length<=maxLen) (hA:A=none->ca=0) (hB:B=none->cb=0) (dx:Row w A a.c.l) (dy:Row w B b.c.l) (dG:av w C a.e) (d0:av w D b.e) :
  P Tryz.prog 23 #[L (T6 a A ca C cc).toArray,L (T6 b B cb D cd).toArray] w fun e w'=>∃E ce F cf,e= .returned (Y #[L (T6 (aR a b) E ce F cf).toArray,S I (aD a b)])/\Row w' E (aR a b).c.l/\av w' F (aR a b).e/\(E=none->ce=0)/\(F=none->cf=0)/\(∀x,E=some x->w.heap.size<=x.block)/\(∀x,F=some x->w.heap.size<=x.block)/\jb2 w w':=by
 have ao:MergeAt w (((w.alloc (J #[S I a.c.c0,S I a.c.c1,S I a.c.c2,S I a.c.c3,O A a.c.l.length ca,O C a.e.length cc] 35)).alloc (J #[S I b.c.c0,S I b.c.c1,S I b.c.c2,S I b.c.c3,O B b.c.l.length cb,O D b.e.length cd] 35)).alloc (J #[S I 0,S I 0,S I 0,S I 0,O none 0 0,O none 0 0] 35)) a b A ca C cc B cb D cd :=
  ⟨(TabAt.new 35 dx dG rfl).gr (((gR _).alloc _).alloc _),(TabAt.new 35 (dy.gr ((gR _).alloc _)) (d0.gr ((gR _).alloc _)) (by simp)).gr ((gR _).alloc _),Six.new _ _ _ _ _ _ _ 35 (by simp),((((gR w).alloc _).alloc _).alloc _).below⟩
 have ba:Z (a.c.l.length<=maxLen/\b.c.l.length<=maxLen/\a.e.length<=maxLen/\b.e.length<=maxLen):=⟨cj,c7,be,ck⟩;have bN:Z ((A=none->ca=0)/\(B=none->cb=0)):=⟨hA,hB⟩;have bt:=eE a A ca C cc _ cj be ao.ta.row ao.ta.rowC;have ap:Z _:=bt;go_enter Tryz.func23,Tryz.ntmps23;go_wp2_with fail;refine ja0 ap ?_;rintro e w1 ⟨rfl,dg⟩;have a7:=ao.gr dg;obtain ⟨E1,aL⟩:=jb0 (ay a);rw[aL];by_cases r:E1=0
 ·subst r;have k:Z (ay a=0):=aL;obtain ⟨b0,b1,b2,b3,b4,b5,bG,j,h⟩:=(show TabAt _ _ _ _ _ _ _ from a7.tb);have bt:=eE b B cb D cd w1 ba.out.2.1 ba.out.2.2.2 j h;have ap:Z _:=bt;go_wp2_with fail;refine ja0 ap ?_;rintro e w2 ⟨rfl,dk⟩;have n:=a7.gr dk;obtain ⟨E2,a6⟩:=jb0 (ay b);rw[a6];by_cases u:E2=0
  ·subst u;have m:Z (ay b=0):=a6;have a5:=n.ta.k5;have b5:=n.tb.k5;have c9:=sM a.e b.e C D cc cd w2 (af k.out).2.1 (af m.out).2.1 n.ta.rowC n.tb.rowC (fs m.out);have cm:Z _:=c9;go_wp2_with fail;refine ja0 cm ?_;rintro e w3 ⟨rfl,dl⟩;have R:=n.gr dl;obtain ⟨K,hK⟩:=jb0 (a.e.any (clP b.e));rw[hK];cases K
   ·have bo:Z (dH a b=false):=hK;obtain ⟨a0,a1,a2,a3,a4,a5,cv,ak,an⟩:=(show TabAt _ _ _ _ _ _ _ from R.ta);obtain ⟨b0,b1,b2,b3,b4,b5,bG,j,h⟩:=(show TabAt _ _ _ _ _ _ _ from R.tb);have ds:=pQ a.c b.c A B ca cb w3 ba.out.1 ba.out.2.1 ak j bN.out.1 bN.out.2;have cp:Z _:=ds;go_wp2_with fail;refine ja0 cp ?_;rintro e w4 ⟨C4,p4,rfl,cs,cz,bd,c6⟩;have b9:=R.below c6;have d3:=R.res.lt;have b7:Z (∀x,C4=some x->w.heap.size<=x.block):=fun x f=>by have:=bd x f;omega
    have b6:Z (∀x,C4=some x->x.block≠w.heap.size+1+1):=(fun x f=>by have:=bd x f;omega);obtain ⟨d5,hJ⟩:=jb0 (aO a.c b.c);obtain ⟨E4,b8⟩:=jb0 (aI a.c b.c);rw[hJ] at cs ⊢;rw[b8];have a9:Z (aO a.c b.c=d5/\aI a.c b.c=E4):=⟨hJ,b8⟩;have dp:Gr w4 (w4.alloc (J (ja7 d5 C4 p4) 32)):=(gR _).alloc _;have ad:=b9.gr dp;have cl:CtxAt (w4.alloc (J (ja7 d5 C4 p4) 32)) w4.heap.size d5 C4 p4:=CtxAt.new (c:=d5) 32 cs rfl;have d4:=b9.res.lt;by_cases h4:E4=0
    ·subst h4;obtain ⟨a0,a1,a2,a3,a4,a5,cv,ak,an⟩:=(show TabAt _ _ _ _ _ _ _ from ad.ta);obtain ⟨b0,b1,b2,b3,b4,b5,bG,j,h⟩:=(show TabAt _ _ _ _ _ _ _ from ad.tb);have dv:=lW a b A B C D ca cb cc cd _ k.out m.out ak j an h;have cr:Z _:=dv;go_wp2_with fail;refine ja0 cr ?_;rintro e w6 ⟨F,cf,rfl,bC,ao,bl,bs⟩;have a8:=ad.below bs;have c8:=cl.below bs;have c5:Z (∀x,F=some x->w.heap.size<=x.block):=fun x f=>by have:=bl x f;simp at this;omega
     have cG:Z (∀x,F=some x->x.block≠w.heap.size+1+1):=(fun x f=>by have:=bl x f;simp at this;omega);clear ad cl bs bl;obtain ⟨M,hM⟩:=jb0 (mrg a b);rw[hM] at bC ⊢;have d2:M.length<=800:=by rw[<-hM];unfold mrg;rw[eY];have r:=ph a b;have u:=(af k.out).2.1;have h3:=(af m.out).2.1;omega
     have bp:Z (mrg a b=M):=hM;clear hM;by_cases bc:400<M.length
     ·have bh:(400:Int)<(M.length:Int):=(by omega);have d:Z (aD a b=2/\aR a b=⟨ar,[]⟩):=dB (by unfold aD;rw[k.out,m.out,bo.out,a9.out.2,bp.out];simp[bc]) (by decide);obtain ⟨z0,z1,z2,z3,z4,z5,zf,ah⟩:=(show Six _ _ _ _ _ _ _ _ from a8.res);have g:Z (jb2 w _):=a8.hw;go_wp2;rw[d.out.1,d.out.2];exact bodyPost_ret (v:= Y #[L #[S I 0,S I 0,S I 0,S I 0,O none 0 0,O none 0 0],S I 2]) (by simp[results,Tryz.results23,go_sem,z0,z1,z2,z3,z4,z5]) rfl ⟨none,0,none,0,rfl,oL rfl,oL rfl,fun _=>rfl,fun _=>rfl,(fun x f=>by cases f),(fun x f=>by cases f),ac g.out (by omega) _ _ _ _ _ _⟩
     ·have bh:¬(400:Int)<(M.length:Int):=(by omega);have d:Z (aD a b=0/\aR a b=⟨d5,M⟩):=by have h0:aD a b=0:=(by unfold aD;rw[k.out,m.out,bo.out,a9.out.2,bp.out];simp;omega);exact ⟨h0,by unfold aR;rw[h0,if_pos rfl,a9.out.1,bp.out]⟩
      obtain ⟨z0,z1,z2,z3,z4,z5,zf,ah⟩:=(show Six _ _ _ _ _ _ _ _ from a8.res);obtain ⟨c0,c1,c2,c3,c4,d1,bb⟩:=(show CtxAt _ _ _ _ _ from c8);have g:Z (jb2 w _):=a8.hw;have bv:Z (Row _ C4 d5.l):=bb;have cu:Z (av _ F M):=bC;clear bb bC bc;go_wp2;rw[d.out.1,d.out.2];have r:=b6.out;have u:=cG.out;exact bodyPost_ret (v:= Y #[L #[S I d5.c0,S I d5.c1,S I d5.c2,S I d5.c3,O C4 d5.l.length p4,O F M.length cf],S I 0]) (by simp[results,Tryz.results23,go_sem,z0,z1,z2,z3,z4,z5]) rfl ⟨C4,p4,F,cf,rfl,(((((bv.out.setCell _ r).setCell _ r).setCell _ r).setCell _ r).setCell _ r).setCell _ r,(((((cu.out.setCell _ u).setCell _ u).setCell _ u).setCell _ u).setCell _ u).setCell _ u,cz,ao,b7.out,c5.out,ac g.out (by omega) _ _ _ _ _ _⟩
    ·have d:Z (aD a b=E4/\aR a b=⟨ar,[]⟩):=dB (by unfold aD;rw[k.out,m.out,bo.out,a9.out.2];simp[h4]) h4;have cn:(E4 != 0)=true:=by simpa using h4
     clear h4;obtain ⟨z0,z1,z2,z3,z4,z5,zf,ah⟩:=(show Six _ _ _ _ _ _ _ _ from ad.res);have g:Z (jb2 w _):=ad.hw;go_upto_region 11 with fail;generalize w4.alloc (J (ja7 d5 C4 p4) 32)=V at z0 z1 z2 z3 z4 z5 zf ah g ⊢;go_wp2;rw[d.out.1,d.out.2];exact bodyPost_ret (v:= Y #[L #[S I 0,S I 0,S I 0,S I 0,O none 0 0,O none 0 0],S I E4]) (by simp[results,Tryz.results23,go_sem,z0,z1,z2,z3,z4,z5]) rfl ⟨none,0,none,0,rfl,oL rfl,oL rfl,fun _=>rfl,fun _=>rfl,(fun x f=>by cases f),(fun x f=>by cases f),ac g.out (by omega) _ _ _ _ _ _⟩
   ·have d:Z (aD a b=5/\aR a b=⟨ar,[]⟩):=dB (by unfold aD dH;rw[k.out,m.out,hK];simp) (by decide);clear hK;obtain ⟨z0,z1,z2,z3,z4,z5,zf,ah⟩:=(show Six _ _ _ _ _ _ _ _ from R.res);have g:Z (jb2 w _):=R.hw;go_wp2;rw[d.out.1,d.out.2];exact bodyPost_ret (v:= Y #[L #[S I 0,S I 0,S I 0,S I 0,O none 0 0,O none 0 0],S I 5]) (by simp[results,Tryz.results23,go_sem,z0,z1,z2,z3,z4,z5]) rfl ⟨none,0,none,0,rfl,oL rfl,oL rfl,fun _=>rfl,fun _=>rfl,(fun x f=>by cases f),(fun x f=>by cases f),ac g.out (by omega) _ _ _ _ _ _⟩
  ·have d:Z (aD a b=E2/\aR a b=⟨ar,[]⟩):=dB (by unfold aD;rw[k.out,a6];simp[u]) u;have cn:(E2 != 0)=true:=by simpa using u
   clear u a6;obtain ⟨z0,z1,z2,z3,z4,z5,zf,ah⟩:=(show Six _ _ _ _ _ _ _ _ from n.res);have g:Z (jb2 w _):=n.hw;go_wp2;rw[d.out.1,d.out.2];exact bodyPost_ret (v:= Y #[L #[S I 0,S I 0,S I 0,S I 0,O none 0 0,O none 0 0],S I E2]) (by simp[results,Tryz.results23,go_sem,z0,z1,z2,z3,z4,z5]) rfl ⟨none,0,none,0,rfl,oL rfl,oL rfl,fun _=>rfl,fun _=>rfl,(fun x f=>by cases f),(fun x f=>by cases f),ac g.out (by omega) _ _ _ _ _ _⟩
 ·have d:Z (aD a b=E1/\aR a b=⟨ar,[]⟩):=dB (by unfold aD;rw[aL];simp[r]) r;have cn:(E1 != 0)=true:=by simpa using r
  clear r aL;obtain ⟨z0,z1,z2,z3,z4,z5,zf,ah⟩:=(show Six _ _ _ _ _ _ _ _ from a7.res);have g:Z (jb2 w _):=a7.hw;go_wp2;rw[d.out.1,d.out.2];exact bodyPost_ret (v:= Y #[L #[S I 0,S I 0,S I 0,S I 0,O none 0 0,O none 0 0],S I E1]) (by simp[results,Tryz.results23,go_sem,z0,z1,z2,z3,z4,z5]) rfl ⟨none,0,none,0,rfl,oL rfl,oL rfl,fun _=>rfl,fun _=>rfl,(fun x f=>by cases f),(fun x f=>by cases f),ac g.out (by omega) _ _ _ _ _ _⟩


def cF (t:Tab) (n key col v:Int):Int :=
 if ay t≠0 then ay t else if aF key col v=false then 1 else if (cX t.c n).2≠0 then (cX t.c n).2
 else if cJ (ag (cB key col) t.e)≠0 then cJ (ag (cB key col) t.e) else if cJ [(cX t.c n).1]≠0 then cJ [(cX t.c n).1]
 else aI (aM (ag (cB key col) t.e)) (aM [(cX t.c n).1])
def dm (t:Tab) (n key col v:Int):Tab :=
 if cF t n key col v=0 then ⟨aO (aM (ag (cB key col) t.e)) (aM [(cX t.c n).1]),[((cX t.c n).1,key,col,v)]⟩ else ⟨ar,[]⟩

structure PutAt (w W:H) (t:Tab) (A:Option U) (ca:Nat) (D:Option U) (cd:Nat) (key col:Int):Prop where
 tab:TabAt W w.heap.size t A ca D cd
 key:W.cell? ⟨w.heap.size+1,0,none⟩=some (S I key)
 col:W.cell? ⟨w.heap.size+1+1,0,none⟩=some (S I col)
 res:qD W (w.heap.size+1+1+1)
 hw:jb2 w W
theorem PutAt.below {w W c:H} {t:Tab} {A:Option U} {ca:Nat} {D:Option U} {cd:Nat} {key col:Int} (h:PutAt w W t A ca D cd key col) (k:jb2 W c):PutAt w c t A ca D cd key col :=
 ⟨h.tab.below k,(k.cell (p:=(jb5 (w.heap.size+1) 0)) (show w.heap.size+1<_ by have:=h.res.lt;omega)).trans h.key,(k.cell (p:=(jb5 (w.heap.size+1+1) 0)) (show w.heap.size+1+1<_ by have:=h.res.lt;omega)).trans h.col,h.res.below k,h.hw.trans (k.mono h.hw.size)⟩
theorem PutAt.gr {w W c:H} {t:Tab} {A:Option U} {ca:Nat} {D:Option U} {cd:Nat} {key col:Int} (h:PutAt w W t A ca D cd key col) (k:Gr W c):PutAt w c t A ca D cd key col:=h.below k.below

theorem sw {W:H} {n:Nat} (k:W.heap.size=n) (x:Cel) (T:TypeId):av (W.alloc (J #[S I x.1.1,S I x.1.2,S I x.2.1,S I x.2.2.1,S I x.2.2.2] T)) (jb4 n 0) [x]:=by
 subst k;refine oR ⟨W.heap.size,0,rfl,by simp,fun j g i hi=> ?_⟩;have f:j=0:=by simp at g;omega
 subst f;have c:=fun (i:Nat) (v:Value) (h:(#[S I x.1.1,S I x.1.2,S I x.2.1,S I x.2.2.1,S I x.2.2.2]:Array Value)[i]? = some v)=>ab (w:=W) (gR (W.alloc (J #[S I x.1.1,S I x.1.2,S I x.2.1,S I x.2.2.1,S I x.2.2.2] T))) (j:=i) h;have d:i=0\/i=1\/i=2\/i=3\/i=4:=by omega
 rcases d with rfl|rfl|rfl|rfl|rfl
 ·exact c 0 _ rfl
 ·exact c 1 _ rfl
 ·exact c 2 _ rfl
 ·exact c 3 _ rfl
 ·exact c 4 _ rfl

def Fz (W:H) (B:Nat):Prop:=B<W.heap.size/\∀j,W.frozen? ⟨B,j,none⟩=false
theorem Fz.below {W c:H} {B:Nat} (h:Fz W B) (k:jb2 W c):Fz c B:=⟨nL h.1 k.size,fun j=>(k.frozen (p:=(jb5 B j)) h.1).trans (h.2 j)⟩
theorem Fz.gr {W c:H} {B:Nat} (h:Fz W B) (k:Gr W c):Fz c B:=h.below k.below
theorem Fz.new (W:H) (C1:Array Value) (T1:TypeId):Fz (W.alloc (J C1 T1)) W.heap.size:=⟨by simp,fun j=>ee (gR _) j⟩

theorem ru {W:H} {A:U} {N:Int×Int} (d:Row W (some A) [N]) :
  P Tryz.prog 82 #[O (some A) 1 1] W fun e w'=>∃C c,e= .returned (Y #[L (ja7 (aM [N]) C c),S I (cJ [N])])/\Row w' C (aM [N]).l/\(C=none->c=0)/\(∀a,C=some a->W.heap.size<=a.block)/\jb2 W w' :=
 pU [N] (some A) 1 W (by simp[maxLen]) (fun h=>by cases h) d

theorem jK (l:List (Int×Int)) (h:l.length<=400):(aM l).l.length<=maxLen:=by
 refine nT (m:=400) ?_ (by decide);unfold aM;by_cases c:cJ l=0
 ·rw[if_pos c];unfold eh;have:=iX ar (srt l) (srt l).length;rw[fA] at this ⊢;have d:ar.l.length=0:=rfl;omega
 ·rw[if_neg c];exact nZ _

theorem yP (t:Tab) (A:Option U) (ca:Nat) (D:Option U) (cd:Nat) (n key col v:Int) (w:H) (hl:t.c.l.length<=maxLen) (d7:t.e.length<=maxLen) (hr:Row w A t.c.l) (hd:av w D t.e) :
  P Tryz.prog 44 #[L (T6 t A ca D cd).toArray,S I n,S I key,S I col,S I v] w fun e w'=>∃C cp D' b6,e= .returned (Y #[L (T6 (dm t n key col v) C cp D' b6).toArray,S I (cF t n key col v)])/\Row w' C (dm t n key col v).c.l/\av w' D' (dm t n key col v).e/\(C=none->cp=0)/\(D'=none->b6=0)/\(∀x,C=some x->w.heap.size<=x.block)/\(∀x,D'=some x->w.heap.size<=x.block)/\jb2 w w':=by
 have bs:PutAt w ((((w.alloc (J #[S I t.c.c0,S I t.c.c1,S I t.c.c2,S I t.c.c3,O A t.c.l.length ca,O D t.e.length cd] 35)).alloc (J #[S I key] 3)).alloc (J #[S I col] 3)).alloc (J #[S I 0,S I 0,S I 0,S I 0,O none 0 0,O none 0 0] 35)) t A ca D cd key col :=
  ⟨(TabAt.new 35 hr hd rfl).gr ((((gR _).alloc _).alloc _).alloc _),jf (((gR _).alloc _).alloc _) rfl,(by have h:=jf (w:=w.alloc (J #[S I t.c.c0,S I t.c.c1,S I t.c.c2,S I t.c.c3,O A t.c.l.length ca,O D t.e.length cd] 35)) (C1:= #[S I key]) (T1:=3) (C2:= #[S I col]) (T2:=3) ((gR _).alloc (J #[S I 0,S I 0,S I 0,S I 0,O none 0 0,O none 0 0] 35)) (j:=0) rfl;rw[World.size_alloc] at h;exact h),Six.new _ _ _ _ _ _ _ 35 (by simp),(((((gR w).alloc _).alloc _).alloc _).alloc _).below⟩
 have d5:=eE t A ca D cd _ hl d7 bs.tab.row bs.tab.rowC;have cn:Z _:=d5;have em:=ja1 hl;go_enter Tryz.func44,Tryz.ntmps44;go_wp2_with fail;refine ja0 cn ?_;rintro e w1 ⟨rfl,ea⟩;have r:=bs.gr ea;obtain ⟨E1,a0⟩:=jb0 (ay t);rw[a0];by_cases h1:E1=0
 ·subst h1;have b1:=ja1 a0;have bl:t.e.length<=400:=(af a0).2.1;cases ap:aF key col v
  ·have d:Z (cF t n key col v=1/\dm t n key col v=⟨ar,[]⟩):=(by have h1:cF t n key col v=1:=(by simp[cF,b1.out,ap]);exact ⟨h1,by unfold dm;rw[h1];rfl⟩);obtain ⟨z0,z1,z2,z3,z4,z5,zf,an⟩:=(show Six _ _ _ _ _ _ _ _ from r.res);have b4:=r.key;have b0:=r.col;have m:=ja1 r.hw;go_wp2_with (go_at_call 78;refine (gm ap _).mono ?_;rintro e w1 ⟨rfl,rfl⟩);rw[d.out.1,d.out.2];exact bodyPost_ret (v:= Y #[L #[S I 0,S I 0,S I 0,S I 0,O none 0 0,O none 0 0],S I 1]) (by simp[results,Tryz.results44,go_sem,z0,z1,z2,z3,z4,z5]) rfl ⟨none,0,none,0,rfl,oL rfl,oL rfl,fun _=>rfl,fun _=>rfl,(fun x f=>by cases f),(fun x f=>by cases f),ac m.out (by omega) _ _ _ _ _ _⟩
  ·obtain ⟨k0,k1,k2,k3,k4,k5,e0,bo,aL⟩:=(show TabAt _ _ _ _ _ _ _ from r.tab);have b4:=r.key;have b0:=r.col;have ez:=ww t.c A ca n w1 em.out bo;have c5:Z _:=ez;go_wp2_with (first|(go_at_call 78;refine (gm ap _).mono ?_;rintro e w1 ⟨rfl,rfl⟩)|fail);refine ja0 c5 ?_;rintro e w2 ⟨rfl,eb⟩;have dx:=r.gr eb;obtain ⟨N,hN⟩:=jb0 (cX t.c n).1;obtain ⟨E2,cc⟩:=jb0 (cX t.c n).2;rw[hN,cc];have a4:=ja2 hN cc;go_upto_region 7 with fail;have u:=dx.gr ((gR _).alloc (J #[S I N.1,S I N.2] 89));have bb:DotAt (w2.alloc (J #[S I N.1,S I N.2] 89)) w2.heap.size N.1 N.2:=DotAt.new 89 rfl;generalize w2.alloc (J #[S I N.1,S I N.2] 89)=w3 at u bb ⊢;generalize w2.heap.size=bN at bb ⊢;by_cases h2:E2=0
   ·subst h2;have hP:Z (cF t n key col v=if cJ (ag (cB key col) t.e)≠0 then cJ (ag (cB key col) t.e) else if cJ [N]≠0 then cJ [N] else aI (aM (ag (cB key col) t.e)) (aM [N])):=by show cF t n key col v=_;unfold cF;rw[b1.out,ap,a4.out.1,a4.out.2];rfl
    have hT:Z (dm t n key col v=if cF t n key col v=0 then ⟨aO (aM (ag (cB key col) t.e)) (aM [N]),[(N,key,col,v)]⟩ else ⟨ar,[]⟩):=(by show dm t n key col v=_;unfold dm;rw[a4.out.1]);obtain ⟨k0,k1,k2,k3,k4,k5,e0,bo,aL⟩:=(show TabAt _ _ _ _ _ _ _ from u.tab);have b4:=u.key;have b0:=u.col;have e4:=u.res.lt;have eg:∀bh w,(callFunc 81 bh).run Tryz.prog w= .ok (.enter 81 bh) w:=enters_of Tryz.func81 (by kernel_rfl) rfl;have d6:=iN (cB key col) 81 #[.pointer (some ⟨w.heap.size+1,0,none⟩),.pointer (some ⟨w.heap.size+1+1,0,none⟩)] eg t.e D cd w3 bl aL (fun W hW x=>vq key col (w.heap.size+1) (w.heap.size+1+1) x W (by have:=hW.size;omega) (by have:=hW.size;omega) ((hW.cell (p:=⟨w.heap.size+1,0,none⟩) (show w.heap.size+1<_ by omega)).trans b4) ((hW.cell (p:=⟨w.heap.size+1+1,0,none⟩) (show w.heap.size+1+1<_ by omega)).trans b0));have cr:Z _:=d6;have ce:Z ((aM (ag (cB key col) t.e)).l.length<=maxLen):=jK _ (nT (ci _ _) bl);have cf:Z ((aM [N]).l.length<=maxLen):=jK _ (by simp);go_wp2_with fail;refine ja0 cr ?_;rintro e w4 ⟨C4,ad,rfl,c6,dg,_,a5⟩;obtain ⟨F,dG⟩:=jb0 (aM (ag (cB key col) t.e));obtain ⟨E4,dp⟩:=jb0 (cJ (ag (cB key col) t.e));rw[dG] at c6 hP hT ce ⊢;rw[dp] at hP ⊢;go_upto_region 10 with fail;have a1:=(u.below a5).gr ((gR _).alloc (J (ja7 F C4 ad) 32));have b5:=(bb.below a5).gr ((gR _).alloc (J (ja7 F C4 ad) 32));have bv:CtxAt (w4.alloc (J (ja7 F C4 ad) 32)) w4.heap.size F C4 ad:=CtxAt.new 32 c6 rfl;have b2:Fz (w4.alloc (J (ja7 F C4 ad) 32)) w4.heap.size:=Fz.new _ _ _;have cj:w.heap.size+1+1+1<w4.heap.size:=by have:=u.res.lt;have:=a5.size;omega
    generalize w4.alloc (J (ja7 F C4 ad) 32)=w5 at a1 b5 bv b2 ⊢;have bt:bN<w4.heap.size:=by have:=bb.lt;have:=a5.size;omega
    generalize w4.heap.size=bC at bv b2 cj bt ⊢;by_cases h4:E4=0
    ·subst h4;obtain ⟨n0,n1,e5⟩:=(show DotAt _ _ _ _ from b5);go_wp2_with fail;refine cM (show P _ _ _ _ _ from ru (N:=N) (ed rfl N.1 N.2 _)) ?_;rintro e w6 ⟨C6,R,rfl,c7,dk,_,a6⟩;have dy:=(a1.gr ((gR _).alloc _)).below a6;have es:=(b5.gr ((gR _).alloc _)).below a6;have d4:=(bv.gr ((gR _).alloc _)).below a6;have d8:=(b2.gr ((gR _).alloc _)).below a6;obtain ⟨G,d0⟩:=jb0 (aM [N]);obtain ⟨E6,ds⟩:=jb0 (cJ [N]);rw[d0] at c7 hP hT cf ⊢;rw[ds] at hP ⊢;go_upto_region 13 with fail;have a2:=dy.gr ((gR _).alloc (J (ja7 G C6 R) 32));have cz:=es.gr ((gR _).alloc (J (ja7 G C6 R) 32));have a8:=d4.gr ((gR _).alloc (J (ja7 G C6 R) 32));have cu:=d8.gr ((gR _).alloc (J (ja7 G C6 R) 32));have b3:CtxAt (w6.alloc (J (ja7 G C6 R) 32)) w6.heap.size G C6 R:=CtxAt.new 32 c7 rfl;generalize w6.alloc (J (ja7 G C6 R) 32)=w7 at a2 cz a8 b3 cu ⊢;generalize w6.heap.size=bG at b3 ⊢;by_cases h6:E6=0
     ·subst h6;obtain ⟨c0,c1,c2,c3,c4,b7,ah⟩:=(show CtxAt _ _ _ _ _ from a8);obtain ⟨g0,g1,g2,g3,g4,e2,bp⟩:=(show CtxAt _ _ _ _ _ from b3);have ec:=pQ F G C4 C6 ad R w7 ce.out cf.out ah bp dg dk;have cv:Z _:=ec;go_wp2_with fail;refine ja0 cv ?_;rintro e w8 ⟨C8,g,rfl,c8,dl,ao,a7⟩;obtain ⟨e8,d1⟩:=jb0 (aO F G);obtain ⟨E8,dv⟩:=jb0 (aI F G);rw[d1] at c8 hT ⊢;rw[dv] at hP ⊢;have a3:=a2.below a7;have cG:=cz.below a7;have cl:=a8.below a7;have e1:=a8.lt;have d9:=cu.below a7;obtain ⟨c0,c1,c2,c3,c4,b7,ah⟩:=(show CtxAt _ _ _ _ _ from cl);have e3:=d9.2;go_upto_region 16 with fail;have k:Below bC w8 (((((w8.setCell ⟨bC,0,none⟩ (S I e8.c0)).setCell ⟨bC,1,none⟩ (S I e8.c1)).setCell ⟨bC,2,none⟩ (S I e8.c2)).setCell ⟨bC,3,none⟩ (S I e8.c3)).setCell ⟨bC,4,none⟩ (O C8 e8.l.length g)):=au (bR _ _) (nR _) _ _ _ _ _;have cm:CtxAt (((((w8.setCell ⟨bC,0,none⟩ (S I e8.c0)).setCell ⟨bC,1,none⟩ (S I e8.c1)).setCell ⟨bC,2,none⟩ (S I e8.c2)).setCell ⟨bC,3,none⟩ (S I e8.c3)).setCell ⟨bC,4,none⟩ (O C8 e8.l.length g)) bC e8 C8 g:=cl.set c8 (fun x f=>by have:=ao x f;omega);have be:=a3.res.belowB k cj;have ej:=(k.cell (p:=⟨w.heap.size+1,0,none⟩) (show w.heap.size+1<bC by omega)).trans a3.key;have ek:=(k.cell (p:=⟨w.heap.size+1+1,0,none⟩) (show w.heap.size+1+1<bC by omega)).trans a3.col;have en:=(k.cell (p:=⟨bN,0,none⟩) bt).trans cG.k0;have ey:=(k.cell (p:=⟨bN,1,none⟩) bt).trans cG.k1;have bd:jb2 w (((((w8.setCell ⟨bC,0,none⟩ (S I e8.c0)).setCell ⟨bC,1,none⟩ (S I e8.c1)).setCell ⟨bC,2,none⟩ (S I e8.c2)).setCell ⟨bC,3,none⟩ (S I e8.c3)).setCell ⟨bC,4,none⟩ (O C8 e8.l.length g)):=a3.hw.trans (k.mono (by omega));have b9:Z (∀x,C8=some x->w.heap.size<=x.block):=fun x f=>by have:=ao x f;omega
      have b8:Z (∀x,C8=some x->x.block≠w.heap.size+1+1+1):=(fun x f=>by have:=ao x f;omega);generalize (((((w8.setCell ⟨bC,0,none⟩ (S I e8.c0)).setCell ⟨bC,1,none⟩ (S I e8.c1)).setCell ⟨bC,2,none⟩ (S I e8.c2)).setCell ⟨bC,3,none⟩ (S I e8.c3)).setCell ⟨bC,4,none⟩ (O C8 e8.l.length g))=V at cm be ej ek en ey bd ⊢;by_cases h8:E8=0
      ·subst h8;have d:Z (cF t n key col v=0/\dm t n key col v=⟨e8,[(N,key,col,v)]⟩):=by have h3:cF t n key col v=0:=(by rw[hP.out];simp);exact ⟨h3,by rw[hT.out,h3,if_pos rfl]⟩
       obtain ⟨c0,c1,c2,c3,c4,b7,ah⟩:=(show CtxAt _ _ _ _ _ from cm);obtain ⟨z0,z1,z2,z3,z4,z5,zf,an⟩:=(show Six _ _ _ _ _ _ _ _ from be);have ak:∀a,C8=some a->a.block≠w.heap.size+1+1+1:=b8.out;have hV:=(be.set (S I e8.c0) (S I e8.c1) (S I e8.c2) (S I e8.c3) (O C8 e8.l.length g) (O (some ⟨V.heap.size,0,none⟩) 1 1)).gr ((gR _).alloc (J #[S I N.1,S I N.2,S I key,S I col,S I v] 91));have bc:Row _ C8 e8.l:=(((((((ah.setCell (B:=w.heap.size+1+1+1) (j:=0) (S I e8.c0) ak).setCell (j:=1) (S I e8.c1) ak).setCell (j:=2) (S I e8.c2) ak).setCell (j:=3) (S I e8.c3) ak).setCell (j:=4) (O C8 e8.l.length g) ak).setCell (j:=5) (O (some ⟨V.heap.size,0,none⟩) 1 1) ak)).gr ((gR _).alloc (J #[S I N.1,S I N.2,S I key,S I col,S I v] 91));have k:=(ac bd (B:=w.heap.size+1+1+1) (by omega) (S I e8.c0) (S I e8.c1) (S I e8.c2) (S I e8.c3) (O C8 e8.l.length g) (O (some ⟨V.heap.size,0,none⟩) 1 1)).alloc (by simp;omega) (J #[S I N.1,S I N.2,S I key,S I col,S I v] 91);have a9:=sw (W:=(((((V.setCell ⟨w.heap.size+1+1+1,0,none⟩ (S I e8.c0)).setCell ⟨w.heap.size+1+1+1,1,none⟩ (S I e8.c1)).setCell ⟨w.heap.size+1+1+1,2,none⟩ (S I e8.c2)).setCell ⟨w.heap.size+1+1+1,3,none⟩ (S I e8.c3)).setCell ⟨w.heap.size+1+1+1,4,none⟩ (O C8 e8.l.length g)).setCell ⟨w.heap.size+1+1+1,5,none⟩ (O (some ⟨V.heap.size,0,none⟩) 1 1)) (n:=V.heap.size) (by simp) (N,key,col,v) 91;have d3:=ja1 bd.size;have d2:Z _:=hV;have ck:Z _:=k;have c9:Z _:=bc;have cs:Z _:=a9;go_wp2;obtain ⟨v0,v1,v2,v3,v4,v5,vf,e6⟩:=(show Six _ _ _ _ _ _ _ _ from d2.out);have k:=ck.out;have bc:=c9.out;have a9:=cs.out;rw[d.out.1,d.out.2];generalize World.alloc _ _=X at v0 v1 v2 v3 v4 v5 k bc a9 ⊢;exact bodyPost_ret (v:= Y #[L #[S I e8.c0,S I e8.c1,S I e8.c2,S I e8.c3,O C8 e8.l.length g,O (some ⟨V.heap.size,0,none⟩) 1 1],S I 0]) (by simp[results,Tryz.results44,go_sem,v0,v1,v2,v3,v4,v5]) rfl ⟨C8,g,_,1,rfl,bc,a9,dl,fun h=>(by cases h),b9.out,(fun x f=>by cases f;have:=d3.out;exact this),k⟩
      ·have d:Z (cF t n key col v=E8/\dm t n key col v=⟨ar,[]⟩):=(by have h3:cF t n key col v=E8:=(by rw[hP.out];simp);exact ⟨h3,by rw[hT.out,h3,if_neg h8]⟩);have ba:(E8 != 0)=true:=by simpa using h8
       obtain ⟨z0,z1,z2,z3,z4,z5,zf,an⟩:=(show Six _ _ _ _ _ _ _ _ from be);have m:=ja1 bd;go_wp2;rw[d.out.1,d.out.2];exact bodyPost_ret (v:= Y #[L #[S I 0,S I 0,S I 0,S I 0,O none 0 0,O none 0 0],S I E8]) (by simp[results,Tryz.results44,go_sem,z0,z1,z2,z3,z4,z5]) rfl ⟨none,0,none,0,rfl,oL rfl,oL rfl,fun _=>rfl,fun _=>rfl,(fun x f=>by cases f),(fun x f=>by cases f),ac m.out (by omega) _ _ _ _ _ _⟩
     ·have d:Z (cF t n key col v=E6/\dm t n key col v=⟨ar,[]⟩):=(by have h3:cF t n key col v=E6:=(by rw[hP.out];simp[h6]);exact ⟨h3,by rw[hT.out,h3,if_neg h6]⟩);have ba:(E6 != 0)=true:=by simpa using h6
      obtain ⟨z0,z1,z2,z3,z4,z5,zf,an⟩:=(show Six _ _ _ _ _ _ _ _ from a2.res);have m:=ja1 a2.hw;go_wp2;rw[d.out.1,d.out.2];exact bodyPost_ret (v:= Y #[L #[S I 0,S I 0,S I 0,S I 0,O none 0 0,O none 0 0],S I E6]) (by simp[results,Tryz.results44,go_sem,z0,z1,z2,z3,z4,z5]) rfl ⟨none,0,none,0,rfl,oL rfl,oL rfl,fun _=>rfl,fun _=>rfl,(fun x f=>by cases f),(fun x f=>by cases f),ac m.out (by omega) _ _ _ _ _ _⟩
    ·have d:Z (cF t n key col v=E4/\dm t n key col v=⟨ar,[]⟩):=(by have h3:cF t n key col v=E4:=(by rw[hP.out];simp[h4]);exact ⟨h3,by rw[hT.out,h3,if_neg h4]⟩);have ba:(E4 != 0)=true:=by simpa using h4
     obtain ⟨z0,z1,z2,z3,z4,z5,zf,an⟩:=(show Six _ _ _ _ _ _ _ _ from a1.res);have m:=ja1 a1.hw;go_wp2;rw[d.out.1,d.out.2];exact bodyPost_ret (v:= Y #[L #[S I 0,S I 0,S I 0,S I 0,O none 0 0,O none 0 0],S I E4]) (by simp[results,Tryz.results44,go_sem,z0,z1,z2,z3,z4,z5]) rfl ⟨none,0,none,0,rfl,oL rfl,oL rfl,fun _=>rfl,fun _=>rfl,(fun x f=>by cases f),(fun x f=>by cases f),ac m.out (by omega) _ _ _ _ _ _⟩
   ·have d:Z (cF t n key col v=E2/\dm t n key col v=⟨ar,[]⟩):=(by have h3:cF t n key col v=E2:=(by unfold cF;rw[b1.out,ap,a4.out.2];simp[h2]);exact ⟨h3,by unfold dm;rw[h3,if_neg h2]⟩);have ba:(E2 != 0)=true:=by simpa using h2
    obtain ⟨z0,z1,z2,z3,z4,z5,zf,an⟩:=(show Six _ _ _ _ _ _ _ _ from u.res);have m:=ja1 u.hw;go_wp2;rw[d.out.1,d.out.2];exact bodyPost_ret (v:= Y #[L #[S I 0,S I 0,S I 0,S I 0,O none 0 0,O none 0 0],S I E2]) (by simp[results,Tryz.results44,go_sem,z0,z1,z2,z3,z4,z5]) rfl ⟨none,0,none,0,rfl,oL rfl,oL rfl,fun _=>rfl,fun _=>rfl,(fun x f=>by cases f),(fun x f=>by cases f),ac m.out (by omega) _ _ _ _ _ _⟩
 ·have d:Z (cF t n key col v=E1/\dm t n key col v=⟨ar,[]⟩):=by have h2:cF t n key col v=E1:=(by unfold cF;rw[a0,if_pos h1]);exact ⟨h2,by unfold dm;rw[h2,if_neg h1]⟩
  have ba:(E1 != 0)=true:=by simpa using h1
  obtain ⟨z0,z1,z2,z3,z4,z5,zf,an⟩:=(show Six _ _ _ _ _ _ _ _ from r.res);have m:=ja1 r.hw;go_wp2;rw[d.out.1,d.out.2];exact bodyPost_ret (v:= Y #[L #[S I 0,S I 0,S I 0,S I 0,O none 0 0,O none 0 0],S I E1]) (by simp[results,Tryz.results44,go_sem,z0,z1,z2,z3,z4,z5]) rfl ⟨none,0,none,0,rfl,oL rfl,oL rfl,fun _=>rfl,fun _=>rfl,(fun x f=>by cases f),(fun x f=>by cases f),ac m.out (by omega) _ _ _ _ _ _⟩

end Go.Proofs.YtbkjgjjpnfhkhaaGreatDoor
