import Derived.Test.YtjmmpnmgpgaagaaGreatDoorM17
import Derived.Test.YtjmmpnmgpgaagaaGreatDoorM16
set_option maxRecDepth 100000
set_option maxHeartbeats 8000000
open Go renaming World → U, Addr → K, Value → o, Calls → ic
open Go.IntKind renaming i64 → I
open Go.Obj renaming cells → J
open Go.RowKit renaming Hid → Z, Below → Y
open Go.Value renaming int → S, slice → O, tuple → P, agg → Q
namespace Go.Proofs.YtjmmpnmgpgaagaaGreatDoor
open Go.RowKit Go.Sort

structure Can (c:Ctx):Prop where
 ck:bv c=true
 right:∀y∈c.l,am y=true
 above:∀y∈c.l,clk c y.1+1<y.2
 rise:c.l.Pairwise fun x y=>br x y=true

theorem uY (x:Int×Int):br x x=false:=by simp[br]
theorem wk {x y z:Int×Int} (h:br x y=true) (k:br y z=true):br x z=true:=by rw[kv] at *;omega
theorem yI {x y:Int×Int} (h:br x y=true) (k:br y x=true):x=y:=by rw[kv] at *;omega
theorem CY {x y:Int×Int} (h:leD x y) (k:x≠y):br x y=true:=by
 rw[kv]
 rw[i6] at h
 by_cases f:x.1=y.1
 ·have:x.2≠y.2:=fun g=>k (Prod.ext f g)
  omega
 ·omega

theorem cX {c:Ctx} (h:aN c=0):Can c:=by
 have n:=bx h
 have r:=jU h
 refine ⟨n.1,r,?_,?_⟩
 ·intro y u
  obtain ⟨j,f,rfl⟩:=List.getElem_of_mem u
  have:=n.2.2 j f
  cases j with
  | zero=>rw[fw f rfl] at this;simp at this;omega
  | succ m=>rw[ee f rfl rfl] at this;simp at this;omega
 ·have step:∀m (k:m+1<c.l.length),br c.l[m] c.l[m+1]=true:=by
   intro m k
   have:=n.2.2 (m+1) k
   rw[ee k rfl rfl] at this
   simp at this
   exact this.1.2
  rw[List.pairwise_iff_getElem]
  intro i j hi f g
  obtain ⟨d,rfl⟩:∃d,j=i+d+1:=⟨j-i-1,by omega⟩
  clear g
  induction d with
  | zero=>exact step i f
  | succ d ih=>exact wk (ih (by omega)) (step (i+d+1) f)

theorem jV {c:Ctx} (h:Can c) (n:c.l.length<=400):aN c=0:=by
 refine vm h.ck n fun k f=> ?_
 have g:=h.right _ (gM f)
 have r:=h.above _ (gM f)
 cases k with
 | zero=>rw[fw f rfl,g];simp;omega
 | succ m =>
  have j:=(List.pairwise_iff_getElem.1 h.rise) m (m+1) (by omega) f (by omega)
  rw[ee f rfl rfl,g,j];simp;omega

theorem pH {c:Ctx} (h:Can c) {x:Int×Int} (f:ai c x=true):0<=x.1/\x.1<4/\1<=x.2:=by
 rcases (aG c x).1 f with hm|hm
 ·have:=ef (h.right x hm);omega
 ·omega

theorem pu {c d:Ctx} (r:Can c) (j:Can d) (h:∀x,ai c x=true->ai d x=true) (n:Int) (f:0<=n) (g:n<4):clk c n<=clk d n:=by
 have C:=cE r.ck n f g
 have u:=cE j.ck n f g
 rcases Int.lt_or_le (clk d n) (clk c n) with hlt|hle
 ·have k:ai c (n,clk d n+1)=true:=(aG _ _).2 (oR ⟨f,by show n<=3;omega,by show 1<=clk d n+1;omega,by show clk d n+1<=clk c n;omega⟩)
  rcases (aG _ _).1 (h _ k) with hm|hm
  ·have:clk d n+1<clk d n+1:=j.above _ hm
   omega
  ·have:clk d n+1<=clk d n:=hm.2.2.2
   omega
 ·exact hle

theorem tx {c d:Ctx} (f:Can c) (j:Can d) (h:∀x,ai c x=true↔ai d x=true):c=d:=by
 have g:∀n,0<=n->n<4->clk c n=clk d n:=fun n u C=>Int.le_antisymm (pu f j (fun x=>(h x).1) n u C) (pu j f (fun x=>(h x).2) n u C)
 have k:∀ {c d:Ctx},Can c->Can d->(∀x,ai c x=true↔ai d x=true)->(∀n,0<=n->n<4->clk c n=clk d n)->∀x∈c.l,x∈d.l:=by
  intro c d f j h g x hx
  have E:=(h x).1 ((aG c x).2 (oL hx))
  rcases (aG d x).1 E with k|k
  ·exact k
  ·have:=f.above x hx
   have:=g x.1 k.1 (by omega)
   omega
 have hl:c.l=d.l:=by
  refine List.Perm.eq_of_pairwise (fun a b _ _ E h2=>yI E h2) f.rise j.rise ?_
  have nd:∀ {c:Ctx},Can c->c.l.Nodup:=fun f=>f.rise.imp fun r e=>by rw[e,uY] at r;cases r
  exact (List.perm_ext_iff_of_nodup (nd f) (nd j)).2 fun x=>⟨k f j h g x,k j f (fun x=>(h x).symm) (fun n u C=>(g n u C).symm) x⟩
 have F:=g 0 (by omega) (by omega)
 have L:=g 1 (by omega) (by omega)
 have R:=g 2 (by omega) (by omega)
 have k3:=g 3 (by omega) (by omega)
 simp[clk] at F L R k3
 obtain ⟨c0,c1,c2,c3,cl⟩:=c
 obtain ⟨d0,d1,d2,d3,dl⟩:=d
 simp only at F L R k3 hl
 subst F L R k3 hl
 rfl

theorem xi {c:Ctx} {x:Int×Int} (r:am x=true) (z:Int×Int):ai (db c x) z=true↔ai c z=true\/z=x:=by
 have f:=ef r
 unfold db
 by_cases j:ai c x=true
 ·rw[if_pos j]
  constructor
  ·exact oL
  ·rintro (h|rfl)
   ·exact h
   ·exact j
 ·rw[if_neg j]
  by_cases n:x.2=clk c x.1+1
  ·rw[if_pos n,aG,aG,eB]
   constructor
   ·rintro (h|h)
    ·exact oL (oL h)
    ·rw[dV c x.1 x.2 z.1 f.1 f.2.1 h.1 (by omega)] at h
     by_cases g:z.1=x.1
     ·rw[if_pos g] at h
      by_cases k:z.2=x.2
      ·exact oR (Prod.ext g k)
      ·exact oL (oR ⟨h.1,h.2.1,h.2.2.1,by rw[g];omega⟩)
     ·rw[if_neg g] at h
      exact oL (oR h)
   ·rintro ((h|h)|rfl)
    ·exact oL h
    ·refine oR ⟨h.1,h.2.1,h.2.2.1,?_⟩
     rw[dV c x.1 x.2 z.1 f.1 f.2.1 h.1 (by omega)]
     by_cases g:z.1=x.1
     ·rw[if_pos g]
      have:=h.2.2.2
      rw[g] at this
      omega
     ·rw[if_neg g];exact h.2.2.2
    ·refine oR ⟨f.1,by omega,f.2.2.1,?_⟩
     rw[dV c z.1 z.2 z.1 f.1 f.2.1 f.1 f.2.1,if_pos rfl]
     exact Int.le_refl _
  ·rw[if_neg n,aG,aG]
   show (z∈c.l++[x]\/_)↔_
   rw[List.mem_append]
   constructor
   ·rintro ((h|h)|h)
    ·exact oL (oL h)
    ·exact oR (by simpa using h)
    ·exact oL (oR h)
   ·rintro ((h|h)|h)
    ·exact oL (oL h)
    ·exact oR h
    ·exact oL (oR (by simp[h]))

theorem zF (l:List (Int×Int)):∀(c:Ctx),(∀x∈l,am x=true)->∀z,ai (l.foldl db c) z=true↔ai c z=true\/z∈l:=by
 induction l with
 | nil=>intro c _ z;simp
 | cons x l ih =>
  intro c f z
  show ai (l.foldl db (db c x)) z=true↔_
  rw[ih (db c x) (fun y g=>f y (List.mem_cons_of_mem _ g)) z,xi (f x (List.mem_cons_self ..)),List.mem_cons]
  constructor
  ·rintro ((h|h)|h)
   ·exact oL h
   ·exact oR (oL h)
   ·exact oR (oR h)
  ·rintro (h|h|h)
   ·exact oL (oL h)
   ·exact oL (oR h)
   ·exact oR h

theorem wm {c:Ctx} {p:Option (Int×Int)} {x:Int×Int} {r:List (Int×Int)} (j:Can c) (h:Mid c p (x::r)) (F:am x=true) (hs:∀y∈r,leD x y):Can (db c x):=by
 have E:=nE h F hs
 have C:∀y∈c.l,leD y x:=fun y f=>by
  obtain ⟨q,R,L⟩:=h.last y f
  exact jo L (h.rest q R x (mS ..))
 have g:=E.2
 rw[<-E.1] at g
 have u:bv (db c x)=true:=by rw[E.1];exact sW j.ck F
 refine ⟨u,?_,g.above,?_⟩
 ·unfold db
  by_cases k:ai c x=true
  ·rw[if_pos k];exact j.right
  ·rw[if_neg k]
   by_cases n:x.2=clk c x.1+1
   ·rw[if_pos n,eB];exact j.right
   ·rw[if_neg n]
    intro y f
    rcases List.mem_append.1 f with f|f
    ·exact j.right y f
    ·obtain rfl:y=x:=by simpa using f
     exact F
 ·unfold db
  by_cases k:ai c x=true
  ·rw[if_pos k];exact j.rise
  ·rw[if_neg k]
   by_cases n:x.2=clk c x.1+1
   ·rw[if_pos n,eB];exact j.rise
   ·rw[if_neg n]
    refine List.pairwise_append.2 ⟨j.rise,List.pairwise_singleton _ _,?_⟩
    intro y f z hz
    obtain rfl:z=x:=by simpa using hz
    exact CY (C y f) fun e=>k ((aG _ _).2 (oL (by rw[<-e];exact f)))

theorem yL (l:List (Int×Int)):∀(c:Ctx) (p:Option (Int×Int)),Can c->Mid c p l->l.Pairwise leD->(∀x∈l,am x=true)->Can (l.foldl db c):=by
 induction l with
 | nil=>intro c p g _ _ _;exact g
 | cons x l ih =>
  intro c p g h r k
  have j:=List.pairwise_cons.1 r
  have n:=nE h (k x (mS ..)) j.1
  have f:=n.2
  rw[<-n.1] at f
  exact ih (db c x) (some x) (wm g h (k x (mS ..)) j.1) f j.2 (fun y u=>k y (mC _ u))

theorem yM {c:Ctx} (g:c.l=[]) (h:bv c=true):Can c :=
 ⟨h,(fun y f=>by rw[g] at f;cases f),(fun y f=>by rw[g] at f;cases f),by rw[g];exact List.Pairwise.nil⟩

theorem pE {c:Ctx} (f:c.l=[]) (h:bv c=true) {l:List (Int×Int)} (g:∀x∈l,am x=true):Can (gp c l):=by
 rw[lW f g]
 exact yL (srt l) c none (yM f h) (pO f _) (oc l) (fun x j=>g x (kT j))
theorem pF {c:Ctx} (g:c.l=[]) {l:List (Int×Int)} (f:∀x∈l,am x=true) (z:Int×Int):ai (gp c l) z=true↔ai c z=true\/z∈l:=by
 rw[lW g f,zF (srt l) c (fun x h=>f x (kT h)) z,(AD l).mem_iff]

theorem fv {a b:Ctx} (f:Can a) (g:Can b):Can (eF a b) :=
 pE rfl (sl f.ck g.ck) fun x j=>by
  rcases List.mem_append.1 j with h|h
  ·exact f.right x h
  ·exact g.right x h
theorem eS {a b:Ctx} (g:Can a) (j:Can b) (z:Int×Int):ai (eF a b) z=true↔ai a z=true\/ai b z=true:=by
 unfold eF
 rw[pF rfl (fun x k=>by
  rcases List.mem_append.1 k with h|h
  ·exact g.right x h
  ·exact j.right x h) z,List.mem_append]
 have n:ai (lY a b) z=true↔0<=z.1/\z.1<=3/\1<=z.2/\z.2<=max (clk a z.1) (clk b z.1):=by
  rw[aG,pt]
  constructor
  ·rintro (h|h)
   ·cases h
   ·exact h
  ·exact oR
 rw[n,aG,aG]
 constructor
 ·rintro (h|h|h)
  ·by_cases f:z.2<=clk a z.1
   ·exact oL (oR ⟨h.1,h.2.1,h.2.2.1,f⟩)
   ·exact oR (oR ⟨h.1,h.2.1,h.2.2.1,by omega⟩)
  ·exact oL (oL h)
  ·exact oR (oL h)
 ·rintro ((h|h)|(h|h))
  ·exact oR (oL h)
  ·exact oL ⟨h.1,h.2.1,h.2.2.1,by omega⟩
  ·exact oR (oR h)
  ·exact oL ⟨h.1,h.2.1,h.2.2.1,by omega⟩

theorem et {a b:Ctx} (h:aM a b=0):Can a/\Can b/\fD a b=0/\aK a b=eF a b/\(eF a b).l.length<=400:=by
 have f:fD a b=0:=by
  unfold aM at h
  by_cases f:fD a b=0
  ·exact f
  ·rw[if_neg f] at h;exact absurd h f
 have g:(eF a b).l.length<=400:=by
  unfold aM at h
  rw[if_pos f] at h
  by_cases g:400<(eF a b).l.length
  ·rw[if_pos g] at h;cases h
  ·omega
 exact ⟨cX (mw f).1,cX (mw f).2,f,by simp[aK,h],g⟩
theorem nu {a b:Ctx} (f:aN a=0) (g:aN b=0) (j:(eF a b).l.length<=400):aM a b=0:=by
 have h:fD a b=0:=by unfold fD;rw[if_pos f];exact g
 unfold aM
 rw[if_pos h,if_neg (by omega)]
theorem nv {a b:Ctx} (f:Can a) (g:Can b):eF a b=eF b a :=
 tx (fv f g) (fv g f) fun x=>by rw[eS f g,eS g f,or_comm]

section
open Go.Shelf Go.Lib

def fZ (b:Tab) (x:Cel):Bool:=iF b.e x.1 || !ai b.c x.1
def fJ (a:Tab) (x:Cel):Bool:= !ai a.c x.1
def both (a b:Tab):List Cel:=a.e.filter (fZ b)++b.e.filter (fJ a)
def mrg (a b:Tab):List Cel:=ip (both a b)

theorem bV {t:Tab} (h:aw t=0) {x:Cel} (n:x∈t.e):ai t.c x.1=true:=by
 obtain ⟨j,g,rfl⟩:=List.getElem_of_mem n
 have f:=(aj h).2.2 j g
 have k:t.e.getD j ((0,0),0,0,0)=t.e[j]:=by simp[g]
 unfold eG at f
 rw[k] at f
 simp only[Bool.and_eq_true] at f
 exact f.1.1
theorem eo {t:Tab} (h:aw t=0):Asc t.e:=by
 have C:=(aj h).2.2
 have step:∀j (f:j+1<t.e.length),br (t.e[j]'(by omega)).1 t.e[j+1].1=true:=by
  intro j f
  have k:=C (j+1) f
  rw[eT f rfl rfl] at k
  simp only[Bool.and_eq_true] at k
  exact k.2
 have g:∀d i (hi:i+d+1<t.e.length),br (t.e[i]'(by omega)).1 (t.e[i+d+1]'hi).1=true:=by
  intro d
  induction d with
  | zero=>intro i hi;exact step i hi
  | succ d ih =>
   intro i hi
   have n:=ih i (by omega)
   have r:=step (i+d+1) (by omega)
   exact gL n r
 unfold Asc
 rw[List.pairwise_iff_getElem]
 intro i j hi f u
 have:=g (j-i-1) i (by omega)
 have e:i+(j-i-1)+1=j:=by omega
 simp only[e] at this
 exact this
theorem jf {l:List Cel} (h:Asc l):(l.map (·.1)).Nodup:=by
 unfold List.Nodup
 rw[List.pairwise_map]
 exact h.imp fun h=>jg h
theorem jZ {l:List Cel} (h:(l.map (·.1)).Nodup):uU l:=by
 intro x g y k e
 obtain ⟨i,hi,rfl⟩:=List.getElem_of_mem g
 obtain ⟨j,f,rfl⟩:=List.getElem_of_mem k
 unfold List.Nodup at h
 rw[List.pairwise_map] at h
 rcases Nat.lt_trichotomy i j with h1|h1|h1
 ·exact absurd e ((List.pairwise_iff_getElem.1 h) i j hi f h1)
 ·subst h1;rfl
 ·exact absurd e.symm ((List.pairwise_iff_getElem.1 h) j i f hi h1)
theorem mJ {a b:Tab} (h:aw a=0) (k:aw b=0):((both a b).map (·.1)).Nodup:=by
 unfold both
 rw[List.map_append,List.nodup_append]
 refine ⟨?_,?_,?_⟩
 ·exact (jf (eo h)).sublist (List.filter_sublist.map _)
 ·exact (jf (eo k)).sublist (List.filter_sublist.map _)
 ·intro d n d' g e
  subst e
  obtain ⟨x,r,rfl⟩:=List.mem_map.1 n
  obtain ⟨y,u,e⟩:=List.mem_map.1 g
  have j:=bV h (List.mem_filter.1 r).1
  have f:=(List.mem_filter.1 u).2
  unfold fJ at f
  rw[e,j] at f
  cases f
theorem fU {a b:Tab} (f:aw a=0) (g:aw b=0):Asc (mrg a b):=AC (mJ f g)
theorem rz (a b:Tab):(both a b).length<=a.e.length+b.e.length:=by
 unfold both
 rw[List.length_append]
 have:=List.length_filter_le (fZ b) a.e
 have:=List.length_filter_le (fJ a) b.e
 omega

theorem nC (a b:Tab) (A B C D:Option K) (ca cb cc cd:Nat) (w:U) (ha:aw a=0) (hb:aw b=0) (es:Row w A a.c.l) (ev:Row w B b.c.l) (ex:bF w C a.e) (ey:bF w D b.e) :
  ic Tryz.prog 164 #[Q (T6 a A ca C cc).toArray,Q (T6 b B cb D cd).toArray] w fun e w'=>∃E ce,e= .returned (O E (mrg a b).length ce)/\bF w' E (mrg a b)/\(E=none->ce=0)/\(∀x,E=some x->w.heap.size<=x.block)/\Y w.heap.size w w':=by
 have a7:Gr w ((w.alloc (J #[S I a.c.c0,S I a.c.c1,S I a.c.c2,S I a.c.c3,O A a.c.l.length ca,O C a.e.length cc] 56)).alloc (J #[S I b.c.c0,S I b.c.c1,S I b.c.c2,S I b.c.c3,O B b.c.l.length cb,O D b.e.length cd] 56)):=((gR _).alloc _).alloc _
 have bG:TabAt ((w.alloc (J #[S I a.c.c0,S I a.c.c1,S I a.c.c2,S I a.c.c3,O A a.c.l.length ca,O C a.e.length cc] 56)).alloc (J #[S I b.c.c0,S I b.c.c1,S I b.c.c2,S I b.c.c3,O B b.c.l.length cb,O D b.e.length cd] 56)) w.heap.size a A ca C cc:=(TabAt.new 56 es ex rfl).gr ((gR _).alloc _)
 have b9:TabAt ((w.alloc (J #[S I a.c.c0,S I a.c.c1,S I a.c.c2,S I a.c.c3,O A a.c.l.length ca,O C a.e.length cc] 56)).alloc (J #[S I b.c.c0,S I b.c.c1,S I b.c.c2,S I b.c.c3,O B b.c.l.length cb,O D b.e.length cd] 56)) (w.heap.size+1) b B cb D cd:=TabAt.new 56 (ev.gr ((gR _).alloc _)) (ey.gr ((gR _).alloc _)) (by simp)
 have ba:Y w.heap.size w ((w.alloc (J #[S I a.c.c0,S I a.c.c1,S I a.c.c2,S I a.c.c3,O A a.c.l.length ca,O C a.e.length cc] 56)).alloc (J #[S I b.c.c0,S I b.c.c1,S I b.c.c2,S I b.c.c3,O B b.c.l.length cb,O D b.e.length cd] 56)):=a7.below
 have cB:a.e.length<=400:=(aj ha).2.1
 have ep:b.e.length<=400:=(aj hb).2.1
 have a5:=bG.k5
 go_enter Tryz.func164,Tryz.ntmps164
 go_wp2
 generalize ((w.alloc (J #[S I a.c.c0,S I a.c.c1,S I a.c.c2,S I a.c.c3,O A a.c.l.length ca,O C a.e.length cc] 56)).alloc (J #[S I b.c.c0,S I b.c.c1,S I b.c.c2,S I b.c.c3,O B b.c.l.length cb,O D b.e.length cd] 56))=w0 at bG b9 ba a5 ⊢
 have eg:=ja1 ha
 have em:=ja1 hb
 have cf:=ja1 (eo hb)
 have c7:Z (a.c.l.length<=maxLen/\b.c.l.length<=maxLen):=by
  have h1:=(bx (aj ha).1).2.1
  have h2:=(bx (aj hb).1).2.1
  exact ⟨nT h1 (by decide),nT h2 (by decide)⟩
 clear a5 ha hb a7
 go_loopw [5,15] (fun v i wr=>∃k:Nat,k<=a.e.length/\i= S I k/\dN wr w0.heap.size v ((a.e.take k).filter (fZ b))/\Y w0.heap.size w0 wr) (fun _ i _=>a.e.length-(intOf i).toNat)
 case atStart=>exact ⟨0,by omega,rfl,ae.nil _ _ _ _ _,bR _ _⟩
 case round =>
  obtain ⟨k,hk,rfl,r,n⟩:=hrel
  obtain ⟨A1,b7,rfl,f2,ao,e6⟩:=ae.row dQ r
  have bl:=bG.below n
  have bd:=b9.below n
  have cr:w0.heap.size<=wr.heap.size:=n.size
  by_cases cl:k<a.e.length
  ·have c8:(k:Int)<(a.e.length:Int):=by omega
   obtain ⟨bb,e5,rfl,en,bo⟩:=bF.get bl.rowC cl
   obtain ⟨x,hx⟩:∃x,a.e[k]=x:=⟨_,rfl⟩
   obtain ⟨e0,e1,e2,e3,e4⟩:=bo k cl
   rw[hx] at e0 e1 e2 e3 e4
   have a6:=iN (p:=fZ b) cl hx
   clear bo hx
   obtain ⟨M,HM⟩:∃M,(a.e.take k).filter (fZ b)=M:=⟨_,rfl⟩
   have eb:M.length<=400:=by rw[<-HM];exact nT (pA _ _ _) cB
   rw[HM] at r a6 ao ⊢
   clear HM
   have L:=ja1 r
   have ad:=ja1 n
   have a7:Gr wr (wr.alloc (J #[S I x.1.1,S I x.1.2,S I x.2.1,S I x.2.2.1,S I x.2.2.2] 187)):=(gR _).alloc _
   have bh:=CelAt.new (w:=wr) x 187 rfl
   have bN:=bd.gr a7
   have b5:=bN.k5
   obtain ⟨x0,x1,x2,x3,x4,cs⟩:=(show CelAt _ _ _ from bh)
   have c5:=lR b.e D cd x _ ep bN.rowC cf.out
   have b8:Z _:=c5
   clear r n ao c5
   go_wp2_with fail
   refine ja0 b8 ?_
   rintro e w2 ⟨ix,rfl,-,b6⟩
   clear b8 x0 x1 x2 x3 x4 b5
   have dp:=bh.gr b6
   have d5:=bN.gr b6
   have be:Gr wr w2:=a7.trans b6
   clear a7 b6 bh bN cs
   obtain ⟨x0,x1,x2,x3,x4,cs⟩:=(show CelAt _ _ _ from dp)
   cases hm:iF b.e x.1
   ·obtain ⟨b0,b1,b2,b3,b4,b5,f1,cv,d0⟩:=(show TabAt _ _ _ _ _ _ _ from d5)
    have bs:=kE b.c B cb x.1 w2 c7.out.2 cv
    have a9:Z _:=bs
    clear bs
    go_wp2_with fail
    refine ja0 a9 ?_
    rintro e w3 ⟨rfl,bp⟩
    clear a9 x0 x1 x2 x3 x4 b0 b1 b2 b3 b4 b5
    have f:Gr wr w3:=be.trans bp
    obtain ⟨x0,x1,x2,x3,x4,ds⟩:=(show CelAt _ _ _ from dp.gr bp)
    cases hq:ai b.c x.1
    ·have R:Z ((a.e.take (k+1)).filter (fZ b)=M++[x]):=by show _=_;rw[a6,if_pos (by simp[fZ,hm,hq])]
     have a8:Z (M.length+[x].length<=maxLen/\(M.length+[x].length)*40<=140737488355328):=by show _/\_;unfold maxLen;simp only[List.length_cons,List.length_nil];omega
     clear a6
     go_wp2_with (at_builtin;refine dS _ rfl _ _ rfl w0.heap.size (O A1 M.length b7) M [x] (some ⟨w3.heap.size,0,none⟩) 1 rfl rfl ?ho ?hr (fun h=>by cases h) a8.out.1 a8.out.2 ?hs ?_)
     case ho=>exact L.out.gr (f.alloc _)
     case hr=>exact kN rfl _ _
     case hs=>have:=f.size;simp;omega
     intro v1 w4 u ah
     have bn:Z (Y w0.heap.size w0 w4):=ad.out.trans (((f.alloc _).below.mono cr).trans (ae.grown_below (L.out.gr (f.alloc _)) ah (by have:=f.size;simp;omega)))
     have an:=ja1 u
     clear u ah
     go_wp2
     go_roundw
     case rel=>exact ⟨k+1,by omega,by go_num,by rw[R.out];exact an.out,bn.out⟩
     case measure=>simp[intOf];omega
    ·have R:Z ((a.e.take (k+1)).filter (fZ b)=M):=by show _=_;rw[a6,if_neg (by simp[fZ,hm,hq])];simp
     clear a6
     go_wp2
     go_roundw
     case rel=>exact ⟨k+1,by omega,by go_num,by rw[R.out];exact L.out.gr f,ad.out.trans (f.below.mono cr)⟩
     case measure=>simp[intOf];omega
   ·have R:Z ((a.e.take (k+1)).filter (fZ b)=M++[x]):=by show _=_;rw[a6,if_pos (by simp[fZ,hm])]
    have a8:Z (M.length+[x].length<=maxLen/\(M.length+[x].length)*40<=140737488355328):=by show _/\_;unfold maxLen;simp only[List.length_cons,List.length_nil];omega
    clear a6
    go_wp2_with (at_builtin;refine dS _ rfl _ _ rfl w0.heap.size (O A1 M.length b7) M [x] (some ⟨w2.heap.size,0,none⟩) 1 rfl rfl ?ho ?hr (fun h=>by cases h) a8.out.1 a8.out.2 ?hs ?_)
    case ho=>exact L.out.gr (be.alloc _)
    case hr=>exact kN rfl _ _
    case hs=>have:=be.size;simp;omega
    intro v1 w4 u ah
    have bn:Z (Y w0.heap.size w0 w4):=ad.out.trans (((be.alloc _).below.mono cr).trans (ae.grown_below (L.out.gr (be.alloc _)) ah (by have:=be.size;simp;omega)))
    have an:=ja1 u
    clear u ah
    go_wp2
    go_roundw
    case rel=>exact ⟨k+1,by omega,by go_num,by rw[R.out];exact an.out,bn.out⟩
    case measure=>simp[intOf];omega
  ·have c8:¬(k:Int)<(a.e.length:Int):=by omega
   have bt:a.e.take k=a.e:=List.take_of_length_le (by omega)
   rw[bt] at r ao ⊢
   clear bt
   have b5:=bd.k5
   obtain ⟨F,HF⟩:∃F,a.e.filter (fZ b)=F:=⟨_,rfl⟩
   have f4:F.length<=400:=by rw[<-HF];exact nT (List.length_filter_le _ _) cB
   rw[HF] at r ao ⊢
   have dz:=ja1 HF
   have c9:=ja1 r
   have cj:=ja1 n
   clear HF r n ao bl
   go_wp2
   clear b5 bd
   go_loopw [5,43] (fun v i wq=>∃k:Nat,k<=b.e.length/\i= S I k/\dN wq w0.heap.size v (F++(b.e.take k).filter (fJ a))/\Y w0.heap.size w0 wq) (fun _ i _=>b.e.length-(intOf i).toNat)
   case atStart=>exact ⟨0,by omega,rfl,by simpa using c9.out,cj.out⟩
   case round =>
    rename U=>wq
    obtain ⟨j,hj,rfl,r,n⟩:=hrel
    obtain ⟨A2,cA,rfl,f3,ap,fn⟩:=ae.row dQ r
    have bl:=bG.below n
    have bd:=b9.below n
    have cp:w0.heap.size<=wq.heap.size:=n.size
    by_cases ck:j<b.e.length
    ·have cm:(j:Int)<(b.e.length:Int):=by omega
     obtain ⟨bb,e5,rfl,en,bo⟩:=bF.get bd.rowC ck
     obtain ⟨x,hx⟩:∃x,b.e[j]=x:=⟨_,rfl⟩
     obtain ⟨e0,e1,e2,e3,e4⟩:=bo j ck
     rw[hx] at e0 e1 e2 e3 e4
     have a6:=iN (p:=fJ a) ck hx
     clear bo hx
     obtain ⟨M,HM⟩:∃M,F++(b.e.take j).filter (fJ a)=M:=⟨_,rfl⟩
     have eb:M.length<=800:=by
      rw[<-HM,List.length_append]
      have:=pA (fJ a) b.e j
      omega
     have bc:F++(b.e.take (j+1)).filter (fJ a)=M++(if fJ a x then [x] else []):=by rw[a6,<-List.append_assoc,HM]
     rw[HM] at r ap ⊢
     clear HM a6
     have L:=ja1 r
     have ad:=ja1 n
     have a7:Gr wq (wq.alloc (J #[S I x.1.1,S I x.1.2,S I x.2.1,S I x.2.2.1,S I x.2.2.2] 187)):=(gR _).alloc _
     have bh:=CelAt.new (w:=wq) x 187 rfl
     have d4:=bl.gr a7
     obtain ⟨a0,a1,a2,a3,a4,a5,f0,cu,dG⟩:=(show TabAt _ _ _ _ _ _ _ from d4)
     obtain ⟨x0,x1,x2,x3,x4,cs⟩:=(show CelAt _ _ _ from bh)
     have bs:=kE a.c A ca x.1 _ c7.out.1 cu
     have a9:Z _:=bs
     clear r n ap bs
     go_wp2_with fail
     refine ja0 a9 ?_
     rintro e w3 ⟨rfl,bp⟩
     clear a9 x0 x1 x2 x3 x4 a0 a1 a2 a3 a4 a5
     have f:Gr wq w3:=a7.trans bp
     obtain ⟨x0,x1,x2,x3,x4,ds⟩:=(show CelAt _ _ _ from bh.gr bp)
     cases hq:ai a.c x.1
     ·have R:Z (F++(b.e.take (j+1)).filter (fJ a)=M++[x]):=by show _=_;rw[bc,if_pos (by simp[fJ,hq])]
      have a8:Z (M.length+[x].length<=maxLen/\(M.length+[x].length)*40<=140737488355328):=by show _/\_;unfold maxLen;simp only[List.length_cons,List.length_nil];omega
      clear bc
      go_wp2_with (at_builtin;refine dS _ rfl _ _ rfl w0.heap.size (O A2 M.length cA) M [x] (some ⟨w3.heap.size,0,none⟩) 1 rfl rfl ?ho ?hr (fun h=>by cases h) a8.out.1 a8.out.2 ?hs ?_)
      case ho=>exact L.out.gr (f.alloc _)
      case hr=>exact kN rfl _ _
      case hs=>have:=f.size;simp;omega
      intro v1 w4 u ah
      have bn:Z (Y w0.heap.size w0 w4):=ad.out.trans (((f.alloc _).below.mono cp).trans (ae.grown_below (L.out.gr (f.alloc _)) ah (by have:=f.size;simp;omega)))
      have an:=ja1 u
      clear u ah
      go_wp2
      go_roundw
      case rel=>exact ⟨j+1,by omega,by go_num,by rw[R.out];exact an.out,bn.out⟩
      case measure=>simp[intOf];omega
     ·have R:Z (F++(b.e.take (j+1)).filter (fJ a)=M):=by show _=_;rw[bc,if_neg (by simp[fJ,hq])];simp
      clear bc
      go_wp2
      go_roundw
      case rel=>exact ⟨j+1,by omega,by go_num,by rw[R.out];exact L.out.gr f,ad.out.trans (f.below.mono cp)⟩
      case measure=>simp[intOf];omega
    ·have cm:¬(j:Int)<(b.e.length:Int):=by omega
     have bt:b.e.take j=b.e:=List.take_of_length_le (by omega)
     rw[bt] at r ap ⊢
     clear bt
     have c4:F++b.e.filter (fJ a)=both a b:=by unfold both;rw[dz.out]
     rw[c4] at r ap ⊢
     have hM:=rz a b
     have dl:=AA (fun x y=>E9 x y) 120 #[] (enters_of Tryz.func120 (by kernel_rfl) rfl) w0.heap.size _ (both a b) wq (fun g=>D1 g 0 _ wq) (jZ (mJ eg.out em.out)) r cp (by omega)
     have bC:Z _:=dl
     have c6:Y w.heap.size w wq:=ba.trans (n.mono ba.size)
     have dk:=ba.size
     have cn:Z (mrg a b=ip (both a b)):=rfl
     clear dl r ap c4 bd bl
     generalize both a b=M at bC cn ⊢
     go_wp2_with fail
     refine ja0 bC ?_
     rintro e w4 ⟨rfl,⟨E,ce,ez,er,d6,ea⟩,ej⟩
     clear bC
     go_wp2
     go_ret
     exact ⟨E,ce,by rw[cn.out,<-ez];rfl,by rw[cn.out];exact er,d6,fun x hx=>nT dk (ea x hx),c6.trans (ej.mono dk)⟩

end

def dU (a b:Tab):Bool:=a.e.any (clP b.e)
def au (a b:Tab):Int:=if aw a≠0 then aw a else if aw b≠0 then aw b else if dU a b then 5 else if aM a.c b.c≠0 then aM a.c b.c else if 400<(mrg a b).length then 2 else 0
def ag (a b:Tab):Tab:=if au a b=0 then ⟨aK a.c b.c,mrg a b⟩ else ⟨aI,[]⟩

theorem gA {a b:Tab} {E:Int} (h:au a b=E) (f:E≠0):au a b=E/\ag a b=⟨aI,[]⟩:=⟨h,by unfold ag;rw[h,if_neg f]⟩

structure MergeAt (w W:U) (a b:Tab) (A:Option K) (ca:Nat) (C:Option K) (cc:Nat) (B:Option K) (cb:Nat) (D:Option K) (cd:Nat):Prop where
 ta:TabAt W w.heap.size a A ca C cc
 tb:TabAt W (w.heap.size+1) b B cb D cd
 res:B5 W (w.heap.size+1+1)
 hw:Y w.heap.size w W
theorem MergeAt.below {w W f:U} {a b:Tab} {A B C D:Option K} {ca cb g j:Nat} (h:MergeAt w W a b A ca C g B cb D j) (k:Y W.heap.size W f):MergeAt w f a b A ca C g B cb D j :=
 ⟨h.ta.below k,h.tb.below k,h.res.below k,h.hw.trans (k.mono h.hw.size)⟩
theorem MergeAt.gr {w W f:U} {a b:Tab} {A B C D:Option K} {ca cb g j:Nat} (h:MergeAt w W a b A ca C g B cb D j) (k:Gr W f):MergeAt w f a b A ca C g B cb D j:=h.below k.below

theorem jq (a b:Tab) (A B C D:Option K) (ca cb cc cd:Nat) (w:U) (cj:a.c.l.length<=maxLen) (cv:b.c.l.length<=maxLen) (bb:a.e.length<=maxLen) (bo:b.e.length<=maxLen) (hA:A=none->ca=0) (hB:B=none->cb=0) (ds:Row w A a.c.l) (dz:Row w B b.c.l) (dG:bF w C a.e) (d0:bF w D b.e) :
  ic Tryz.prog 129 #[Q (T6 a A ca C cc).toArray,Q (T6 b B cb D cd).toArray] w fun e w'=>∃E ce F cf,e= .returned (P #[Q (T6 (ag a b) E ce F cf).toArray,S I (au a b)])/\Row w' E (ag a b).c.l/\bF w' F (ag a b).e/\(E=none->ce=0)/\(F=none->cf=0)/\(∀x,E=some x->w.heap.size<=x.block)/\(∀x,F=some x->w.heap.size<=x.block)/\Y w.heap.size w w':=by
 have an:MergeAt w (((w.alloc (J #[S I a.c.c0,S I a.c.c1,S I a.c.c2,S I a.c.c3,O A a.c.l.length ca,O C a.e.length cc] 56)).alloc (J #[S I b.c.c0,S I b.c.c1,S I b.c.c2,S I b.c.c3,O B b.c.l.length cb,O D b.e.length cd] 56)).alloc (J #[S I 0,S I 0,S I 0,S I 0,O none 0 0,O none 0 0] 56)) a b A ca C cc B cb D cd :=
  ⟨(TabAt.new 56 ds dG rfl).gr (((gR _).alloc _).alloc _),(TabAt.new 56 (dz.gr ((gR _).alloc _)) (d0.gr ((gR _).alloc _)) (by simp)).gr ((gR _).alloc _),Six.new _ _ _ _ _ _ _ 56 (by simp),((((gR w).alloc _).alloc _).alloc _).below⟩
 have bh:Z (a.c.l.length<=maxLen/\b.c.l.length<=maxLen/\a.e.length<=maxLen/\b.e.length<=maxLen):=⟨cj,cv,bb,bo⟩
 have cp:Z ((A=none->ca=0)/\(B=none->cb=0)):=⟨hA,hB⟩
 have bc:=eM a A ca C cc _ cj bb an.ta.row an.ta.rowC
 have L:Z _:=bc
 clear bc cj cv bb bo ds dz dG d0 hA hB
 go_enter Tryz.func129,Tryz.ntmps129
 go_wp2_with fail
 refine ja0 L ?_
 rintro e w1 ⟨rfl,c6⟩
 clear L
 have ba:=an.gr c6
 clear an c6
 obtain ⟨E1,a8⟩:∃E,aw a=E:=⟨_,rfl⟩
 rw[a8]
 by_cases h1:E1=0
 ·subst h1
  have R:Z (aw a=0):=a8
  clear a8
  obtain ⟨b0,b1,b2,b3,b4,b5,a6,j,g⟩:=(show TabAt _ _ _ _ _ _ _ from ba.tb)
  have bc:=eM b B cb D cd w1 bh.out.2.1 bh.out.2.2.2 j g
  have L:Z _:=bc
  clear bc j g
  go_wp2_with fail
  refine ja0 L ?_
  rintro e w2 ⟨rfl,c7⟩
  clear L b0 b1 b2 b3 b4 b5 a6
  have u:=ba.gr c7
  clear ba c7
  obtain ⟨E2,a9⟩:∃E,aw b=E:=⟨_,rfl⟩
  rw[a9]
  by_cases h2:E2=0
  ·subst h2
   have ad:Z (aw b=0):=a9
   clear a9
   have a5:=u.ta.k5
   have b5:=u.tb.k5
   have cB:=wu a.e b.e C D cc cd w2 (aj R.out).2.1 (aj ad.out).2.1 u.ta.rowC u.tb.rowC (eo ad.out)
   have bp:Z _:=cB
   clear cB
   go_wp2_with fail
   refine ja0 bp ?_
   rintro e w3 ⟨rfl,c8⟩
   clear bp a5 b5
   have ah:=u.gr c8
   clear u c8
   obtain ⟨ep,hK⟩:∃ep,a.e.any (clP b.e)=ep:=⟨_,rfl⟩
   rw[hK]
   cases ep
   ·have b8:Z (dU a b=false):=hK
    clear hK
    obtain ⟨a0,a1,a2,a3,a4,a5,bC,r,n⟩:=(show TabAt _ _ _ _ _ _ _ from ah.ta)
    obtain ⟨b0,b1,b2,b3,b4,b5,a6,j,g⟩:=(show TabAt _ _ _ _ _ _ _ from ah.tb)
    have dk:=sm a.c b.c A B ca cb w3 bh.out.1 bh.out.2.1 r j cp.out.1 cp.out.2
    have bs:Z _:=dk
    clear dk r j n g bC a6
    go_wp2_with fail
    refine ja0 bs ?_
    rintro e w4 ⟨C4,p4,rfl,cm,d4,a7,cu⟩
    clear bs a0 a1 a2 a3 a4 a5 b0 b1 b2 b3 b4 b5
    have b6:=ah.below cu
    have ej:=ah.res.lt
    have cs:Z (∀x,C4=some x->w.heap.size<=x.block):=fun x h=>by have:=a7 x h;omega
    have cr:Z (∀x,C4=some x->x.block≠w.heap.size+1+1):=fun x h=>by have:=a7 x h;omega
    clear ah cu a7
    obtain ⟨en,hJ⟩:∃en,aK a.c b.c=en:=⟨_,rfl⟩
    obtain ⟨E4,bN⟩:∃E,aM a.c b.c=E:=⟨_,rfl⟩
    rw[hJ] at cm ⊢
    rw[bN]
    have be:Z (aK a.c b.c=en/\aM a.c b.c=E4):=⟨hJ,bN⟩
    clear hJ bN
    have c9:Gr w4 (w4.alloc (J (ja7 en C4 p4) 53)):=(gR _).alloc _
    have ao:=b6.gr c9
    have cA:CtxAt (w4.alloc (J (ja7 en C4 p4) 53)) w4.heap.size en C4 p4:=CtxAt.new (c:=en) 53 cm rfl
    have em:=b6.res.lt
    clear b6 c9 cm
    by_cases h4:E4=0
    ·subst h4
     obtain ⟨a0,a1,a2,a3,a4,a5,bC,r,n⟩:=(show TabAt _ _ _ _ _ _ _ from ao.ta)
     obtain ⟨b0,b1,b2,b3,b4,b5,a6,j,g⟩:=(show TabAt _ _ _ _ _ _ _ from ao.tb)
     have dl:=nC a b A B C D ca cb cc cd _ R.out ad.out r j n g
     have bt:Z _:=dl
     clear dl r j n g bC a6
     go_wp2_with fail
     refine ja0 bt ?_
     rintro e w6 ⟨F,cf,rfl,cn,an,b7,ck⟩
     clear bt a0 a1 a2 a3 a4 a5 b0 b1 b2 b3 b4 b5
     have bd:=ao.below ck
     have ea:=cA.below ck
     have d6:Z (∀x,F=some x->w.heap.size<=x.block):=fun x h=>by have:=b7 x h;simp at this;omega
     have d5:Z (∀x,F=some x->x.block≠w.heap.size+1+1):=fun x h=>by have:=b7 x h;simp at this;omega
     clear ao cA ck b7
     obtain ⟨M,hM⟩:∃M,mrg a b=M:=⟨_,rfl⟩
     rw[hM] at cn ⊢
     have eg:M.length<=800:=by
      rw[<-hM]
      unfold mrg
      rw[j7]
      have h1:=rz a b
      have h2:=(aj R.out).2.1
      have h3:=(aj ad.out).2.1
      omega
     have b9:Z (mrg a b=M):=hM
     clear hM
     by_cases bn:400<M.length
     ·have bG:(400:Int)<(M.length:Int):=by omega
      have f:Z (au a b=2/\ag a b=⟨aI,[]⟩):=gA (by unfold au;rw[R.out,ad.out,b8.out,be.out.2,b9.out];simp[bn]) (by decide)
      obtain ⟨z0,z1,z2,z3,z4,z5,zf,ap⟩:=(show Six _ _ _ _ _ _ _ _ from bd.res)
      have k:Z (Y w.heap.size w _):=bd.hw
      go_wp2
      rw[f.out.1,f.out.2]
      exact bodyPost_ret (v:= P #[Q #[S I 0,S I 0,S I 0,S I 0,O none 0 0,O none 0 0],S I 2]) (by simp[results,Tryz.results129,go_sem,z0,z1,z2,z3,z4,z5]) rfl ⟨none,0,none,0,rfl,oL rfl,oL rfl,fun _=>rfl,fun _=>rfl,(fun x h=>by cases h),(fun x h=>by cases h),ak k.out (by omega) _ _ _ _ _ _⟩
     ·have bG:¬(400:Int)<(M.length:Int):=by omega
      have f:Z (au a b=0/\ag a b=⟨en,M⟩):=by
       have h0:au a b=0:=by unfold au;rw[R.out,ad.out,b8.out,be.out.2,b9.out];simp;omega
       exact ⟨h0,by unfold ag;rw[h0,if_pos rfl,be.out.1,b9.out]⟩
      obtain ⟨z0,z1,z2,z3,z4,z5,zf,ap⟩:=(show Six _ _ _ _ _ _ _ _ from bd.res)
      obtain ⟨c0,c1,c2,c3,c4,eb,bl⟩:=(show CtxAt _ _ _ _ _ from ea)
      have k:Z (Y w.heap.size w _):=bd.hw
      have cl:Z (Row _ C4 en.l):=bl
      have dp:Z (bF _ F M):=cn
      clear bl cn bn
      go_wp2
      rw[f.out.1,f.out.2]
      have h1:=cr.out
      have h2:=d5.out
      exact bodyPost_ret (v:= P #[Q #[S I en.c0,S I en.c1,S I en.c2,S I en.c3,O C4 en.l.length p4,O F M.length cf],S I 0]) (by simp[results,Tryz.results129,go_sem,z0,z1,z2,z3,z4,z5]) rfl ⟨C4,p4,F,cf,rfl,(((((cl.out.setCell _ h1).setCell _ h1).setCell _ h1).setCell _ h1).setCell _ h1).setCell _ h1,(((((dp.out.setCell _ h2).setCell _ h2).setCell _ h2).setCell _ h2).setCell _ h2).setCell _ h2,d4,an,cs.out,d6.out,ak k.out (by omega) _ _ _ _ _ _⟩
    ·have f:Z (au a b=E4/\ag a b=⟨aI,[]⟩):=gA (by unfold au;rw[R.out,ad.out,b8.out,be.out.2];simp[h4]) h4
     have c5:(E4 != 0)=true:=by simpa using h4
     clear h4
     obtain ⟨z0,z1,z2,z3,z4,z5,zf,ap⟩:=(show Six _ _ _ _ _ _ _ _ from ao.res)
     have k:Z (Y w.heap.size w _):=ao.hw
     go_upto_region 11 with fail
     generalize w4.alloc (J (ja7 en C4 p4) 53)=V at z0 z1 z2 z3 z4 z5 zf ap k ⊢
     go_wp2
     rw[f.out.1,f.out.2]
     exact bodyPost_ret (v:= P #[Q #[S I 0,S I 0,S I 0,S I 0,O none 0 0,O none 0 0],S I E4]) (by simp[results,Tryz.results129,go_sem,z0,z1,z2,z3,z4,z5]) rfl ⟨none,0,none,0,rfl,oL rfl,oL rfl,fun _=>rfl,fun _=>rfl,(fun x h=>by cases h),(fun x h=>by cases h),ak k.out (by omega) _ _ _ _ _ _⟩
   ·have f:Z (au a b=5/\ag a b=⟨aI,[]⟩):=gA (by unfold au dU;rw[R.out,ad.out,hK];simp) (by decide)
    clear hK
    obtain ⟨z0,z1,z2,z3,z4,z5,zf,ap⟩:=(show Six _ _ _ _ _ _ _ _ from ah.res)
    have k:Z (Y w.heap.size w _):=ah.hw
    go_wp2
    rw[f.out.1,f.out.2]
    exact bodyPost_ret (v:= P #[Q #[S I 0,S I 0,S I 0,S I 0,O none 0 0,O none 0 0],S I 5]) (by simp[results,Tryz.results129,go_sem,z0,z1,z2,z3,z4,z5]) rfl ⟨none,0,none,0,rfl,oL rfl,oL rfl,fun _=>rfl,fun _=>rfl,(fun x h=>by cases h),(fun x h=>by cases h),ak k.out (by omega) _ _ _ _ _ _⟩
  ·have f:Z (au a b=E2/\ag a b=⟨aI,[]⟩):=gA (by unfold au;rw[R.out,a9];simp[h2]) h2
   have c5:(E2 != 0)=true:=by simpa using h2
   clear h2 a9
   obtain ⟨z0,z1,z2,z3,z4,z5,zf,ap⟩:=(show Six _ _ _ _ _ _ _ _ from u.res)
   have k:Z (Y w.heap.size w _):=u.hw
   go_wp2
   rw[f.out.1,f.out.2]
   exact bodyPost_ret (v:= P #[Q #[S I 0,S I 0,S I 0,S I 0,O none 0 0,O none 0 0],S I E2]) (by simp[results,Tryz.results129,go_sem,z0,z1,z2,z3,z4,z5]) rfl ⟨none,0,none,0,rfl,oL rfl,oL rfl,fun _=>rfl,fun _=>rfl,(fun x h=>by cases h),(fun x h=>by cases h),ak k.out (by omega) _ _ _ _ _ _⟩
 ·have f:Z (au a b=E1/\ag a b=⟨aI,[]⟩):=gA (by unfold au;rw[a8];simp[h1]) h1
  have c5:(E1 != 0)=true:=by simpa using h1
  clear h1 a8
  obtain ⟨z0,z1,z2,z3,z4,z5,zf,ap⟩:=(show Six _ _ _ _ _ _ _ _ from ba.res)
  have k:Z (Y w.heap.size w _):=ba.hw
  go_wp2
  rw[f.out.1,f.out.2]
  exact bodyPost_ret (v:= P #[Q #[S I 0,S I 0,S I 0,S I 0,O none 0 0,O none 0 0],S I E1]) (by simp[results,Tryz.results129,go_sem,z0,z1,z2,z3,z4,z5]) rfl ⟨none,0,none,0,rfl,oL rfl,oL rfl,fun _=>rfl,fun _=>rfl,(fun x h=>by cases h),(fun x h=>by cases h),ak k.out (by omega) _ _ _ _ _ _⟩


def dL (t:Tab) (n key col v:Int):Int :=
 if aw t≠0 then aw t else if aX key col v=false then 1 else if (bi t.c n).2≠0 then (bi t.c n).2
 else if bL (ar (dn key col) t.e)≠0 then bL (ar (dn key col) t.e) else if bL [(bi t.c n).1]≠0 then bL [(bi t.c n).1]
 else aM (aH (ar (dn key col) t.e)) (aH [(bi t.c n).1])
def dc (t:Tab) (n key col v:Int):Tab :=
 if dL t n key col v=0 then ⟨aK (aH (ar (dn key col) t.e)) (aH [(bi t.c n).1]),[((bi t.c n).1,key,col,v)]⟩ else ⟨aI,[]⟩

structure PutAt (w W:U) (t:Tab) (A:Option K) (ca:Nat) (D:Option K) (cd:Nat) (key col:Int):Prop where
 tab:TabAt W w.heap.size t A ca D cd
 key:W.cell? ⟨w.heap.size+1,0,none⟩=some (S I key)
 col:W.cell? ⟨w.heap.size+1+1,0,none⟩=some (S I col)
 res:B5 W (w.heap.size+1+1+1)
 hw:Y w.heap.size w W
theorem PutAt.below {w W f:U} {t:Tab} {A:Option K} {ca:Nat} {D:Option K} {g:Nat} {key col:Int} (h:PutAt w W t A ca D g key col) (k:Y W.heap.size W f):PutAt w f t A ca D g key col :=
 ⟨h.tab.below k,(k.cell (p:=⟨w.heap.size+1,0,none⟩) (show w.heap.size+1<_ by have:=h.res.lt;omega)).trans h.key,(k.cell (p:=⟨w.heap.size+1+1,0,none⟩) (show w.heap.size+1+1<_ by have:=h.res.lt;omega)).trans h.col,h.res.below k,h.hw.trans (k.mono h.hw.size)⟩
theorem PutAt.gr {w W f:U} {t:Tab} {A:Option K} {ca:Nat} {D:Option K} {g:Nat} {key col:Int} (h:PutAt w W t A ca D g key col) (k:Gr W f):PutAt w f t A ca D g key col:=h.below k.below

theorem C0 {W:U} {n:Nat} (u:W.heap.size=n) (x:Cel) (T:TypeId):bF (W.alloc (J #[S I x.1.1,S I x.1.2,S I x.2.1,S I x.2.2.1,S I x.2.2.2] T)) (some ⟨n,0,none⟩) [x]:=by
 subst u
 refine oR ⟨W.heap.size,0,rfl,by simp,fun j r i hi=> ?_⟩
 have k:j=0:=by simp at r;omega
 subst k
 have f:=fun (i:Nat) (v:o) (h:(#[S I x.1.1,S I x.1.2,S I x.2.1,S I x.2.2.1,S I x.2.2.2]:Array o)[i]? = some v)=>aa (w:=W) (gR (W.alloc (J #[S I x.1.1,S I x.1.2,S I x.2.1,S I x.2.2.1,S I x.2.2.2] T))) (j:=i) h
 have g:i=0\/i=1\/i=2\/i=3\/i=4:=by omega
 rcases g with rfl|rfl|rfl|rfl|rfl
 ·exact f 0 _ rfl
 ·exact f 1 _ rfl
 ·exact f 2 _ rfl
 ·exact f 3 _ rfl
 ·exact f 4 _ rfl

def Fz (W:U) (B:Nat):Prop:=B<W.heap.size/\∀j,W.frozen? ⟨B,j,none⟩=false
theorem Fz.below {W f:U} {B:Nat} (h:Fz W B) (k:Y W.heap.size W f):Fz f B:=⟨nL h.1 k.size,fun j=>(k.frozen (p:=⟨B,j,none⟩) h.1).trans (h.2 j)⟩
theorem Fz.gr {W f:U} {B:Nat} (h:Fz W B) (k:Gr W f):Fz f B:=h.below k.below
theorem Fz.new (W:U) (C1:Array o) (T1:TypeId):Fz (W.alloc (J C1 T1)) W.heap.size:=⟨by simp,fun j=>f9 (gR _) j⟩

theorem uf {W:U} {A:K} {N:Int×Int} (g:Row W (some A) [N]) :
  ic Tryz.prog 199 #[O (some A) 1 1] W fun e w'=>∃C f,e= .returned (P #[Q (ja7 (aH [N]) C f),S I (bL [N])])/\Row w' C (aH [N]).l/\(C=none->f=0)/\(∀a,C=some a->W.heap.size<=a.block)/\Y W.heap.size W w' :=
 sr [N] (some A) 1 W (by simp[maxLen]) (fun h=>by cases h) g

theorem lz (l:List (Int×Int)) (h:l.length<=400):(aH l).l.length<=maxLen:=by
 refine nT (m:=400) ?_ (by decide)
 unfold aH
 by_cases f:bL l=0
 ·rw[if_pos f]
  unfold gp
  have:=jX aI (srt l) (srt l).length
  rw[fI] at this ⊢
  have g:aI.l.length=0:=rfl
  omega
 ·rw[if_neg f]
  exact nZ _

theorem BU (t:Tab) (A:Option K) (ca:Nat) (D:Option K) (cd:Nat) (n key col v:Int) (w:U) (hl:t.c.l.length<=maxLen) (f0:t.e.length<=maxLen) (hr:Row w A t.c.l) (hd:bF w D t.e) :
  ic Tryz.prog 166 #[Q (T6 t A ca D cd).toArray,S I n,S I key,S I col,S I v] w fun e w'=>∃C cp D' cB,e= .returned (P #[Q (T6 (dc t n key col v) C cp D' cB).toArray,S I (dL t n key col v)])/\Row w' C (dc t n key col v).c.l/\bF w' D' (dc t n key col v).e/\(C=none->cp=0)/\(D'=none->cB=0)/\(∀x,C=some x->w.heap.size<=x.block)/\(∀x,D'=some x->w.heap.size<=x.block)/\Y w.heap.size w w':=by
 have bs:PutAt w ((((w.alloc (J #[S I t.c.c0,S I t.c.c1,S I t.c.c2,S I t.c.c3,O A t.c.l.length ca,O D t.e.length cd] 56)).alloc (J #[S I key] 3)).alloc (J #[S I col] 3)).alloc (J #[S I 0,S I 0,S I 0,S I 0,O none 0 0,O none 0 0] 56)) t A ca D cd key col :=
  ⟨(TabAt.new 56 hr hd rfl).gr ((((gR _).alloc _).alloc _).alloc _),l9 (((gR _).alloc _).alloc _) rfl,(by have h:=l9 (w:=w.alloc (J #[S I t.c.c0,S I t.c.c1,S I t.c.c2,S I t.c.c3,O A t.c.l.length ca,O D t.e.length cd] 56)) (C1:= #[S I key]) (T1:=3) (C2:= #[S I col]) (T2:=3) ((gR _).alloc (J #[S I 0,S I 0,S I 0,S I 0,O none 0 0,O none 0 0] 56)) (j:=0) rfl;rw[World.size_alloc] at h;exact h),Six.new _ _ _ _ _ _ _ 56 (by simp),(((((gR w).alloc _).alloc _).alloc _).alloc _).below⟩
 have ej:=eM t A ca D cd _ hl f0 bs.tab.row bs.tab.rowC
 have b7:Z _:=ej
 have f3:=ja1 hl
 clear ej hl
 go_enter Tryz.func166,Tryz.ntmps166
 go_wp2_with fail
 refine ja0 b7 ?_
 rintro e w1 ⟨rfl,es⟩
 clear b7
 have u:=bs.gr es
 clear bs es
 obtain ⟨E1,a2⟩:∃E,aw t=E:=⟨_,rfl⟩
 rw[a2]
 by_cases h1:E1=0
 ·subst h1
  have cl:=ja1 a2
  have b9:t.e.length<=400:=(aj a2).2.1
  clear a2
  cases bn:aX key col v
  ·have f:Z (dL t n key col v=1/\dc t n key col v=⟨aI,[]⟩):=by
    have h1:dL t n key col v=1:=by simp[dL,cl.out,bn]
    exact ⟨h1,by unfold dc;rw[h1];rfl⟩
   obtain ⟨z0,z1,z2,z3,z4,z5,zf,a3⟩:=(show Six _ _ _ _ _ _ _ _ from u.res)
   have bh:=u.key
   have bd:=u.col
   have L:=ja1 u.hw
   go_wp2_with (go_at_call 119;refine (gq bn _).mono ?_;rintro e w1 ⟨rfl,rfl⟩)
   rw[f.out.1,f.out.2]
   exact bodyPost_ret (v:= P #[Q #[S I 0,S I 0,S I 0,S I 0,O none 0 0,O none 0 0],S I 1]) (by simp[results,Tryz.results166,go_sem,z0,z1,z2,z3,z4,z5]) rfl ⟨none,0,none,0,rfl,oL rfl,oL rfl,fun _=>rfl,fun _=>rfl,(fun x g=>by cases g),(fun x g=>by cases g),ak L.out (by omega) _ _ _ _ _ _⟩
  ·obtain ⟨k0,k1,k2,k3,k4,k5,cA,a1,ah⟩:=(show TabAt _ _ _ _ _ _ _ from u.tab)
   have bh:=u.key
   have bd:=u.col
   have ez:=A9 t.c A ca n w1 f3.out a1
   have ce:Z _:=ez
   clear ez
   go_wp2_with (first|(go_at_call 119;refine (gq bn _).mono ?_;rintro e w1 ⟨rfl,rfl⟩)|fail)
   refine ja0 ce ?_
   rintro e w2 ⟨rfl,ev⟩
   clear ce k0 k1 k2 k3 k4 k5 cA a1 ah bh bd
   have dk:=u.gr ev
   clear u ev
   obtain ⟨N,hN⟩:∃N,(bi t.c n).1=N:=⟨_,rfl⟩
   obtain ⟨E2,cf⟩:∃E,(bi t.c n).2=E:=⟨_,rfl⟩
   rw[hN,cf]
   have a8:=ja2 hN cf
   clear hN cf
   go_upto_region 7 with fail
   have R:=dk.gr ((gR _).alloc (J #[S I N.1,S I N.2] 185))
   have bl:DotAt (w2.alloc (J #[S I N.1,S I N.2] 185)) w2.heap.size N.1 N.2:=DotAt.new 185 rfl
   generalize w2.alloc (J #[S I N.1,S I N.2] 185)=w3 at R bl ⊢
   generalize w2.heap.size=bN at bl ⊢
   clear dk
   by_cases h2:E2=0
   ·subst h2
    have hP:Z (dL t n key col v=if bL (ar (dn key col) t.e)≠0 then bL (ar (dn key col) t.e) else if bL [N]≠0 then bL [N] else aM (aH (ar (dn key col) t.e)) (aH [N])):=by
     show dL t n key col v=_
     unfold dL
     rw[cl.out,bn,a8.out.1,a8.out.2]
     rfl
    have hT:Z (dc t n key col v=if dL t n key col v=0 then ⟨aK (aH (ar (dn key col) t.e)) (aH [N]),[(N,key,col,v)]⟩ else ⟨aI,[]⟩):=by
     show dc t n key col v=_
     unfold dc
     rw[a8.out.1]
    clear a8
    obtain ⟨k0,k1,k2,k3,k4,k5,cA,a1,ah⟩:=(show TabAt _ _ _ _ _ _ _ from R.tab)
    have bh:=R.key
    have bd:=R.col
    have f6:=R.res.lt
    have eg:∀b6 w,(callFunc 198 b6).run Tryz.prog w= .ok (.enter 198 b6) w:=enters_of Tryz.func198 (by kernel_rfl) rfl
    have em:=jH (dn key col) 198 #[.pointer (some ⟨w.heap.size+1,0,none⟩),.pointer (some ⟨w.heap.size+1+1,0,none⟩)] eg t.e D cd w3 b9 ah (fun W hW x=>zu key col (w.heap.size+1) (w.heap.size+1+1) x W (by have:=hW.size;omega) (by have:=hW.size;omega) ((hW.cell (p:=⟨w.heap.size+1,0,none⟩) (show w.heap.size+1<_ by omega)).trans bh) ((hW.cell (p:=⟨w.heap.size+1+1,0,none⟩) (show w.heap.size+1+1<_ by omega)).trans bd))
    have b8:Z _:=em
    have ds:Z ((aH (ar (dn key col) t.e)).l.length<=maxLen):=lz _ (nT (dX _ _) b9)
    have dG:Z ((aH [N]).l.length<=maxLen):=lz _ (by simp)
    clear em
    go_wp2_with fail
    refine ja0 b8 ?_
    rintro e w4 ⟨C4,ao,rfl,cs,e2,_,a9⟩
    clear b8 k0 k1 k2 k3 k4 k5 cA a1 ah bh bd f6 eg
    obtain ⟨F,dp⟩:∃F,aH (ar (dn key col) t.e)=F:=⟨_,rfl⟩
    obtain ⟨E4,c7⟩:∃E,bL (ar (dn key col) t.e)=E:=⟨_,rfl⟩
    rw[dp] at cs hP hT ds ⊢
    rw[c7] at hP ⊢
    clear dp c7
    go_upto_region 10 with fail
    have a5:=(R.below a9).gr ((gR _).alloc (J (ja7 F C4 ao) 53))
    have b3:=(bl.below a9).gr ((gR _).alloc (J (ja7 F C4 ao) 53))
    have bt:CtxAt (w4.alloc (J (ja7 F C4 ao) 53)) w4.heap.size F C4 ao:=CtxAt.new 53 cs rfl
    have b1:Fz (w4.alloc (J (ja7 F C4 ao) 53)) w4.heap.size:=Fz.new _ _ _
    have d4:w.heap.size+1+1+1<w4.heap.size:=by have:=R.res.lt;have:=a9.size;omega
    generalize w4.alloc (J (ja7 F C4 ao) 53)=w5 at a5 b3 bt b1 ⊢
    have cj:bN<w4.heap.size:=by have:=bl.lt;have:=a9.size;omega
    clear R bl cs a9
    generalize w4.heap.size=bC at bt b1 d4 cj ⊢
    by_cases h4:E4=0
    ·subst h4
     obtain ⟨n0,n1,f7⟩:=(show DotAt _ _ _ _ from b3)
     go_wp2_with fail
     refine cM (show ic _ _ _ _ _ from uf (N:=N) (iZ rfl N.1 N.2 _)) ?_
     rintro e w6 ⟨C6,an,rfl,cu,e3,_,ba⟩
     clear n0 n1 f7
     have dl:=(a5.gr ((gR _).alloc _)).below ba
     have ey:=(b3.gr ((gR _).alloc _)).below ba
     have d6:=(bt.gr ((gR _).alloc _)).below ba
     have ep:=(b1.gr ((gR _).alloc _)).below ba
     clear a5 b3 bt ba b1
     obtain ⟨G,dz⟩:∃G,aH [N]=G:=⟨_,rfl⟩
     obtain ⟨E6,c8⟩:∃E,bL [N]=E:=⟨_,rfl⟩
     rw[dz] at cu hP hT dG ⊢
     rw[c8] at hP ⊢
     clear dz c8
     go_upto_region 13 with fail
     have a6:=dl.gr ((gR _).alloc (J (ja7 G C6 an) 53))
     have cn:=ey.gr ((gR _).alloc (J (ja7 G C6 an) 53))
     have bc:=d6.gr ((gR _).alloc (J (ja7 G C6 an) 53))
     have cm:=ep.gr ((gR _).alloc (J (ja7 G C6 an) 53))
     have b2:CtxAt (w6.alloc (J (ja7 G C6 an) 53)) w6.heap.size G C6 an:=CtxAt.new 53 cu rfl
     generalize w6.alloc (J (ja7 G C6 an) 53)=w7 at a6 cn bc b2 cm ⊢
     clear dl ey d6 cu ep
     generalize w6.heap.size=bG at b2 ⊢
     by_cases h6:E6=0
     ·subst h6
      obtain ⟨c0,c1,c2,c3,c4,bp,ad⟩:=(show CtxAt _ _ _ _ _ from bc)
      obtain ⟨g0,g1,g2,g3,g4,e1,a4⟩:=(show CtxAt _ _ _ _ _ from b2)
      have ex:=sm F G C4 C6 ao an w7 ds.out dG.out ad a4 e2 e3
      have cc:Z _:=ex
      clear ex
      go_wp2_with fail
      refine ja0 cc ?_
      rintro e w8 ⟨C8,r,rfl,cv,e4,a0,bb⟩
      clear cc c0 c1 c2 c3 c4 bp ad g0 g1 g2 g3 g4 e1 a4
      obtain ⟨gb,d0⟩:∃gb,aK F G=gb:=⟨_,rfl⟩
      obtain ⟨E8,c9⟩:∃E,aM F G=E:=⟨_,rfl⟩
      rw[d0] at cv hT ⊢
      rw[c9] at hP ⊢
      clear d0 c9
      have a7:=a6.below bb
      have cr:=cn.below bb
      have ck:=bc.below bb
      have ea:=bc.lt
      have er:=cm.below bb
      clear a6 cn bc b2 bb cm
      obtain ⟨c0,c1,c2,c3,c4,bp,ad⟩:=(show CtxAt _ _ _ _ _ from ck)
      have fn:=er.2
      go_upto_region 16 with fail
      have k:Y bC w8 (((((w8.setCell ⟨bC,0,none⟩ (S I gb.c0)).setCell ⟨bC,1,none⟩ (S I gb.c1)).setCell ⟨bC,2,none⟩ (S I gb.c2)).setCell ⟨bC,3,none⟩ (S I gb.c3)).setCell ⟨bC,4,none⟩ (O C8 gb.l.length r)):=aZ (bR _ _) (nR _) _ _ _ _ _
      have eb:CtxAt (((((w8.setCell ⟨bC,0,none⟩ (S I gb.c0)).setCell ⟨bC,1,none⟩ (S I gb.c1)).setCell ⟨bC,2,none⟩ (S I gb.c2)).setCell ⟨bC,3,none⟩ (S I gb.c3)).setCell ⟨bC,4,none⟩ (O C8 gb.l.length r)) bC gb C8 r:=ck.set cv (fun x g=>by have:=a0 x g;omega)
      have b5:=a7.res.belowB k d4
      have f1:=(k.cell (p:=⟨w.heap.size+1,0,none⟩) (show w.heap.size+1<bC by omega)).trans a7.key
      have f2:=(k.cell (p:=⟨w.heap.size+1+1,0,none⟩) (show w.heap.size+1+1<bC by omega)).trans a7.col
      have f4:=(k.cell (p:=⟨bN,0,none⟩) cj).trans cr.k0
      have f5:=(k.cell (p:=⟨bN,1,none⟩) cj).trans cr.k1
      have b4:Y w.heap.size w (((((w8.setCell ⟨bC,0,none⟩ (S I gb.c0)).setCell ⟨bC,1,none⟩ (S I gb.c1)).setCell ⟨bC,2,none⟩ (S I gb.c2)).setCell ⟨bC,3,none⟩ (S I gb.c3)).setCell ⟨bC,4,none⟩ (O C8 gb.l.length r)):=a7.hw.trans (k.mono (by omega))
      have c6:Z (∀x,C8=some x->w.heap.size<=x.block):=fun x g=>by have:=a0 x g;omega
      have c5:Z (∀x,C8=some x->x.block≠w.heap.size+1+1+1):=fun x g=>by have:=a0 x g;omega
      generalize (((((w8.setCell ⟨bC,0,none⟩ (S I gb.c0)).setCell ⟨bC,1,none⟩ (S I gb.c1)).setCell ⟨bC,2,none⟩ (S I gb.c2)).setCell ⟨bC,3,none⟩ (S I gb.c3)).setCell ⟨bC,4,none⟩ (O C8 gb.l.length r))=V at eb b5 f1 f2 f4 f5 b4 ⊢
      clear a7 cr ck er fn c0 c1 c2 c3 c4 bp ad k cv a0 ea
      by_cases h8:E8=0
      ·subst h8
       have f:Z (dL t n key col v=0/\dc t n key col v=⟨gb,[(N,key,col,v)]⟩):=by
        have h3:dL t n key col v=0:=by rw[hP.out];simp
        exact ⟨h3,by rw[hT.out,h3,if_pos rfl]⟩
       obtain ⟨c0,c1,c2,c3,c4,bp,ad⟩:=(show CtxAt _ _ _ _ _ from eb)
       obtain ⟨z0,z1,z2,z3,z4,z5,zf,a3⟩:=(show Six _ _ _ _ _ _ _ _ from b5)
       have ap:∀a,C8=some a->a.block≠w.heap.size+1+1+1:=c5.out
       have hV:=(b5.set (S I gb.c0) (S I gb.c1) (S I gb.c2) (S I gb.c3) (O C8 gb.l.length r) (O (some ⟨V.heap.size,0,none⟩) 1 1)).gr ((gR _).alloc (J #[S I N.1,S I N.2,S I key,S I col,S I v] 187))
       have bo:Row _ C8 gb.l:=(((((((ad.setCell (B:=w.heap.size+1+1+1) (j:=0) (S I gb.c0) ap).setCell (j:=1) (S I gb.c1) ap).setCell (j:=2) (S I gb.c2) ap).setCell (j:=3) (S I gb.c3) ap).setCell (j:=4) (O C8 gb.l.length r) ap).setCell (j:=5) (O (some ⟨V.heap.size,0,none⟩) 1 1) ap)).gr ((gR _).alloc (J #[S I N.1,S I N.2,S I key,S I col,S I v] 187))
       have k:=(ak b4 (B:=w.heap.size+1+1+1) (by omega) (S I gb.c0) (S I gb.c1) (S I gb.c2) (S I gb.c3) (O C8 gb.l.length r) (O (some ⟨V.heap.size,0,none⟩) 1 1)).alloc (by simp;omega) (J #[S I N.1,S I N.2,S I key,S I col,S I v] 187)
       have be:=C0 (W:=(((((V.setCell ⟨w.heap.size+1+1+1,0,none⟩ (S I gb.c0)).setCell ⟨w.heap.size+1+1+1,1,none⟩ (S I gb.c1)).setCell ⟨w.heap.size+1+1+1,2,none⟩ (S I gb.c2)).setCell ⟨w.heap.size+1+1+1,3,none⟩ (S I gb.c3)).setCell ⟨w.heap.size+1+1+1,4,none⟩ (O C8 gb.l.length r)).setCell ⟨w.heap.size+1+1+1,5,none⟩ (O (some ⟨V.heap.size,0,none⟩) 1 1)) (n:=V.heap.size) (by simp) (N,key,col,v) 187
       have e6:=ja1 b4.size
       have e5:Z _:=hV
       have d5:Z _:=k
       have e0:Z _:=bo
       have en:Z _:=be
       clear hV k bo be ap
       go_wp2
       obtain ⟨v0,v1,v2,v3,v4,v5,vf,ga⟩:=(show Six _ _ _ _ _ _ _ _ from e5.out)
       have k:=d5.out
       have bo:=e0.out
       have be:=en.out
       rw[f.out.1,f.out.2]
       generalize World.alloc _ _=X at v0 v1 v2 v3 v4 v5 k bo be ⊢
       exact bodyPost_ret (v:= P #[Q #[S I gb.c0,S I gb.c1,S I gb.c2,S I gb.c3,O C8 gb.l.length r,O (some ⟨V.heap.size,0,none⟩) 1 1],S I 0]) (by simp[results,Tryz.results166,go_sem,v0,v1,v2,v3,v4,v5]) rfl ⟨C8,r,_,1,rfl,bo,be,e4,fun h=>(by cases h),c6.out,(fun x g=>by cases g;have:=e6.out;exact this),k⟩
      ·have f:Z (dL t n key col v=E8/\dc t n key col v=⟨aI,[]⟩):=by
        have h3:dL t n key col v=E8:=by rw[hP.out];simp
        exact ⟨h3,by rw[hT.out,h3,if_neg h8]⟩
       have b0:(E8 != 0)=true:=by simpa using h8
       clear h8
       obtain ⟨z0,z1,z2,z3,z4,z5,zf,a3⟩:=(show Six _ _ _ _ _ _ _ _ from b5)
       have L:=ja1 b4
       go_wp2
       rw[f.out.1,f.out.2]
       exact bodyPost_ret (v:= P #[Q #[S I 0,S I 0,S I 0,S I 0,O none 0 0,O none 0 0],S I E8]) (by simp[results,Tryz.results166,go_sem,z0,z1,z2,z3,z4,z5]) rfl ⟨none,0,none,0,rfl,oL rfl,oL rfl,fun _=>rfl,fun _=>rfl,(fun x g=>by cases g),(fun x g=>by cases g),ak L.out (by omega) _ _ _ _ _ _⟩
     ·have f:Z (dL t n key col v=E6/\dc t n key col v=⟨aI,[]⟩):=by
       have h3:dL t n key col v=E6:=by rw[hP.out];simp[h6]
       exact ⟨h3,by rw[hT.out,h3,if_neg h6]⟩
      have b0:(E6 != 0)=true:=by simpa using h6
      clear h6
      obtain ⟨z0,z1,z2,z3,z4,z5,zf,a3⟩:=(show Six _ _ _ _ _ _ _ _ from a6.res)
      have L:=ja1 a6.hw
      go_wp2
      rw[f.out.1,f.out.2]
      exact bodyPost_ret (v:= P #[Q #[S I 0,S I 0,S I 0,S I 0,O none 0 0,O none 0 0],S I E6]) (by simp[results,Tryz.results166,go_sem,z0,z1,z2,z3,z4,z5]) rfl ⟨none,0,none,0,rfl,oL rfl,oL rfl,fun _=>rfl,fun _=>rfl,(fun x g=>by cases g),(fun x g=>by cases g),ak L.out (by omega) _ _ _ _ _ _⟩
    ·have f:Z (dL t n key col v=E4/\dc t n key col v=⟨aI,[]⟩):=by
      have h3:dL t n key col v=E4:=by rw[hP.out];simp[h4]
      exact ⟨h3,by rw[hT.out,h3,if_neg h4]⟩
     have b0:(E4 != 0)=true:=by simpa using h4
     clear h4
     obtain ⟨z0,z1,z2,z3,z4,z5,zf,a3⟩:=(show Six _ _ _ _ _ _ _ _ from a5.res)
     have L:=ja1 a5.hw
     go_wp2
     rw[f.out.1,f.out.2]
     exact bodyPost_ret (v:= P #[Q #[S I 0,S I 0,S I 0,S I 0,O none 0 0,O none 0 0],S I E4]) (by simp[results,Tryz.results166,go_sem,z0,z1,z2,z3,z4,z5]) rfl ⟨none,0,none,0,rfl,oL rfl,oL rfl,fun _=>rfl,fun _=>rfl,(fun x g=>by cases g),(fun x g=>by cases g),ak L.out (by omega) _ _ _ _ _ _⟩
   ·have f:Z (dL t n key col v=E2/\dc t n key col v=⟨aI,[]⟩):=by
     have h3:dL t n key col v=E2:=by unfold dL;rw[cl.out,bn,a8.out.2];simp[h2]
     exact ⟨h3,by unfold dc;rw[h3,if_neg h2]⟩
    have b0:(E2 != 0)=true:=by simpa using h2
    clear h2
    obtain ⟨z0,z1,z2,z3,z4,z5,zf,a3⟩:=(show Six _ _ _ _ _ _ _ _ from R.res)
    have L:=ja1 R.hw
    go_wp2
    rw[f.out.1,f.out.2]
    exact bodyPost_ret (v:= P #[Q #[S I 0,S I 0,S I 0,S I 0,O none 0 0,O none 0 0],S I E2]) (by simp[results,Tryz.results166,go_sem,z0,z1,z2,z3,z4,z5]) rfl ⟨none,0,none,0,rfl,oL rfl,oL rfl,fun _=>rfl,fun _=>rfl,(fun x g=>by cases g),(fun x g=>by cases g),ak L.out (by omega) _ _ _ _ _ _⟩
 ·have f:Z (dL t n key col v=E1/\dc t n key col v=⟨aI,[]⟩):=by
   have h2:dL t n key col v=E1:=by unfold dL;rw[a2,if_pos h1]
   exact ⟨h2,by unfold dc;rw[h2,if_neg h1]⟩
  have b0:(E1 != 0)=true:=by simpa using h1
  clear h1 a2
  obtain ⟨z0,z1,z2,z3,z4,z5,zf,a3⟩:=(show Six _ _ _ _ _ _ _ _ from u.res)
  have L:=ja1 u.hw
  go_wp2
  rw[f.out.1,f.out.2]
  exact bodyPost_ret (v:= P #[Q #[S I 0,S I 0,S I 0,S I 0,O none 0 0,O none 0 0],S I E1]) (by simp[results,Tryz.results166,go_sem,z0,z1,z2,z3,z4,z5]) rfl ⟨none,0,none,0,rfl,oL rfl,oL rfl,fun _=>rfl,fun _=>rfl,(fun x g=>by cases g),(fun x g=>by cases g),ak L.out (by omega) _ _ _ _ _ _⟩


theorem Six.oth {w:U} {B:Nat} {u0 u1 u2 u3 u4 u5:o} (h:Six w B u0 u1 u2 u3 u4 u5) {g j:Nat} (u:o) (k:B≠g):Six (w.setCell ⟨g,j,none⟩ u) B u0 u1 u2 u3 u4 u5:=by
 have f:∀i,(w.setCell ⟨g,j,none⟩ u).cell? ⟨B,i,none⟩=w.cell? ⟨B,i,none⟩:=fun i=>World.cell?_setCell_other _ _ _ _ (by intro e;injection e with e1;exact k e1.symm)
 exact ⟨(f 0).trans h.k0,(f 1).trans h.k1,(f 2).trans h.k2,(f 3).trans h.k3,(f 4).trans h.k4,(f 5).trans h.k5,fun i=>by simp only[World.frozen?_setCell];exact h.fz i,by simpa[World.setCell] using h.lt⟩
theorem az.set0 {α : Type} {enc: α -> List o} {k:Nat} {w:U} {A:Option K} {l:List α} (h:az enc k w A l) {B m:Nat} (u:o) (g:∀x,A=some x->l≠[]->x.block≠B):az enc k (w.setCell ⟨B,m,none⟩ u) A l:=by
 by_cases f:l=[]
 ·exact oL f
 ·exact h.setCell u fun x j=>g x j f
theorem TabAt.oth {w:U} {B:Nat} {t:Tab} {A:Option K} {ca:Nat} {D:Option K} {k:Nat} (h:TabAt w B t A ca D k) {g j:Nat} (u:o) (r:B≠g) (n:∀x,A=some x->t.c.l≠[]->x.block≠g) (C:∀x,D=some x->t.e≠[]->x.block≠g):TabAt (w.setCell ⟨g,j,none⟩ u) B t A ca D k:=by
 have f:∀i,(w.setCell ⟨g,j,none⟩ u).cell? ⟨B,i,none⟩=w.cell? ⟨B,i,none⟩:=fun i=>World.cell?_setCell_other _ _ _ _ (by intro e;injection e with e1;exact r e1.symm)
 exact ⟨(f 0).trans h.k0,(f 1).trans h.k1,(f 2).trans h.k2,(f 3).trans h.k3,(f 4).trans h.k4,(f 5).trans h.k5,by simpa[World.setCell] using h.lt,h.row.setCell0 _ n,h.rowC.set0 _ C⟩
theorem tY (a b:Ctx):(aK a b).l.length<=maxLen:=by
 by_cases h:aM a b=0
 ·rw[(et h).2.2.2.1]
  exact nT (et h).2.2.2.2 (by decide)
 ·have:aK a b=aI:=by simp[aK,h]
  rw[this];decide
theorem bQ {a b:Tab} (h:au a b=0):aw a=0/\aw b=0/\dU a b=false/\aM a.c b.c=0/\(mrg a b).length<=400:=by
 unfold au at h
 by_cases f:aw a=0
 ·by_cases g:aw b=0
  ·cases j:dU a b
   ·by_cases k:aM a.c b.c=0
    ·by_cases n:400<(mrg a b).length
     ·simp[f,g,j,k,n] at h
     ·exact ⟨f,g,rfl,k,by omega⟩
    ·simp[f,g,j,k] at h
   ·simp[f,g,j] at h
  ·simp[f,g] at h
 ·simp[f] at h
theorem xP (t:Tab) (n key col v:Int):(dc t n key col v).c.l.length<=maxLen/\(dc t n key col v).e.length<=maxLen:=by
 unfold dc
 by_cases h:dL t n key col v=0
 ·rw[if_pos h]
  exact ⟨tY _ _,show 1<=maxLen by decide⟩
 ·rw[if_neg h]
  exact ⟨by decide,by decide⟩
theorem wH (t:Tab) (key:Int):(cO t key).l.length<=maxLen:=by
 unfold cO
 by_cases h:ff t key=0
 ·rw[if_pos h]
  have f:aw t=0:=by
   by_cases f:aw t=0
   ·exact f
   ·unfold ff at h
    rw[if_pos f] at h
    exact absurd h f
  exact lz _ (nT (dX _ _) (aj f).2.1)
 ·rw[if_neg h];decide


def ch (b:Ctx) (node top:Int):Nat->List (Int×Int)->Int->List (Int×Int)
 | 0,l,_=>l
 | n+1,l,s=>if s<=top/\l.length<=400 then ch b node top n (if ai b (node,s)=true then l else l++[(node,s)]) (s+1) else l
def cz (b:Ctx) (node:Int) (ds l:List (Int×Int)):List (Int×Int):=ds.foldl (fun l x=>if x.1=node/\ai b x=false then l++[x] else l) l
def ed (a b:Ctx) (node:Int) (l:List (Int×Int)):List (Int×Int):=cz b node a.l (ch b node (clk a node) (clk a node-clk b node).toNat l (clk b node+1))

theorem nG {b:Ctx} {node:Int} {f l:List (Int×Int)} {k:Nat} (h:k<f.length) {x:Int×Int} (g:f[k]=x):cz b node (f.take (k+1)) l=if x.1=node/\ai b x=false then cz b node (f.take k) l++[x] else cz b node (f.take k) l:=by
 unfold cz
 rw[List.take_succ_eq_append_getElem h,List.foldl_append,g]
 rfl
theorem nF {b:Ctx} {node top s:Int} {n:Nat} {l:List (Int×Int)} (h:¬(s<=top/\l.length<=400)):ch b node top n l s=l:=by
 cases n with
 | zero=>rfl
 | succ n=>simp only[ch,if_neg h]
theorem uj {b:Ctx} {node top s:Int} {l:List (Int×Int)} (f:s<=top) (g:l.length<=400):ch b node top (top+1-s).toNat l s=ch b node top (top+1-(s+1)).toNat (if ai b (node,s)=true then l else l++[(node,s)]) (s+1):=by
 rw[show (top+1-s).toNat=(top+1-(s+1)).toNat+1 from by omega]
 simp only[ch,if_pos (And.intro f g)]
theorem xq (b:Ctx) (node top:Int):∀(n:Nat) (l:List (Int×Int)) (s:Int),(ch b node top n l s).length<=max l.length 401:=by
 intro n
 induction n with
 | zero=>intro l s;simp only[ch];omega
 | succ n ih =>
  intro l s
  simp only[ch]
  split
  ·rename_i h
   have f:(if ai b (node,s)=true then l else l++[(node,s)]).length<=l.length+1:=by split<;>simp
   have:=ih (if ai b (node,s)=true then l else l++[(node,s)]) (s+1)
   omega
  ·omega
theorem lB (b:Ctx) (node:Int) (f:List (Int×Int)):∀(l:List (Int×Int)),(cz b node f l).length<=l.length+f.length:=by
 induction f with
 | nil=>intro l;simp[cz]
 | cons x f ih =>
  intro l
  have:=ih (if x.1=node/\ai b x=false then l++[x] else l)
  have g:(if x.1=node/\ai b x=false then l++[x] else l).length<=l.length+1:=by split<;>simp
  show (cz b node f (if x.1=node/\ai b x=false then l++[x] else l)).length<=_
  rw[List.length_cons]
  omega
theorem zY (b:Ctx) (node top:Int):∀(n:Nat) (l:List (Int×Int)) (s:Int),l.length<=(ch b node top n l s).length:=by
 intro n
 induction n with
 | zero=>intro l s;simp only[ch];omega
 | succ n ih =>
  intro l s
  simp only[ch]
  split
  ·have f:l.length<=(if ai b (node,s)=true then l else l++[(node,s)]).length:=by split<;>simp
   have:=ih (if ai b (node,s)=true then l else l++[(node,s)]) (s+1)
   omega
  ·omega
theorem sy (b:Ctx) (node:Int) (f:List (Int×Int)):∀(l:List (Int×Int)),l.length<=(cz b node f l).length:=by
 induction f with
 | nil=>intro l;simp[cz]
 | cons x f ih =>
  intro l
  have:=ih (if x.1=node/\ai b x=false then l++[x] else l)
  have g:l.length<=(if x.1=node/\ai b x=false then l++[x] else l).length:=by split<;>simp
  show _<=(cz b node f (if x.1=node/\ai b x=false then l++[x] else l)).length
  omega
theorem zZ (a b:Ctx) (node:Int) (l:List (Int×Int)):l.length<=(ed a b node l).length:=nT (zY b node _ _ l _) (sy b node a.l _)
theorem xv (a b:Ctx) (node:Int) (l:List (Int×Int)):(ed a b node l).length<=max l.length 401+a.l.length:=by
 have f:=lB b node a.l (ch b node (clk a node) (clk a node-clk b node).toNat l (clk b node+1))
 have g:=xq b node (clk a node) (clk a node-clk b node).toNat l (clk b node+1)
 unfold ed
 omega

theorem D3 {w:U} {B:Nat} {c:Ctx} {A:Option K} {cap:Nat} (h:CtxAt w B c A cap) {a:Int} (g:0<=a) (j:a<4):w.cell? ⟨B,a.toNat,none⟩=some (S I (clk c a)):=by
 have f:a=0\/a=1\/a=2\/a=3:=by omega
 rcases f with rfl|rfl|rfl|rfl
 ·exact h.k0
 ·exact h.k1
 ·exact h.k2
 ·exact h.k3

theorem CtxAt.belowB {w w':U} {B:Nat} {c:Ctx} {A:Option K} {cap base:Nat} (h:CtxAt w B c A cap) (k:Y base w w') (f:B<base) (g:∀x,A=some x->c.l≠[]->x.block<base):CtxAt w' B c A cap :=
 ⟨(k.cell (p:=⟨B,0,none⟩) f).trans h.k0,(k.cell (p:=⟨B,1,none⟩) f).trans h.k1,(k.cell (p:=⟨B,2,none⟩) f).trans h.k2,(k.cell (p:=⟨B,3,none⟩) f).trans h.k3,(k.cell (p:=⟨B,4,none⟩) f).trans h.k4,nL h.lt k.size,h.row.belowB g k⟩

structure AM (w wr:U) (N base:Nat) (a b:Ctx) (A B:Option K) (ca cb:Nat) (v:o) (l:List (Int×Int)):Prop where
 own:Own wr base v l
 ap:∀k,v.ownBlock=some k->k≠N/\k≠N+1
 ca:CtxAt wr N a A ca
 cb:CtxAt wr (N+1) b B cb
 bel:Y base w wr
 bs:base<=wr.heap.size
 ra:∀x,A=some x->a.l≠[]->x.block<base
 rb:∀x,B=some x->b.l≠[]->x.block<base

theorem AM.gr {w wr w':U} {N base:Nat} {a b:Ctx} {A B:Option K} {ca cb:Nat} {v:o} {l:List (Int×Int)} (h:AM w wr N base a b A B ca cb v l) (k:Gr wr w'):AM w w' N base a b A B ca cb v l :=
 ⟨h.own.gr k,h.ap,h.ca.gr k,h.cb.gr k,h.bel.trans (k.below.mono h.bs),nT h.bs k.size,h.ra,h.rb⟩

theorem CtxAt.grown {w w':U} {B:Nat} {c:Ctx} {A:Option K} {cap:Nat} {row:Option Nat} {base:Nat} (h:CtxAt w B c A cap) (f:w.grownBy w' row) (g:some B≠row) (k:Y base w w') (j:∀x,A=some x->c.l≠[]->x.block<base):CtxAt w' B c A cap :=
 ⟨f.cell h.k0 g,f.cell h.k1 g,f.cell h.k2 g,f.cell h.k3 g,f.cell h.k4 g,nL h.lt f.size,h.row.belowB j k⟩

theorem AM.append {w wr w0 w1:U} {N base:Nat} {a b:Ctx} {A B:Option K} {ca cb:Nat} {v u:o} {l m:List (Int×Int)} (h:AM w wr N base a b A B ca cb v l) (k:Gr wr w0) (F:Own w1 base u m) (n:w0.grownBy w1 v.ownBlock) {H:Nat} (E:w0.heap.size=H) (g:u.ownBlock=v.ownBlock\/u.ownBlock=some H):AM w w1 N base a b A B ca cb u m:=by
 subst E
 have f:=h.gr k
 have C:=f.own.grown_below n f.bs
 refine ⟨F,?_,f.ca.grown n (fun e=>(f.ap N e.symm).1 rfl) C f.ra,f.cb.grown n (fun e=>(f.ap (N+1) e.symm).2 rfl) C f.rb,f.bel.trans C,nT f.bs n.size,h.ra,h.rb⟩
 intro j r
 rcases g with g|g
 ·exact h.ap j (by rw[<-g];exact r)
 ·rw[g] at r
  injection r with r
  have:=f.ca.lt
  have:=f.cb.lt
  omega

end Go.Proofs.YtjmmpnmgpgaagaaGreatDoor
