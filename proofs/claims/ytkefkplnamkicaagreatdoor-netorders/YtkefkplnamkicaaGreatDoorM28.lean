/-
  The calls that only read, as they are met in a region that leaves its order open.
  Plain facts of Minus, Less and Next: what is missing is what a has and b hasn't; joined, it is no more missing.
  Plain facts: joining is a lattice's.
  Merging is a lattice: which cells a merged table has; that it doesn't matter in which order, nor how often.
  A node in memory.
  Several cells of a block written one behind the other; a node's tables laid anew.
-/
import Derived.Test.YtkefkplnamkicaaGreatDoorM27
import Derived.Test.YtkefkplnamkicaaGreatDoorM22
set_option maxRecDepth 100000
set_option maxHeartbeats 8000000
open Go.IntKind renaming i64 → I
open Go.Value renaming int → V, slice → S
namespace Go.Proofs.YtkefkplnamkicaaGreatDoor
open Go.RowKit Go.Sort

theorem CtxAt.G {w:World} {B:Nat} {c:Ctx} {A:Option Addr} {cap:Nat} (h:CtxAt w B c A cap):(∀n os,(grow (w.drewN n) os).cell? ⟨B,0,none⟩=some (V I c.c0))∧(∀n os,(grow (w.drewN n) os).cell? ⟨B,1,none⟩=some (V I c.c1))∧(∀n os,(grow (w.drewN n) os).cell? ⟨B,2,none⟩=some (V I c.c2))∧(∀n os,(grow (w.drewN n) os).cell? ⟨B,3,none⟩=some (V I c.c3))∧(∀n os,(grow (w.drewN n) os).cell? ⟨B,4,none⟩=some (S A c.l.length cap)) :=
 ⟨cell_grown (a:=⟨B,0,none⟩) h.lt h.k0,cell_grown (a:=⟨B,1,none⟩) h.lt h.k1,cell_grown (a:=⟨B,2,none⟩) h.lt h.k2,cell_grown (a:=⟨B,3,none⟩) h.lt h.k3,cell_grown (a:=⟨B,4,none⟩) h.lt h.k4⟩
theorem DotAt.G {w:World} {B:Nat} {x y:Int} (h:DotAt w B x y):(∀n os,(grow (w.drewN n) os).cell? ⟨B,0,none⟩=some (V I x))∧(∀n os,(grow (w.drewN n) os).cell? ⟨B,1,none⟩=some (V I y)) :=
 ⟨cell_grown (a:=⟨B,0,none⟩) h.lt h.k0,cell_grown (a:=⟨B,1,none⟩) h.lt h.k1⟩


theorem kw {c:Ctx} (h:Can c) {x:Int×Int} (hx:ai c x=true):ar x=true:=by
 rcases (aK c x).1 hx with hm|hm
 ·exact h.right x hm
 ·have:=cE h.ck x.1 hm.1 (by omega)
  simp[ar,inB]
  omega

theorem l7 (b:Ctx) (node top:Int):∀(n:Nat) (l:List (Int×Int)) (s:Int) (x:Int×Int),x∈cv b node top n l s→x∈l∨(x.1=node∧s≤x.2∧x.2≤top∧ai b x=false):=by
 intro n
 induction n with
 | zero=>intro l s x h;exact oL h
 | succ n ih =>
  intro l s x h
  by_cases hc:s≤top∧l.length≤400
  ·simp only[cv,if_pos hc] at h
   rcases ih _ _ x h with h|h
   ·by_cases hh:ai b (node,s)=true
    ·rw[if_pos hh] at h;exact oL h
    ·rw[if_neg hh] at h
     rcases List.mem_append.1 h with h|h
     ·exact oL h
     ·obtain rfl:x=(node,s):=by simpa using h
      exact oR ⟨rfl,Int.le_refl _,hc.1,by simpa using hh⟩
   ·exact oR ⟨h.1,by omega,h.2.2.1,h.2.2.2⟩
  ·simp only[cv,if_neg hc] at h;exact oL h

theorem uT (b:Ctx) (node top:Int):∀(n:Nat) (l:List (Int×Int)) (s:Int),(top+1-s).toNat≤n→(cv b node top n l s).length≤400→∀x:Int×Int,x∈l∨(x.1=node∧s≤x.2∧x.2≤top∧ai b x=false)→x∈cv b node top n l s:=by
 intro n
 induction n with
 | zero =>
  intro l s hn _ x h
  rcases h with h|h
  ·exact h
  ·omega
 | succ n ih =>
  intro l s hn hl x h
  by_cases hc:s≤top∧l.length≤400
  ·simp only[cv,if_pos hc] at hl ⊢
   refine ih _ _ (by omega) hl x ?_
   rcases h with h|h
   ·left
    by_cases hh:ai b (node,s)=true
    ·rw[if_pos hh];exact h
    ·rw[if_neg hh];exact List.mem_append_left _ h
   ·by_cases hs:x.2=s
    ·left
     obtain rfl:x=(node,s):=Prod.ext h.1 hs
     rw[h.2.2.2]
     simp
    ·exact oR ⟨h.1,by omega,h.2.2.1,h.2.2.2⟩
  ·simp only[cv,if_neg hc] at hl ⊢
   rcases h with h|h
   ·exact h
   ·omega

theorem oQ (b:Ctx) (node:Int) (ds:List (Int×Int)):∀(l:List (Int×Int)) (x:Int×Int),x∈cD b node ds l↔x∈l∨(x∈ds∧x.1=node∧ai b x=false):=by
 induction ds with
 | nil=>intro l x;simp[cD]
 | cons y ds ih =>
  intro l x
  show x∈cD b node ds (if y.1=node∧ai b y=false then l++[y] else l)↔_
  rw[ih]
  by_cases hc:y.1=node∧ai b y=false
  ·rw[if_pos hc,List.mem_append,List.mem_singleton,List.mem_cons]
   constructor
   ·rintro ((h|h)|h)
    ·exact oL h
    ·exact oR ⟨oL h,by rw[h];exact hc⟩
    ·exact oR ⟨oR h.1,h.2⟩
   ·rintro (h|⟨h|h,k⟩)
    ·exact oL (oL h)
    ·exact oL (oR h)
    ·exact oR ⟨h,k⟩
  ·rw[if_neg hc,List.mem_cons]
   constructor
   ·rintro (h|h)
    ·exact oL h
    ·exact oR ⟨oR h.1,h.2⟩
   ·rintro (h|⟨h|h,k⟩)
    ·exact oL h
    ·subst h;exact absurd k hc
    ·exact oR ⟨h,k⟩

theorem uX {a b:Ctx} {node:Int} {l:List (Int×Int)} (hl:(dV a b node l).length≤400) {x:Int×Int} (h:x∈l∨(x.1=node∧ai a x=true∧ai b x=false)):x∈dV a b node l:=by
 have h1:(cv b node (clk a node) (clk a node-clk b node).toNat l (clk b node+1)).length≤400:=nT (rj b node a.l _) hl
 have hall:=uT b node (clk a node) _ l (clk b node+1) (by omega) h1
 refine (oQ b node a.l _ x).2 ?_
 rcases h with h|⟨hn,ha,hb⟩
 ·exact oL (hall x (oL h))
 ·rcases (aK a x).1 ha with hm|hm
  ·exact oR ⟨hm,hn,hb⟩
  ·refine oL (hall x (oR ⟨hn,?_,by rw[←hn];exact hm.2.2.2,hb⟩))
   rcases Int.lt_or_le (clk b node) x.2 with hlt|hle
   ·omega
   ·exact absurd ((aK b x).2 (oR ⟨hm.1,hm.2.1,hm.2.2.1,by rw[hn];exact hle⟩)) (by rw[hb];simp)

theorem uV {a b:Ctx} {x:Int×Int} (h0:0≤x.1) (ha:ai a x=true) (hb:ai b x=false):∀k:Nat,(bz a b k).length≤400→x.1<k→x∈bz a b k:=by
 intro k
 induction k with
 | zero=>intro _ h;omega
 | succ k ih =>
  intro hl hx
  refine uX hl ?_
  by_cases e:x.1=(k:Int)
  ·exact oR ⟨e,ha,hb⟩
  ·exact oL (ih (nT (iq a b k) hl) (by omega))

theorem zT (c:Ctx) (n:Int):∀(l:List (Int×Int)) (x:Int×Int),x∈l→x.1=n→x.2≤eU c n l:=by
 have hmono:∀(l:List (Int×Int)) (m:Int),m≤l.foldl (fun m x=>if x.1=n then max m x.2 else m) m:=by
  intro l
  induction l with
  | nil=>intro m;simp
  | cons x l ih =>
   intro m
   simp only[List.foldl_cons]
   refine Int.le_trans ?_ (ih (if x.1=n then max m x.2 else m))
   split<;>omega
 intro l x hx hn
 unfold eU
 suffices h:∀(l:List (Int×Int)) (m:Int),x∈l→x.2≤l.foldl (fun m x=>if x.1=n then max m x.2 else m) m from h l _ hx
 intro l
 induction l with
 | nil=>intro m h;cases h
 | cons y l ih =>
  intro m h
  simp only[List.foldl_cons]
  rcases List.mem_cons.1 h with rfl|h
  ·refine Int.le_trans ?_ (hmono l _)
   rw[if_pos hn];omega
  ·exact ih _ h

theorem xD {c:Ctx} {n:Int} (h:(bE c n).2=0):(bE c n).1.1=n∧ai c (bE c n).1=false:=by
 unfold bE at h ⊢
 by_cases he:aP c=0
 ·rw[if_pos he] at h ⊢
  cases hin:inB n 0 3
  ·rw[hin] at h;cases h
  ·rw[hin] at h
   rw[if_pos rfl] at h ⊢
   change l9 c n=0 at h
   show (jS c n).1=n∧ai c (jS c n)=false
   unfold l9 at h
   by_cases ht:1099511627776≤eU c n c.l
   ·rw[if_pos ht] at h;cases h
   ·unfold jS
    rw[if_neg ht]
    refine ⟨rfl,?_⟩
    cases hh:ai c (n,eU c n c.l+1)
    ·rfl
    ·rcases (aK _ _).1 hh with k|k
     ·have:eU c n c.l+1≤eU c n c.l:=zT c n c.l _ k rfl
      omega
     ·have h1:eU c n c.l+1≤clk c n:=k.2.2.2
      have h2:=uc c n c.l
      omega
 ·rw[if_neg he] at h;exact absurd h he


theorem ze {a b:Ctx} (h:aC a b=0):aP a=0∧aP b=0:=lH (cY h).2.2.1
theorem xj {a b:Ctx} (h:aC a b=0):aC b a=0∧aA b a=aA a b:=by
 obtain ⟨ha,hb,_,hc,hl⟩:=cY h
 have he:=ze h
 have h2:aC b a=0:=jO he.2 he.1 (by rw[my hb ha];exact hl)
 refine ⟨h2,?_⟩
 rw[hc,(cY h2).2.2.2.1,my hb ha]
theorem dj {a b:Ctx} (h:aC a b=0):Can (aA a b)∧aP (aA a b)=0∧(aA a b).l.length≤400∧∀x,ai (aA a b) x=true↔ai a x=true∨ai b x=true:=by
 obtain ⟨ha,hb,_,hc,hl⟩:=cY h
 rw[hc]
 exact ⟨dU ha hb,jl (dU ha hb) hl,hl,dt ha hb⟩
theorem jP {a b:Ctx} (h:aC a b=0) (x:Int×Int):ai (aA a b) x=(ai a x || ai b x):=by
 rw[Bool.eq_iff_iff,(dj h).2.2.2 x,Bool.or_eq_true]
theorem sz {a b c:Ctx} (h1:aC a b=0) (h2:aC (aA a b) c=0) (h3:aC b c=0) (h4:aC a (aA b c)=0):aA (aA a b) c=aA a (aA b c):=by
 refine pB (dj h2).1 (dj h4).1 fun x=> ?_
 rw[(dj h2).2.2.2 x,(dj h4).2.2.2 x,(dj h1).2.2.2 x,(dj h3).2.2.2 x,or_assoc]


theorem uP {l:List Cel} {d:Int×Int}:gZ l d=true↔∃y∈l,y.1=d:=by
 unfold gZ
 rw[List.any_eq_true]
 constructor
 ·rintro ⟨y,hy,h⟩;exact ⟨y,hy,by simpa using h⟩
 ·rintro ⟨y,hy,h⟩;exact ⟨y,hy,by simpa using h⟩
theorem i8 {l m:List Cel} (hl:Asc l) (hm:Asc m) (h:∀x,x∈l↔x∈m):l=m:=by
 unfold Asc at hl hm
 have nl:l.Nodup:=List.Pairwise.imp (fun {a b} (h:bD a.1 b.1=true) (e:a=b)=>iG h (by rw[e])) hl
 have nm:m.Nodup:=List.Pairwise.imp (fun {a b} (h:bD a.1 b.1=true) (e:a=b)=>iG h (by rw[e])) hm
 have hp:l.Perm m:=(List.perm_ext_iff_of_nodup nl nm).2 h
 refine List.Perm.eq_of_pairwise (le:=fun x y=>bD x.1 y.1=true) ?_ hl hm hp
 intro x y _ _ h1 h2
 have:=gt h1 h2
 rw[qu] at this
 cases this
theorem noclash {a b:Tab}:dy a b=false↔∀x∈a.e,∀y∈b.e,y.1=x.1→y=x:=by
 unfold dy
 rw[List.any_eq_false]
 constructor
 ·intro h x hx y hy e
  cases h4:ie y x
  ·refine absurd ?_ (h x hx)
   unfold clP
   rw[List.any_eq_true]
   exact ⟨y,hy,by simp[e,h4]⟩
  ·exact iH.1 h4
 ·intro h x hx hcl
  unfold clP at hcl
  rw[List.any_eq_true] at hcl
  obtain ⟨y,hy,h2⟩:=hcl
  simp only[Bool.and_eq_true,decide_eq_true_eq,Bool.not_eq_true'] at h2
  have h3:=h x hx y hy h2.1
  have h4:=h2.2
  rw[h3,iH.2 rfl] at h4
  cases h4
theorem yt {t:Tab} (h:am t=0):∀x∈t.e,∀y∈t.e,y.1=x.1→y=x:=fun x hx y hy e=>(jp (iF (dE h))) y hy x hx e
theorem cU {a b:Tab} (hc:dy a b=false) {x:Cel}:x∈mrg a b↔(x∈a.e∧x∈b.e)∨(x∈a.e∧ai b.c x.1=false)∨(x∈b.e∧ai a.c x.1=false):=by
 unfold mrg
 rw[(iV _).mem_iff]
 unfold both
 rw[List.mem_append,List.mem_filter,List.mem_filter]
 unfold fI fo
 simp only[Bool.or_eq_true,Bool.not_eq_true']
 have hb:x∈a.e→(gZ b.e x.1=true↔x∈b.e):=by
  intro hx
  rw[uP]
  constructor
  ·rintro ⟨y,hy,e⟩
   rw[←noclash.1 hc x hx y hy e];exact hy
  ·intro h;exact ⟨x,h,rfl⟩
 constructor
 ·rintro (⟨h1,h2|h2⟩|h1)
  ·exact oL ⟨h1,(hb h1).1 h2⟩
  ·exact oR (oL ⟨h1,h2⟩)
  ·exact oR (oR h1)
 ·rintro (⟨h1,h2⟩|⟨h1,h2⟩|h1)
  ·exact oL ⟨h1,oL ((hb h1).2 h2)⟩
  ·exact oL ⟨h1,oR h2⟩
  ·exact oR h1
theorem ge {a b:Tab} (h1:am a=0) (h2:am b=0) (h3:dy a b=false) (h4:aC a.c b.c=0) (h5:(mrg a b).length≤400):al a b=0:=by
 unfold al
 rw[h1,h2,h3,h4]
 simp
 omega
theorem aN {a b:Tab} (h:al a b=0):ac a b=⟨aA a.c b.c,mrg a b⟩:=by unfold ac;rw[if_pos h]
theorem iK {c:Ctx} {e:List Cel} (hc:aP c=0) (hl:e.length≤400) (ha:Asc e) (h:∀x∈e,ai c x.1=true∧bj x.2.1 x.2.2.1 x.2.2.2=true):am ⟨c,e⟩=0:=by
 refine tH hc hl fun k hk=> ?_
 have hk':k<e.length:=hk
 cases k with
 | zero =>
  rw[gI (t:=⟨c,e⟩) hk rfl]
  have:=h e[0] (gM hk')
  simp[this.1,this.2]
 | succ m =>
  rw[eI (t:=⟨c,e⟩) hk rfl rfl]
  have:=h e[m+1] (gM hk')
  have h2:=(List.pairwise_iff_getElem.1 ha) m (m+1) (by omega) hk' (by omega)
  simp[this.1,this.2,h2]
theorem ky {a b:Tab} (hc:dy a b=false) {x:Cel} (h:x∈mrg a b):x∈a.e∨x∈b.e:=by
 rcases (cU hc).1 h with h|h|h
 ·exact oL h.1
 ·exact oL h.1
 ·exact oR h.1
theorem di {a b:Tab} (h:al a b=0):am (ac a b)=0:=by
 obtain ⟨h1,h2,h3,h4,h5⟩:=bM h
 rw[aN h]
 refine iK (dj h4).2.1 h5 (eL h1 h2) fun x hx=> ?_
 rw[jP h4]
 rcases ky h3 hx with hx|hx
 ·exact ⟨by rw[bS h1 hx];rfl,dN h1 hx⟩
 ·exact ⟨by rw[bS h2 hx];simp,dN h2 hx⟩
theorem rW {a b:Tab} (h:dy a b=false):dy b a=false:=noclash.2 fun x hx y hy e=>(noclash.1 h y hy x hx e.symm).symm
theorem uS {a b:Tab} (h:al a b=0):al b a=0∧ac b a=ac a b:=by
 obtain ⟨h1,h2,h3,h4,h5⟩:=bM h
 have h3':=rW h3
 have hm:mrg b a=mrg a b:=by
  refine i8 (eL h2 h1) (eL h1 h2) fun x=> ?_
  rw[cU h3',cU h3]
  constructor
  ·rintro (⟨k1,k2⟩|k|k)
   ·exact oL ⟨k2,k1⟩
   ·exact oR (oR k)
   ·exact oR (oL k)
  ·rintro (⟨k1,k2⟩|k|k)
   ·exact oL ⟨k2,k1⟩
   ·exact oR (oR k)
   ·exact oR (oL k)
 have hj:=xj h4
 have h0:al b a=0:=ge h2 h1 h3' hj.1 (by rw[hm];exact h5)
 exact ⟨h0,by rw[aN h0,aN h,hm,hj.2]⟩
theorem tN {m a:Ctx} (hm:aP m=0) (ha:aP a=0) (h:∀x,ai a x=true→ai m x=true):aC m a=0∧aA m a=m:=by
 have hcm:=bX hm
 have hca:=bX ha
 have hF:cO m a=m:=pB (dU hcm hca) hcm fun x=>by
  rw[dt hcm hca]
  constructor
  ·rintro (k|k)
   ·exact k
   ·exact h x k
  ·exact oL
 have h0:aC m a=0:=jO hm ha (by rw[hF];exact (aY hm).2.1)
 exact ⟨h0,by rw[(cY h0).2.2.2.1,hF]⟩
theorem ri {m a:Tab} (hm:am m=0) (ha:am a=0) (hcl:dy m a=false) (h:∀x,ai a.c x=true→ai m.c x=true) (hx:∀x∈m.e,x∈a.e∨ai a.c x.1=false):al m a=0∧ac m a=m:=by
 have hj:=tN (ae hm).1 (ae ha).1 h
 have hme:mrg m a=m.e:=by
  refine i8 (eL hm ha) (dE hm) fun x=> ?_
  rw[cU hcl]
  constructor
  ·rintro (k|k|k)
   ·exact k.1
   ·exact k.1
   ·rw[h x.1 (bS ha k.1)] at k
    cases k.2
  ·intro k
   rcases hx x k with k2|k2
   ·exact oL ⟨k,k2⟩
   ·exact oR (oL ⟨k,k2⟩)
 have h0:al m a=0:=ge hm ha hcl hj.1 (by rw[hme];exact (ae hm).2.1)
 exact ⟨h0,by rw[aN h0,hme,hj.2]⟩
theorem rg {a b:Tab} (h:al a b=0):al (ac a b) a=0∧ac (ac a b) a=ac a b:=by
 obtain ⟨h1,h2,h3,h4,h5⟩:=bM h
 have hm:=di h
 rw[aN h] at hm ⊢
 refine ri hm h1 ?_ ?_ ?_
 ·refine noclash.2 fun x hx y hy e=> ?_
  rcases ky h3 (show x∈mrg a b from hx) with k|k
  ·exact yt h1 x k y hy e
  ·exact (noclash.1 h3 y hy x k e.symm).symm
 ·intro x hx
  show ai (aA a.c b.c) x=true
  rw[jP h4,hx];rfl
 ·intro x hx
  rcases (cU h3).1 (show x∈mrg a b from hx) with k|k|k
  ·exact oL k.1
  ·exact oL k.1
  ·exact oR k.2
theorem sJ {m:Tab} (hm:am m=0):al m m=0∧ac m m=m :=
 ri hm hm (noclash.2 fun x hx y hy e=>yt hm x hx y hy e) (fun _ h=>h) (fun _ h=>oL h)
theorem rh {a b c:Tab} (h1:al a b=0) (h2:al (ac a b) c=0) (h3:al b c=0) (h4:al a (ac b c)=0):ac (ac a b) c=ac a (ac b c):=by
 obtain ⟨a1,b1,k1,j1,_⟩:=bM h1
 obtain ⟨a2,c2,k2,j2,_⟩:=bM h2
 obtain ⟨b3,c3,k3,j3,_⟩:=bM h3
 obtain ⟨a4,bc4,k4,j4,_⟩:=bM h4
 have hE:mrg (ac a b) c=mrg a (ac b c):=by
  refine i8 (eL a2 c2) (eL a4 bc4) fun x=> ?_
  rw[cU k2,cU k4]
  have e1:x∈(ac a b).e↔(x∈a.e∧x∈b.e)∨(x∈a.e∧ai b.c x.1=false)∨(x∈b.e∧ai a.c x.1=false):=by rw[aN h1];exact cU k1
  have e2:x∈(ac b c).e↔(x∈b.e∧x∈c.e)∨(x∈b.e∧ai c.c x.1=false)∨(x∈c.e∧ai b.c x.1=false):=by rw[aN h3];exact cU k3
  have s1:ai (ac a b).c x.1=(ai a.c x.1 || ai b.c x.1):=by rw[aN h1];exact jP j1 _
  have s2:ai (ac b c).c x.1=(ai b.c x.1 || ai c.c x.1):=by rw[aN h3];exact jP j3 _
  rw[e1,e2,s1,s2]
  have ia:x∈a.e→ai a.c x.1=true:=bS a1
  have ib:x∈b.e→ai b.c x.1=true:=bS b1
  have ic:x∈c.e→ai c.c x.1=true:=bS c2
  clear e1 e2 s1 s2
  generalize ai a.c x.1=sa at *
  generalize ai b.c x.1=sb at *
  generalize ai c.c x.1=sc at *
  by_cases pa:x∈a.e<;>by_cases pb:x∈b.e<;>by_cases pc:x∈c.e<;>cases sa<;>cases sb<;>cases sc<;>simp_all
 rw[aN h2,aN h4,hE]
 have:=sz (a:=a.c) (b:=b.c) (c:=c.c) j1 (by rw[aN h1] at j2;exact j2) j3 (by rw[aN h3] at j4;exact j4)
 rw[show (ac a b).c=aA a.c b.c from by rw[aN h1],show (ac b c).c=aA b.c c.c from by rw[aN h3],this]


structure TbC (w:World) (N o:Nat) (t:Tab) (A:Option Addr) (ca:Nat) (D:Option Addr) (cd:Nat):Prop where
 k0:w.cell? ⟨N,o,none⟩=some (V I t.c.c0)
 k1:w.cell? ⟨N,o+1,none⟩=some (V I t.c.c1)
 k2:w.cell? ⟨N,o+2,none⟩=some (V I t.c.c2)
 k3:w.cell? ⟨N,o+3,none⟩=some (V I t.c.c3)
 k4:w.cell? ⟨N,o+4,none⟩=some (S A t.c.l.length ca)
 k5:w.cell? ⟨N,o+5,none⟩=some (S D t.e.length cd)
theorem TbC.keep {w w':World} {N o:Nat} {t:Tab} {A:Option Addr} {ca:Nat} {D:Option Addr} {cd:Nat} (h:TbC w N o t A ca D cd) (hc:∀j,o≤j→j<o+6→w'.cell? ⟨N,j,none⟩=w.cell? ⟨N,j,none⟩):TbC w' N o t A ca D cd :=
 ⟨(hc o (by omega) (by omega)).trans h.k0,(hc (o+1) (by omega) (by omega)).trans h.k1,(hc (o+2) (by omega) (by omega)).trans h.k2,(hc (o+3) (by omega) (by omega)).trans h.k3,(hc (o+4) (by omega) (by omega)).trans h.k4,(hc (o+5) (by omega) (by omega)).trans h.k5⟩
def TbN (w:World) (N o:Nat) (P:Nat→Prop) (t:Tab):Prop:=∃A ca D cd,TbC w N o t A ca D cd∧TbP P w t A ca D cd
theorem TbN.mono {w:World} {N o:Nat} {P Q:Nat→Prop} {t:Tab} (h:TbN w N o P t) (k:∀b,P b→Q b):TbN w N o Q t:=by
 obtain ⟨A,ca,D,cd,h1,h2⟩:=h
 exact ⟨A,ca,D,cd,h1,h2.mono k⟩
theorem TbN.keep {w w':World} {N o:Nat} {P:Nat→Prop} {t:Tab} (h:TbN w N o P t) (hA:Agr P w w') (hc:∀j,o≤j→j<o+6→w'.cell? ⟨N,j,none⟩=w.cell? ⟨N,j,none⟩):TbN w' N o P t:=by
 obtain ⟨A,ca,D,cd,h1,h2⟩:=h
 exact ⟨A,ca,D,cd,h1.keep hc,h2.agr hA⟩
theorem TbN.ok {w:World} {N o:Nat} {P:Nat→Prop} {t:Tab} (h:TbN w N o P t):am t=0:=by
 obtain ⟨A,ca,D,cd,_,h2⟩:=h
 exact h2.ok
def Blo (w:World) (N O:Nat):Prop:=∃T n,Blk w N T n∧O+38≤n
section
variable {w w':World} {N O:Nat}
theorem Blo.lt (h:Blo w N O):N<w.heap.size:=by
 obtain ⟨_,_,h,_⟩:=h
 exact h.lt
theorem Blo.fz (h:Blo w N O) (j:Nat):w.frozen? ⟨N,j,none⟩=false:=by
 obtain ⟨_,_,h,_⟩:=h
 exact h.fz j
theorem Blo.some (h:Blo w N O) {j:Nat} (hj:j<O+38):∃v,w.cell? ⟨N,j,none⟩=some v:=by
 obtain ⟨_,_,h,k⟩:=h
 exact h.some (by omega)
theorem Wr.blo {lo hi:Nat} (h:Wr N lo hi w w') (hb:Blo w N O):Blo w' N O:=by
 obtain ⟨T,n,hb,k⟩:=hb
 exact ⟨T,n,h.block hb,k⟩
theorem Wr.celo {lo hi:Nat} (h:Wr N lo hi w w') (hb:Blo w N O) {j:Nat} (hj:j<lo∨hi≤j):w'.cell? ⟨N,j,none⟩=w.cell? ⟨N,j,none⟩:=by
 obtain ⟨_,_,hb,_⟩:=hb
 exact h.cell hb hj
end
structure Nm (w:World) (N O:Nat) (P:Nat→Prop) (id:Int) (s t:Tab) (qs:List (List Stp)) (i:Nat) (z y:List Zit):Prop where
 blk:Blo w N O
 out:¬P N
 up:∀b,P b→b<w.heap.size
 cid:w.cell? ⟨N,O,none⟩=some (V I id)
 ts:TbN w N (O+1) P s
 tt:TbN w N (O+7) P t
 cnt:w.cell? ⟨N,O+37,none⟩=some (V I (qs.length:Int))
 le:qs.length≤4
 vs:∀j (h:j<qs.length),VwN w N (O+13+j*6) P qs[j] (if j<i then ofR s else z) (if j<i then ofR t else y)
def Nd (w:World) (N O:Nat) (P:Nat→Prop) (id:Int) (s t:Tab) (qs:List (List Stp)):Prop:=Nm w N O P id s t qs 4 [] []
section
variable {w w':World} {N O:Nat} {P:Nat→Prop} {id:Int} {s t:Tab} {qs:List (List Stp)} {i:Nat} {z y:List Zit}
theorem Nm.keep (h:Nm w N O P id s t qs i z y) (hN:w'.heap[N]? = w.heap[N]?) (hA:Agr P w w'):Nm w' N O P id s t qs i z y:=by
 have hb:Blo w' N O:=by
  obtain ⟨T,n,⟨cur,hc,hs⟩,k⟩:=h.blk
  exact ⟨T,n,⟨cur,hN.trans hc,hs⟩,k⟩
 have hc:∀j,w'.cell? ⟨N,j,none⟩=w.cell? ⟨N,j,none⟩:=fun j=>World.cell?_of_block (a:=⟨N,j,none⟩) hN
 exact ⟨hb,h.out,fun b k=>nL (h.up b k) hA.size,(hc O).trans h.cid,h.ts.keep hA fun j _ _=>hc j,h.tt.keep hA fun j _ _=>hc j,(hc (O+37)).trans h.cnt,h.le,fun j hj=>(h.vs j hj).keep hA hb.lt hb.fz fun j _ _=>hc j⟩
theorem Nm.below (h:Nm w N O P id s t qs i z y) (k:Below w.heap.size w w'):Nm w' N O P id s t qs i z y:=h.keep (k.block N h.blk.lt) (Agr.of k)
theorem Nm.mono (h:Nm w N O P id s t qs i z y) {P':Nat→Prop} (k:∀b,P b→P' b) (h1:¬P' N) (h2:∀b,P' b→b<w.heap.size):Nm w N O P' id s t qs i z y :=
 ⟨h.blk,h1,h2,h.cid,h.ts.mono k,h.tt.mono k,h.cnt,h.le,fun j hj=>(h.vs j hj).mono k⟩
theorem Nd.keep (h:Nd w N O P id s t qs) (hN:w'.heap[N]? = w.heap[N]?) (hA:Agr P w w'):Nd w' N O P id s t qs:=Nm.keep h hN hA
theorem Nd.below (h:Nd w N O P id s t qs) (k:Below w.heap.size w w'):Nd w' N O P id s t qs:=Nm.below h k
theorem Nd.view (h:Nd w N O P id s t qs) {j:Nat} (hj:j<qs.length):VwN w N (O+13+j*6) P qs[j] (ofR s) (ofR t):=by
 have:=h.vs j hj
 have hl:=h.le
 rwa [if_pos (by omega),if_pos (by omega)] at this
theorem cZ {m n:Nat} (h:¬P N) (hm:N<m):¬ag P m n N:=fun k=>k.elim h fun k=>by omega
theorem fa {m n:Nat} (h:∀b,P b→b<n):∀b,ag P m n b→b<n:=fun b k=>k.elim (h b) fun k=>k.2
end

def fk (N:Nat):World→Nat→List Value→World
 | w,_,[]=>w
 | w,o,v::l=>fk N (w.setCell ⟨N,o,none⟩ v) (o+1) l
theorem gk (N:Nat):∀(l:List Value) (w:World) (o lo hi:Nat),lo≤o→o+l.length≤hi→Wr N lo hi w (fk N w o l)
 | [],w,o,lo,hi,_,_=>Wr.refl _ _ _ _
 | v::l,w,o,lo,hi,h1,h2=>by
  simp only[List.length_cons] at h2
  exact (Wr.set w v h1 (by omega)).trans (gk N l _ (o+1) lo hi (by omega) (by omega))
theorem fG (N:Nat):∀(l:List Value) (w:World) (o:Nat),(fk N w o l).heap.size=w.heap.size
 | [],w,o=>rfl
 | v::l,w,o=>by
  rw[fk,fG N l]
  simp
theorem fF {N n:Nat} {T:TypeId}:∀(l:List Value) (w:World) (o:Nat),Blk w N T n→o+l.length≤n→∀j v,l[j]? = some v→(fk N w o l).cell? ⟨N,o+j,none⟩=some v
 | [],w,o,_,_,j,v,h=>by simp at h
 | u::l,w,o,hb,hn,0,v,h=>by
  simp only[List.length_cons] at hn
  have hb':Blk (w.setCell ⟨N,o,none⟩ u) N T n:=(Wr.set (lo:=o) (hi:=o+1) w u (nR _) (by omega)).block hb
  have e:u=v:=by simpa using h
  subst e
  obtain ⟨x,hx⟩:=hb.some (j:=o) (by omega)
  rw[fk,Nat.add_zero,(gk N l (w.setCell ⟨N,o,none⟩ u) (o+1) (o+1) (o+1+l.length) (Nat.le_refl _) (Nat.le_refl _)).cell hb' (Or.inl (by omega))]
  exact World.cell?_setCell_same _ _ _ hx
 | u::l,w,o,hb,hn,j+1,v,h=>by
  simp only[List.length_cons] at hn
  have hb':Blk (w.setCell ⟨N,o,none⟩ u) N T n:=(Wr.set (lo:=o) (hi:=o+1) w u (nR _) (by omega)).block hb
  rw[fk,show o+(j+1)=o+1+j by omega]
  exact fF l (w.setCell ⟨N,o,none⟩ u) (o+1) hb' (by omega) j v (by simpa using h)
theorem Nd.laid {w w':World} {N O:Nat} {P P':Nat→Prop} {id:Int} {s t s' t':Tab} {qs:List (List Stp)} (h:Nd w N O P id s t qs) (hPP:∀b,P b→P' b) (hN:¬P' N) (hup:∀b,P' b→b<w.heap.size) {A B C D:Option Addr} {ca cb cc cd:Nat} (hs:TbP P' w s' A ca C cc) (ht:TbP P' w t' B cb D cd) (hw:fk N w (O+1) [V I s'.c.c0,V I s'.c.c1,V I s'.c.c2,V I s'.c.c3,S A s'.c.l.length ca,S C s'.e.length cc,V I t'.c.c0,V I t'.c.c1,V I t'.c.c2,V I t'.c.c3,S B t'.c.l.length cb,S D t'.e.length cd]=w') :
  Nm w' N O P' id s' t' qs 0 (ofR s) (ofR t)∧Wr N (O+1) (O+13) w w':=by
 have hW:Wr N (O+1) (O+13) w w':=by rw[←hw];exact gk N _ w (O+1) (O+1) (O+13) (nR _) (nR _)
 have hsz:w'.heap.size=w.heap.size:=by rw[←hw];exact fG _ _ _ _
 have hA:Agr P' w w':=hW.agr hN
 obtain ⟨T0,n0,hb0,hn0⟩:=h.blk
 have hc:∀j v,[V I s'.c.c0,V I s'.c.c1,V I s'.c.c2,V I s'.c.c3,S A s'.c.l.length ca,S C s'.e.length cc,V I t'.c.c0,V I t'.c.c1,V I t'.c.c2,V I t'.c.c3,S B t'.c.l.length cb,S D t'.e.length cd][j]? = some v→w'.cell? ⟨N,O+1+j,none⟩=some v:=fun j v hv=>by rw[←hw];exact fF _ w (O+1) hb0 (by show O+1+12≤n0;omega) j v hv
 have hb:=hW.blo h.blk
 have ho:∀j,(j<O+1∨O+13≤j)→w'.cell? ⟨N,j,none⟩=w.cell? ⟨N,j,none⟩:=fun j hj=>hW.celo h.blk hj
 refine ⟨⟨hb,hN,fun b hb=>by rw[hsz];exact hup b hb,(ho O (by omega)).trans h.cid,⟨A,ca,C,cc,⟨hc 0 _ rfl,hc 1 _ rfl,hc 2 _ rfl,hc 3 _ rfl,hc 4 _ rfl,hc 5 _ rfl⟩,hs.agr hA⟩,⟨B,cb,D,cd,⟨hc 6 _ rfl,hc 7 _ rfl,hc 8 _ rfl,hc 9 _ rfl,hc 10 _ rfl,hc 11 _ rfl⟩,ht.agr hA⟩,(ho (O+37) (by omega)).trans h.cnt,h.le,fun j hj=> ?_⟩,hW⟩
 rw[if_neg (Nat.not_lt_zero _),if_neg (Nat.not_lt_zero _)]
 exact ((h.view hj).mono hPP).keep hA hb.lt hb.fz fun i h1 _=>ho i (by omega)
theorem Nm.turned {w w':World} {N O:Nat} {P P':Nat→Prop} {id:Int} {s t:Tab} {qs:List (List Stp)} {i:Nat} {z y:List Zit} (h:Nm w N O P id s t qs i z y) (hi:i<qs.length) (hPP:∀b,P b→P' b) (hN:¬P' N) (hup:∀b,P' b→b<w'.heap.size) (hv:VwN w' N (O+13+i*6) P' qs[i] (ofR s) (ofR t)) (hW:Wr N (O+13+i*6) (O+13+i*6+6) w w'):Nm w' N O P' id s t qs (i+1) z y:=by
 have hb:=hW.blo h.blk
 have hl:=h.le
 have hA:Agr P w w':=hW.agr fun k=>hN (hPP _ k)
 have ho:∀j,(j<O+13+i*6∨O+13+i*6+6≤j)→w'.cell? ⟨N,j,none⟩=w.cell? ⟨N,j,none⟩:=fun j hj=>hW.celo h.blk hj
 refine ⟨hb,hN,hup,(ho O (by omega)).trans h.cid,(h.ts.keep hA fun j _ _=>ho j (by omega)).mono hPP,(h.tt.keep hA fun j _ _=>ho j (by omega)).mono hPP,(ho (O+37) (by omega)).trans h.cnt,h.le,fun j hj=> ?_⟩
 by_cases e:j=i
 ·subst e
  rw[if_pos (by omega),if_pos (by omega)]
  exact hv
 ·have:=((h.vs j hj).keep hA hb.lt hb.fz fun k h1 h2=>ho k (by omega)).mono hPP
  by_cases hlt:j<i
  ·rw[if_pos hlt,if_pos hlt] at this
   rw[if_pos (by omega),if_pos (by omega)]
   exact this
  ·rw[if_neg hlt,if_neg hlt] at this
   rw[if_neg (by omega),if_neg (by omega)]
   exact this
theorem Nm.done {w:World} {N O:Nat} {P:Nat→Prop} {id:Int} {s t:Tab} {qs:List (List Stp)} {i:Nat} {z y:List Zit} (h:Nm w N O P id s t qs i z y) (hi:qs.length≤i):Nd w N O P id s t qs:=by
 have hl:=h.le
 refine ⟨h.blk,h.out,h.up,h.cid,h.ts,h.tt,h.cnt,h.le,fun j hj=> ?_⟩
 have:=h.vs j hj
 rw[if_pos (by omega),if_pos (by omega)] at this
 rw[if_pos (by omega),if_pos (by omega)]
 exact this
end Go.Proofs.YtkefkplnamkicaaGreatDoor
