/-
  dot.Minus: the dots that a has and b hasn't. dot.Less: has b all that a has?
  dot.Less: has b all that a has?
  The calls that only read, as they are met in a region that leaves its order open.
  Plain facts of Minus, Less and Next: what is missing is what a has and b hasn't; joined, it is no more missing.
  Plain facts: joining is a lattice's.
  Merging is a lattice: which cells a merged table has; that it doesn't matter in which order, nor how often.
-/
import Derived.Test.YtckeonpnfankhaaGreatDoorM21
set_option maxRecDepth 100000
set_option maxHeartbeats 8000000
namespace Go.Proofs.YtckeonpnfankhaaGreatDoor
open Go.RowKit Go.Sort



theorem CtxAt.G {w:World} {B:Nat} {c:Ctx} {A:Option Addr} {cap:Nat} (h:CtxAt w B c A cap):(∀n os,(grow (w.drewN n) os).cell? ⟨B,0,none⟩=some (.int .i64 c.c0))∧(∀n os,(grow (w.drewN n) os).cell? ⟨B,1,none⟩=some (.int .i64 c.c1))∧(∀n os,(grow (w.drewN n) os).cell? ⟨B,2,none⟩=some (.int .i64 c.c2))∧(∀n os,(grow (w.drewN n) os).cell? ⟨B,3,none⟩=some (.int .i64 c.c3))∧(∀n os,(grow (w.drewN n) os).cell? ⟨B,4,none⟩=some (.slice A c.l.length cap)) :=
 ⟨cell_grown (a:=⟨B,0,none⟩) h.lt h.k0,cell_grown (a:=⟨B,1,none⟩) h.lt h.k1,cell_grown (a:=⟨B,2,none⟩) h.lt h.k2,cell_grown (a:=⟨B,3,none⟩) h.lt h.k3,cell_grown (a:=⟨B,4,none⟩) h.lt h.k4⟩
theorem DotAt.G {w:World} {B:Nat} {x y:Int} (h:DotAt w B x y):(∀n os,(grow (w.drewN n) os).cell? ⟨B,0,none⟩=some (.int .i64 x))∧(∀n os,(grow (w.drewN n) os).cell? ⟨B,1,none⟩=some (.int .i64 y)) :=
 ⟨cell_grown (a:=⟨B,0,none⟩) h.lt h.k0,cell_grown (a:=⟨B,1,none⟩) h.lt h.k1⟩


theorem jz {c:Ctx} (h:Can c) {x:Int×Int} (hx:af c x=true):al x=true:=by
 rcases (aF c x).1 hx with hm|hm
 ·exact h.right x hm
 ·have:=ch h.ck x.1 hm.1 (by omega)
  simp[al,inB]
  omega

theorem k7 (b:Ctx) (node top:Int):∀(n:Nat) (l:List (Int×Int)) (s:Int) (x:Int×Int),x∈bY b node top n l s→x∈l∨(x.1=node∧s≤x.2∧x.2≤top∧af b x=false):=by
 intro n
 induction n with
 | zero=>intro l s x h;exact oL h
 | succ n ih =>
  intro l s x h
  by_cases hc:s≤top∧l.length≤400
  ·simp only[bY,if_pos hc] at h
   rcases ih _ _ x h with h|h
   ·by_cases hh:af b (node,s)=true
    ·rw[if_pos hh] at h;exact oL h
    ·rw[if_neg hh] at h
     rcases List.mem_append.1 h with h|h
     ·exact oL h
     ·obtain rfl:x=(node,s):=by simpa using h
      exact oR ⟨rfl,Int.le_refl _,hc.1,by simpa using hh⟩
   ·exact oR ⟨h.1,by omega,h.2.2.1,h.2.2.2⟩
  ·simp only[bY,if_neg hc] at h;exact oL h

theorem rS (b:Ctx) (node top:Int):∀(n:Nat) (l:List (Int×Int)) (s:Int),(top+1-s).toNat≤n→(bY b node top n l s).length≤400→∀x:Int×Int,x∈l∨(x.1=node∧s≤x.2∧x.2≤top∧af b x=false)→x∈bY b node top n l s:=by
 intro n
 induction n with
 | zero =>
  intro l s hn _ x h
  rcases h with h|h
  ·exact h
  ·omega
 | succ n ih =>
  intro l s hn hl x h
  by_cases hc:s≤top∧l.length≤400
  ·simp only[bY,if_pos hc] at hl ⊢
   refine ih _ _ (by omega) hl x ?_
   rcases h with h|h
   ·left
    by_cases hh:af b (node,s)=true
    ·rw[if_pos hh];exact h
    ·rw[if_neg hh];exact List.mem_append_left _ h
   ·by_cases hs:x.2=s
    ·left
     obtain rfl:x=(node,s):=Prod.ext h.1 hs
     rw[h.2.2.2]
     simp
    ·exact oR ⟨h.1,by omega,h.2.2.1,h.2.2.2⟩
  ·simp only[bY,if_neg hc] at hl ⊢
   rcases h with h|h
   ·exact h
   ·omega

theorem mp (b:Ctx) (node:Int) (ds:List (Int×Int)):∀(l:List (Int×Int)) (x:Int×Int),x∈bZ b node ds l↔x∈l∨(x∈ds∧x.1=node∧af b x=false):=by
 induction ds with
 | nil=>intro l x;simp[bZ]
 | cons y ds ih =>
  intro l x
  show x∈bZ b node ds (if y.1=node∧af b y=false then l++[y] else l)↔_
  rw[ih]
  by_cases hc:y.1=node∧af b y=false
  ·rw[if_pos hc,List.mem_append,List.mem_singleton,List.mem_cons]
   constructor
   ·rintro ((h|h)|h)
    ·exact oL h
    ·exact oR ⟨oL h,by rw[h];exact hc⟩
    ·exact oR ⟨oR h.1,h.2⟩
   ·rintro (h|⟨h|h,k⟩)
    ·exact oL (oL h)
    ·exact oL (oR h)
    ·exact oR ⟨h,k⟩
  ·rw[if_neg hc,List.mem_cons]
   constructor
   ·rintro (h|h)
    ·exact oL h
    ·exact oR ⟨oR h.1,h.2⟩
   ·rintro (h|⟨h|h,k⟩)
    ·exact oL h
    ·subst h;exact absurd k hc
    ·exact oR ⟨h,k⟩

theorem tn {a b:Ctx} {node:Int} {l:List (Int×Int)} (hl:(dK a b node l).length≤400) {x:Int×Int} (h:x∈l∨(x.1=node∧af a x=true∧af b x=false)):x∈dK a b node l:=by
 have h1:(bY b node (clk a node) (clk a node-clk b node).toNat l (clk b node+1)).length≤400:=nT (pg b node a.l _) hl
 have hall:=rS b node (clk a node) _ l (clk b node+1) (by omega) h1
 refine (mp b node a.l _ x).2 ?_
 rcases h with h|⟨hn,ha,hb⟩
 ·exact oL (hall x (oL h))
 ·rcases (aF a x).1 ha with hm|hm
  ·exact oR ⟨hm,hn,hb⟩
  ·refine oL (hall x (oR ⟨hn,?_,by rw[←hn];exact hm.2.2.2,hb⟩))
   rcases Int.lt_or_le (clk b node) x.2 with hlt|hle
   ·omega
   ·exact absurd ((aF b x).2 (oR ⟨hm.1,hm.2.1,hm.2.2.1,by rw[hn];exact hle⟩)) (by rw[hb];simp)

theorem rO {a b:Ctx} {x:Int×Int} (h0:0≤x.1) (ha:af a x=true) (hb:af b x=false):∀k:Nat,(bn a b k).length≤400→x.1<k→x∈bn a b k:=by
 intro k
 induction k with
 | zero=>intro _ h;omega
 | succ k ih =>
  intro hl hx
  refine tn hl ?_
  by_cases e:x.1=(k:Int)
  ·exact oR ⟨e,ha,hb⟩
  ·exact oL (ih (nT (gL a b k) hl) (by omega))

theorem vT (c:Ctx) (n:Int):∀(l:List (Int×Int)) (x:Int×Int),x∈l→x.1=n→x.2≤et c n l:=by
 have hmono:∀(l:List (Int×Int)) (m:Int),m≤l.foldl (fun m x=>if x.1=n then max m x.2 else m) m:=by
  intro l
  induction l with
  | nil=>intro m;simp
  | cons x l ih =>
   intro m
   simp only[List.foldl_cons]
   refine Int.le_trans ?_ (ih (if x.1=n then max m x.2 else m))
   split<;>omega
 intro l x hx hn
 unfold et
 suffices h:∀(l:List (Int×Int)) (m:Int),x∈l→x.2≤l.foldl (fun m x=>if x.1=n then max m x.2 else m) m from h l _ hx
 intro l
 induction l with
 | nil=>intro m h;cases h
 | cons y l ih =>
  intro m h
  simp only[List.foldl_cons]
  rcases List.mem_cons.1 h with rfl|h
  ·refine Int.le_trans ?_ (hmono l _)
   rw[if_pos hn];omega
  ·exact ih _ h

theorem uC {c:Ctx} {n:Int} (h:(bv c n).2=0):(bv c n).1.1=n∧af c (bv c n).1=false:=by
 unfold bv at h ⊢
 by_cases he:aJ c=0
 ·rw[if_pos he] at h ⊢
  cases hin:inB n 0 3
  ·rw[hin] at h;cases h
  ·rw[hin] at h
   rw[if_pos rfl] at h ⊢
   change kg c n=0 at h
   show (jn c n).1=n∧af c (jn c n)=false
   unfold kg at h
   by_cases ht:1099511627776≤et c n c.l
   ·rw[if_pos ht] at h;cases h
   ·unfold jn
    rw[if_neg ht]
    refine ⟨rfl,?_⟩
    cases hh:af c (n,et c n c.l+1)
    ·rfl
    ·rcases (aF _ _).1 hh with k|k
     ·have:et c n c.l+1≤et c n c.l:=vT c n c.l _ k rfl
      omega
     ·have h1:et c n c.l+1≤clk c n:=k.2.2.2
      have h2:=rC c n c.l
      omega
 ·rw[if_neg he] at h;exact absurd h he


theorem xg {a b:Ctx} (h:aD a b=0):aJ a=0∧aJ b=0:=kv (dT h).2.2.1
theorem tG {a b:Ctx} (h:aD a b=0):aD b a=0∧az b a=az a b:=by
 obtain ⟨ha,hb,_,hc,hl⟩:=dT h
 have he:=xg h
 have h2:aD b a=0:=kW he.2 he.1 (by rw[kA hb ha];exact hl)
 refine ⟨h2,?_⟩
 rw[hc,(dT h2).2.2.2.1,kA hb ha]
theorem db {a b:Ctx} (h:aD a b=0):Can (az a b)∧aJ (az a b)=0∧(az a b).l.length≤400∧∀x,af (az a b) x=true↔af a x=true∨af b x=true:=by
 obtain ⟨ha,hb,_,hc,hl⟩:=dT h
 rw[hc]
 exact ⟨eL ha hb,iV (eL ha hb) hl,hl,ee ha hb⟩
theorem jg {a b:Ctx} (h:aD a b=0) (x:Int×Int):af (az a b) x=(af a x || af b x):=by
 rw[Bool.eq_iff_iff,(db h).2.2.2 x,Bool.or_eq_true]
theorem qo {a b c:Ctx} (h1:aD a b=0) (h2:aD (az a b) c=0) (h3:aD b c=0) (h4:aD a (az b c)=0):az (az a b) c=az a (az b c):=by
 refine qx (db h2).1 (db h4).1 fun x=> ?_
 rw[(db h2).2.2.2 x,(db h4).2.2.2 x,(db h1).2.2.2 x,(db h3).2.2.2 x,or_assoc]


theorem sl {l:List Cel} {d:Int×Int}:gl l d=true↔∃y∈l,y.1=d:=by
 unfold gl
 rw[List.any_eq_true]
 constructor
 ·rintro ⟨y,hy,h⟩;exact ⟨y,hy,by simpa using h⟩
 ·rintro ⟨y,hy,h⟩;exact ⟨y,hy,by simpa using h⟩
theorem jc {l m:List Cel} (hl:Asc l) (hm:Asc m) (h:∀x,x∈l↔x∈m):l=m:=by
 unfold Asc at hl hm
 have nl:l.Nodup:=List.Pairwise.imp (fun {a b} (h:bq a.1 b.1=true) (e:a=b)=>gP h (by rw[e])) hl
 have nm:m.Nodup:=List.Pairwise.imp (fun {a b} (h:bq a.1 b.1=true) (e:a=b)=>gP h (by rw[e])) hm
 have hp:l.Perm m:=(List.perm_ext_iff_of_nodup nl nm).2 h
 refine List.Perm.eq_of_pairwise (le:=fun x y=>bq x.1 y.1=true) ?_ hl hm hp
 intro x y _ _ h1 h2
 have:=fN h1 h2
 rw[ol] at this
 cases this
theorem noclash {a b:Tab}:dA a b=false↔∀x∈a.e,∀y∈b.e,y.1=x.1→y=x:=by
 unfold dA
 rw[List.any_eq_false]
 constructor
 ·intro h x hx y hy e
  cases h4:gq y x
  ·refine absurd ?_ (h x hx)
   unfold clP
   rw[List.any_eq_true]
   exact ⟨y,hy,by simp[e,h4]⟩
  ·exact gN.1 h4
 ·intro h x hx hcl
  unfold clP at hcl
  rw[List.any_eq_true] at hcl
  obtain ⟨y,hy,h2⟩:=hcl
  simp only[Bool.and_eq_true,decide_eq_true_eq,Bool.not_eq_true'] at h2
  have h3:=h x hx y hy h2.1
  have h4:=h2.2
  rw[h3,gN.2 rfl] at h4
  cases h4
theorem uu {t:Tab} (h:aq t=0):∀x∈t.e,∀y∈t.e,y.1=x.1→y=x:=fun x hx y hy e=>(iC (ig (dM h))) y hy x hx e
theorem di {a b:Tab} (hc:dA a b=false) {x:Cel}:x∈mrg a b↔(x∈a.e∧x∈b.e)∨(x∈a.e∧af b.c x.1=false)∨(x∈b.e∧af a.c x.1=false):=by
 unfold mrg
 rw[(gZ _).mem_iff]
 unfold both
 rw[List.mem_append,List.mem_filter,List.mem_filter]
 unfold fj eV
 simp only[Bool.or_eq_true,Bool.not_eq_true']
 have hb:x∈a.e→(gl b.e x.1=true↔x∈b.e):=by
  intro hx
  rw[sl]
  constructor
  ·rintro ⟨y,hy,e⟩
   rw[←noclash.1 hc x hx y hy e];exact hy
  ·intro h;exact ⟨x,h,rfl⟩
 constructor
 ·rintro (⟨h1,h2|h2⟩|h1)
  ·exact oL ⟨h1,(hb h1).1 h2⟩
  ·exact oR (oL ⟨h1,h2⟩)
  ·exact oR (oR h1)
 ·rintro (⟨h1,h2⟩|⟨h1,h2⟩|h1)
  ·exact oL ⟨h1,oL ((hb h1).2 h2)⟩
  ·exact oL ⟨h1,oR h2⟩
  ·exact oR h1
theorem gU {a b:Tab} (h1:aq a=0) (h2:aq b=0) (h3:dA a b=false) (h4:aD a.c b.c=0) (h5:(mrg a b).length≤400):ak a b=0:=by
 unfold ak
 rw[h1,h2,h3,h4]
 simp
 omega
theorem aO {a b:Tab} (h:ak a b=0):ac a b=⟨az a.c b.c,mrg a b⟩:=by unfold ac;rw[if_pos h]
theorem ja {c:Ctx} {e:List Cel} (hc:aJ c=0) (hl:e.length≤400) (ha:Asc e) (h:∀x∈e,af c x.1=true∧aV x.2.1 x.2.2.1 x.2.2.2=true):aq ⟨c,e⟩=0:=by
 refine rq hc hl fun k hk=> ?_
 have hk':k<e.length:=hk
 cases k with
 | zero =>
  rw[fV (t:=⟨c,e⟩) hk rfl]
  have:=h e[0] (gM hk')
  simp[this.1,this.2]
 | succ m =>
  rw[e8 (t:=⟨c,e⟩) hk rfl rfl]
  have:=h e[m+1] (gM hk')
  have h2:=(List.pairwise_iff_getElem.1 ha) m (m+1) (by omega) hk' (by omega)
  simp[this.1,this.2,h2]
theorem jN {a b:Tab} (hc:dA a b=false) {x:Cel} (h:x∈mrg a b):x∈a.e∨x∈b.e:=by
 rcases (di hc).1 h with h|h|h
 ·exact oL h.1
 ·exact oL h.1
 ·exact oR h.1
theorem d9 {a b:Tab} (h:ak a b=0):aq (ac a b)=0:=by
 obtain ⟨h1,h2,h3,h4,h5⟩:=bL h
 rw[aO h]
 refine ja (db h4).2.1 h5 (fh h1 h2) fun x hx=> ?_
 rw[jg h4]
 rcases jN h3 hx with hx|hx
 ·exact ⟨by rw[bO h1 hx];rfl,e7 h1 hx⟩
 ·exact ⟨by rw[bO h2 hx];simp,e7 h2 hx⟩
theorem pJ {a b:Tab} (h:dA a b=false):dA b a=false:=noclash.2 fun x hx y hy e=>(noclash.1 h y hy x hx e.symm).symm
theorem rV {a b:Tab} (h:ak a b=0):ak b a=0∧ac b a=ac a b:=by
 obtain ⟨h1,h2,h3,h4,h5⟩:=bL h
 have h3':=pJ h3
 have hm:mrg b a=mrg a b:=by
  refine jc (fh h2 h1) (fh h1 h2) fun x=> ?_
  rw[di h3',di h3]
  constructor
  ·rintro (⟨k1,k2⟩|k|k)
   ·exact oL ⟨k2,k1⟩
   ·exact oR (oR k)
   ·exact oR (oL k)
  ·rintro (⟨k1,k2⟩|k|k)
   ·exact oL ⟨k2,k1⟩
   ·exact oR (oR k)
   ·exact oR (oL k)
 have hj:=tG h4
 have h0:ak b a=0:=gU h2 h1 h3' hj.1 (by rw[hm];exact h5)
 exact ⟨h0,by rw[aO h0,aO h,hm,hj.2]⟩
theorem rx {m a:Ctx} (hm:aJ m=0) (ha:aJ a=0) (h:∀x,af a x=true→af m x=true):aD m a=0∧az m a=m:=by
 have hcm:=cL hm
 have hca:=cL ha
 have hF:cX m a=m:=qx (eL hcm hca) hcm fun x=>by
  rw[ee hcm hca]
  constructor
  ·rintro (k|k)
   ·exact k
   ·exact h x k
  ·exact oL
 have h0:aD m a=0:=kW hm ha (by rw[hF];exact (bw hm).2.1)
 exact ⟨h0,by rw[(dT h0).2.2.2.1,hF]⟩
theorem oP {m a:Tab} (hm:aq m=0) (ha:aq a=0) (hcl:dA m a=false) (h:∀x,af a.c x=true→af m.c x=true) (hx:∀x∈m.e,x∈a.e∨af a.c x.1=false):ak m a=0∧ac m a=m:=by
 have hj:=rx (ag hm).1 (ag ha).1 h
 have hme:mrg m a=m.e:=by
  refine jc (fh hm ha) (dM hm) fun x=> ?_
  rw[di hcl]
  constructor
  ·rintro (k|k|k)
   ·exact k.1
   ·exact k.1
   ·rw[h x.1 (bO ha k.1)] at k
    cases k.2
  ·intro k
   rcases hx x k with k2|k2
   ·exact oL ⟨k,k2⟩
   ·exact oR (oL ⟨k,k2⟩)
 have h0:ak m a=0:=gU hm ha hcl hj.1 (by rw[hme];exact (ag hm).2.1)
 exact ⟨h0,by rw[aO h0,hme,hj.2]⟩
theorem oH {a b:Tab} (h:ak a b=0):ak (ac a b) a=0∧ac (ac a b) a=ac a b:=by
 obtain ⟨h1,h2,h3,h4,h5⟩:=bL h
 have hm:=d9 h
 rw[aO h] at hm ⊢
 refine oP hm h1 ?_ ?_ ?_
 ·refine noclash.2 fun x hx y hy e=> ?_
  rcases jN h3 (show x∈mrg a b from hx) with k|k
  ·exact uu h1 x k y hy e
  ·exact (noclash.1 h3 y hy x k e.symm).symm
 ·intro x hx
  show af (az a.c b.c) x=true
  rw[jg h4,hx];rfl
 ·intro x hx
  rcases (di h3).1 (show x∈mrg a b from hx) with k|k|k
  ·exact oL k.1
  ·exact oL k.1
  ·exact oR k.2
theorem pZ {m:Tab} (hm:aq m=0):ak m m=0∧ac m m=m :=
 oP hm hm (noclash.2 fun x hx y hy e=>uu hm x hx y hy e) (fun _ h=>h) (fun _ h=>oL h)
theorem oZ {a b c:Tab} (h1:ak a b=0) (h2:ak (ac a b) c=0) (h3:ak b c=0) (h4:ak a (ac b c)=0):ac (ac a b) c=ac a (ac b c):=by
 obtain ⟨a1,b1,k1,j1,_⟩:=bL h1
 obtain ⟨a2,c2,k2,j2,_⟩:=bL h2
 obtain ⟨b3,c3,k3,j3,_⟩:=bL h3
 obtain ⟨a4,bc4,k4,j4,_⟩:=bL h4
 have hE:mrg (ac a b) c=mrg a (ac b c):=by
  refine jc (fh a2 c2) (fh a4 bc4) fun x=> ?_
  rw[di k2,di k4]
  have e1:x∈(ac a b).e↔(x∈a.e∧x∈b.e)∨(x∈a.e∧af b.c x.1=false)∨(x∈b.e∧af a.c x.1=false):=by rw[aO h1];exact di k1
  have e2:x∈(ac b c).e↔(x∈b.e∧x∈c.e)∨(x∈b.e∧af c.c x.1=false)∨(x∈c.e∧af b.c x.1=false):=by rw[aO h3];exact di k3
  have s1:af (ac a b).c x.1=(af a.c x.1 || af b.c x.1):=by rw[aO h1];exact jg j1 _
  have s2:af (ac b c).c x.1=(af b.c x.1 || af c.c x.1):=by rw[aO h3];exact jg j3 _
  rw[e1,e2,s1,s2]
  have ia:x∈a.e→af a.c x.1=true:=bO a1
  have ib:x∈b.e→af b.c x.1=true:=bO b1
  have ic:x∈c.e→af c.c x.1=true:=bO c2
  clear e1 e2 s1 s2
  generalize af a.c x.1=sa at *
  generalize af b.c x.1=sb at *
  generalize af c.c x.1=sc at *
  by_cases pa:x∈a.e<;>by_cases pb:x∈b.e<;>by_cases pc:x∈c.e<;>cases sa<;>cases sb<;>cases sc<;>simp_all
 rw[aO h2,aO h4,hE]
 have:=qo (a:=a.c) (b:=b.c) (c:=c.c) j1 (by rw[aO h1] at j2;exact j2) j3 (by rw[aO h3] at j4;exact j4)
 rw[show (ac a b).c=az a.c b.c from by rw[aO h1],show (ac b c).c=az b.c c.c from by rw[aO h3],this]

end Go.Proofs.YtckeonpnfankhaaGreatDoor
