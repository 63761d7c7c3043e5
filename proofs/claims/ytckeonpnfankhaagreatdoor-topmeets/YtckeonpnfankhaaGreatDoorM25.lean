/-
  One table of four nodes, and the packets that were told of it: what edits, packets and meetings leave.
  What is told since a context brings what all would.
  A net as plain data: four nodes' tables and the packets that were sent; what happens, one by one.
  A net in memory: four nodes in one block, and the packets that were sent, which are never written any more.
  (*Node).Do: an edit of the table 0.
  (*Node).Do: an edit of the table 1.
-/
import Derived.Test.YtckeonpnfankhaaGreatDoorM24
set_option maxRecDepth 100000
set_option maxHeartbeats 8000000
namespace Go.Proofs.YtckeonpnfankhaaGreatDoor
open Go.RowKit Go.Sort

theorem tp {a b:Tab} (h0:ak a b=0) (d:Int×Int):af (ac a b).c d=true↔af a.c d=true∨af b.c d=true:=by
 obtain ⟨_,_,_,hj,_⟩:=bL h0
 have hk:=dT hj
 rw[aO h0]
 show af (az a.c b.c) d=true↔_
 rw[hk.2.2.2.1]
 exact ee hk.1 hk.2.1 d
def upd (x:Nat→Tab) (i:Nat) (t:Tab):Nat→Tab:=fun j=>if j=i then t else x j
theorem cv (x:Nat→Tab) (i:Nat) (t:Tab):upd x i t i=t:=if_pos rfl
theorem eh (x:Nat→Tab) {i j:Nat} (t:Tab) (h:j≠i):upd x i t j=x j:=if_neg h
structure Lane (U:List Cel) (x:Nat→Tab) (ps:List Tab):Prop where
 uni:Uni U
 sub:∀i,Sub U (x i)
 own:∀i:Nat,i<4→∀y∈U,y.1.1=(i:Int)→af (x i).c y.1=true
 pk:∀p∈ps,Sub U p
section
variable {U:List Cel} {x:Nat→Tab} {ps:List Tab}
theorem Lane.take (h:Lane U x ps) (i:Nat) {p:Tab} (hp:Sub U p):ak (x i) p=0∧Lane U (upd x i (ac (x i) p)) ps:=by
 obtain ⟨h0,h1,h2,_⟩:=Sub.merge h.uni (h.sub i) hp
 refine ⟨h0,h.uni,fun j=> ?_,fun j hj y hy e=> ?_,h.pk⟩
 ·by_cases e:j=i
  ·subst e
   rw[cv]
   exact h1
  ·rw[eh x _ e]
   exact h.sub j
 ·have hh:=h.own j hj y hy e
  by_cases e:j=i
  ·subst e
   rw[cv]
   exact (h2 _).2 (oL hh)
  ·rw[eh x _ e]
   exact hh
theorem Lane.send (h:Lane U x ps) {p:Tab} (hp:Sub U p):Lane U x (ps++[p]) :=
 ⟨h.uni,h.sub,h.own,fun q hq=>by
  rcases List.mem_append.1 hq with k|k
  ·exact h.pk q k
  ·rw[List.mem_singleton.1 k];exact hp⟩
theorem Sub.since {t:Tab} {c:Ctx} (h:Sub U t) (h0:bA t c=0):Sub U (bM t c):=by
 have ht:=h.ok
 have hs:woE t.c (am (cg c) t.e)=0:=by
  unfold bA at h0
  rw[ht] at h0
  by_cases hc:aJ c=0
  ·rw[hc] at h0;simpa using h0
  ·rw[if_neg (by simp),if_pos hc] at h0;exact absurd h0 hc
 have hd:=dw ht (cg c)
 obtain ⟨_,h2,h3⟩:=xr hd.2 hs
 have hT:bM t c=⟨woC t.c (am (cg c) t.e),fA c t.e⟩:=by unfold bM;rw[if_pos h0]
 rw[hT]
 have hsub:∀y∈fA c t.e,y∈t.e∧cg c y=false:=fun y hy=>by
  have:=List.mem_filter.1 hy
  exact ⟨this.1,by simpa using this.2⟩
 refine ⟨?_,fun y hy=>h.cel y (hsub y hy).1,fun d hd=>h.ctx d ((h3 d).1 hd).1⟩
 refine ja h2 (nT (List.length_filter_le _ _) (ag ht).2.1) (List.Pairwise.filter _ (dM ht)) fun y hy=> ?_
 obtain ⟨hy1,hy2⟩:=hsub y hy
 refine ⟨(h3 _).2 ⟨bO ht hy1,fun hm=> ?_⟩,e7 ht hy1⟩
 rw[(fE ht hy1).1 hm] at hy2
 cases hy2
theorem Lane.edit (h:Lane U x ps) {i:Nat} (hi:i<4) (hl:U.length+1≤400) (k key col v:Int):∃U',Lane U' (upd x i (doT (x i) i k key col v)) ps∧U'.length≤U.length+1∧∀y∈U,y∈U':=by
 have same:doT (x i) i k key col v=x i→∃U',Lane U' (upd x i (doT (x i) i k key col v)) ps∧U'.length≤U.length+1∧∀y∈U,y∈U':=fun e=>by
  have hu:upd x i (doT (x i) i k key col v)=x:=by
   funext j
   by_cases ej:j=i
   ·subst ej;rw[cv,e]
   ·rw[eh x _ ej]
  rw[hu]
  exact ⟨U,h,by omega,fun y hy=>hy⟩
 by_cases h0:doE (x i) i k key col v=0
 ·have hT:doT (x i) i k key col v=ac (x i) (edT (x i) i k key col v):=by unfold doT;rw[if_pos h0]
  have hE:edE (x i) i k key col v=0∧ak (x i) (edT (x i) i k key col v)=0:=by
   unfold doE at h0
   by_cases e:edE (x i) i k key col v=0
   ·rw[if_pos e] at h0;exact ⟨e,h0⟩
   ·rw[if_neg e] at h0;exact absurd h0 e
  rw[hT]
  by_cases k1:k=1
  ·have e1:edE (x i) i k key col v=cZ (x i) i key col v:=by unfold edE;rw[if_pos k1]
   have e2:edT (x i) i k key col v=cD (x i) i key col v:=by unfold edT;rw[if_pos k1]
   rw[e1,e2] at hE
   rw[e2]
   obtain ⟨N,_,hN,hnew,hcel,hctx⟩:=wZ hE.1 hE.2
   have hfresh:∀y∈U,y.1≠N:=fun y hy e=>by
    have:=h.own i hi y hy (by rw[e];exact hN)
    rw[e,hnew] at this
    cases this
   refine ⟨U++[(N,key,col,v)],⟨⟨?_,by simpa using hl⟩,fun j=> ?_,fun j hj y hy e=> ?_,fun p hp=>(h.pk p hp).mono fun y hy=>List.mem_append_left _ hy⟩,by simp,fun y hy=>List.mem_append_left _ hy⟩
   ·rw[List.map_append,List.nodup_append]
    refine ⟨h.uni.nd,by simp,fun a ha b hb e=> ?_⟩
    obtain ⟨y,hy,e2⟩:=List.mem_map.1 ha
    have hb':b=N:=by simpa using hb
    exact hfresh y hy (e2.trans (e.trans hb'))
   ·by_cases ej:j=i
    ·subst ej
     rw[cv]
     refine ⟨d9 hE.2,fun y hy=> ?_,fun d hd=> ?_⟩
     ·rcases (hcel y).1 hy with hy|hy
      ·exact List.mem_append_left _ ((h.sub j).cel y hy.1)
      ·rw[hy];exact List.mem_append_right _ (List.mem_singleton.2 rfl)
     ·rcases (hctx d).1 hd with hd|hd
      ·obtain ⟨y,hy,e⟩:=(h.sub j).ctx d hd
       exact ⟨y,List.mem_append_left _ hy,e⟩
      ·exact ⟨(N,key,col,v),List.mem_append_right _ (List.mem_singleton.2 rfl),hd.symm⟩
    ·rw[eh x _ ej]
     exact (h.sub j).mono fun y hy=>List.mem_append_left _ hy
   ·rcases List.mem_append.1 hy with hy|hy
    ·have hh:=h.own j hj y hy e
     by_cases ej:j=i
     ·subst ej
      rw[cv]
      exact (hctx _).2 (oL hh)
     ·rw[eh x _ ej]
      exact hh
    ·rw[List.mem_singleton.1 hy] at e ⊢
     have ej:j=i:=by
      have e':N.1=(j:Int):=e
      rw[hN] at e'
      omega
     subst ej
     rw[cv]
     exact (hctx _).2 (oR rfl)
  ·by_cases k2:k=2
   ·have e1:edE (x i) i k key col v=eD (x i) key:=by unfold edE;rw[if_neg k1,if_pos k2]
    have e2:edT (x i) i k key col v=⟨cC (x i) key,[]⟩:=by unfold edT;rw[if_neg k1,if_pos k2]
    rw[e1,e2] at hE
    rw[e2]
    obtain ⟨_,_,_,hcel⟩:=mK hE.1
    have hctx:∀d,af (ac (x i) ⟨cC (x i) key,[]⟩).c d=true↔af (x i).c d=true:=fun d=>by
     rw[tp hE.2]
     exact ⟨fun hh=>hh.elim id fun hh=>xc hE.1 d hh,oL⟩
    refine ⟨U,⟨h.uni,fun j=> ?_,fun j hj y hy e=> ?_,h.pk⟩,by omega,fun y hy=>hy⟩
    ·by_cases ej:j=i
     ·subst ej
      rw[cv]
      exact ⟨d9 hE.2,fun y hy=>(h.sub j).cel y ((hcel y).1 hy).1,fun d hd=>(h.sub j).ctx d ((hctx d).1 hd)⟩
     ·rw[eh x _ ej]
      exact h.sub j
    ·have hh:=h.own j hj y hy e
     by_cases ej:j=i
     ·subst ej
      rw[cv]
      exact (hctx _).2 hh
     ·rw[eh x _ ej]
      exact hh
   ·have e1:edE (x i) i k key col v=1:=by unfold edE;rw[if_neg k1,if_neg k2]
    rw[e1] at hE
    cases hE.1
 ·exact same (by unfold doT;rw[if_neg h0])
end
def ir (x:Nat→Tab) (p:Nat×Nat):Nat→Tab:=upd x p.2 (ac (x p.2) (x p.1))
def fk:List (Nat×Nat)→(Nat→Tab)→Nat→Tab
 | [],x=>x
 | p::l,x=>fk l (ir x p)
section
variable {U:List Cel} {x:Nat→Tab} {ps:List Tab}
theorem Lane.tell (h:Lane U x ps) (p:Nat×Nat):ak (x p.2) (x p.1)=0∧Lane U (ir x p) ps:=h.take p.2 (h.sub p.1)
theorem Lane.tells:∀(l:List (Nat×Nat)) {x:Nat→Tab},Lane U x ps→Lane U (fk l x) ps
 | [],_,h=>h
 | p::l,_,h=>Lane.tells l (h.tell p).2
theorem mQ (h:Lane U x ps) (p:Nat×Nat) (j:Nat):Bel (x j) (ir x p j):=by
 unfold ir
 by_cases e:j=p.2
 ·subst e
  rw[cv]
  exact Bel.left h.uni (h.sub _) (h.sub _)
 ·rw[eh x _ e]
  exact Bel.refl (h.sub j)
theorem iL:∀(l:List (Nat×Nat)) {x:Nat→Tab},Lane U x ps→∀j,Bel (x j) (fk l x j)
 | [],_,h,j=>Bel.refl (h.sub j)
 | p::l,_,h,j=>Bel.trans h.uni (h.sub j) ((h.tell p).2.sub j) ((Lane.tells l (h.tell p).2).sub j) (mQ h p j) (iL l (h.tell p).2 j)
theorem ki:∀(l:List (Nat×Nat)) {x:Nat→Tab},Lane U x ps→∀i j,(i,j)∈l→Bel (x i) (fk l x j)
 | [],_,_,_,_,hm=>by cases hm
 | p::l,x,h,i,j,hm=>by
  have h2:=(h.tell p).2
  rcases List.mem_cons.1 hm with e|hm
  ·subst e
   have h1:Bel (x i) (ir x (i,j) j):=by
    show Bel (x i) (upd x j (ac (x j) (x i)) j)
    rw[cv]
    exact Bel.right h.uni (h.sub j) (h.sub i)
   exact Bel.trans h.uni (h.sub i) (h2.sub j) ((Lane.tells l h2).sub j) h1 (iL l h2 j)
  ·exact Bel.trans h.uni (h.sub i) (h2.sub i) ((Lane.tells l h2).sub j) (mQ h p i) (ki l h2 i j hm)
theorem jY {J:Tab} (hJ:Sub U J):∀(l:List (Nat×Nat)) {x:Nat→Tab},Lane U x ps→(∀p∈l,p.1<4∧p.2<4)→(∀j,j<4→Bel (x j) J)→∀j,j<4→Bel (fk l x j) J
 | [],_,_,_,hb,j,hj=>hb j hj
 | p::l,x,h,hp,hb,j,hj=>by
  refine jY hJ l (h.tell p).2 (fun q hq=>hp q (mC _ hq)) (fun i hi=> ?_) j hj
  unfold ir
  have hpp:=hp p (mS ..)
  by_cases e:i=p.2
  ·subst e
   rw[cv]
   exact Bel.both h.uni (h.sub _) (h.sub _) hJ (hb _ hpp.2) (hb _ hpp.1)
  ·rw[eh x _ e]
   exact hb i hi
def lV (x:Nat→Tab):Tab:=ac (ac (ac (x 0) (x 1)) (x 2)) (x 3)
theorem Lane.all (h:Lane U x ps):Sub U (lV x)∧∀j,j<4→Bel (x j) (lV x):=by
 have hU:=h.uni
 have s1:=(Sub.merge hU (h.sub 0) (h.sub 1)).2.1
 have s2:=(Sub.merge hU s1 (h.sub 2)).2.1
 have s3:=(Sub.merge hU s2 (h.sub 3)).2.1
 have b2:Bel (ac (ac (x 0) (x 1)) (x 2)) (lV x):=Bel.left hU s2 (h.sub 3)
 have b1:Bel (ac (x 0) (x 1)) (lV x):=Bel.trans hU s1 s2 s3 (Bel.left hU s1 (h.sub 2)) b2
 refine ⟨s3,fun j hj=> ?_⟩
 match j,hj with
 | 0,_=>exact Bel.trans hU (h.sub 0) s1 s3 (Bel.left hU (h.sub 0) (h.sub 1)) b1
 | 1,_=>exact Bel.trans hU (h.sub 1) s1 s3 (Bel.right hU (h.sub 0) (h.sub 1)) b1
 | 2,_=>exact Bel.trans hU (h.sub 2) s2 s3 (Bel.right hU s1 (h.sub 2)) b2
 | 3,_=>exact Bel.right hU s2 (h.sub 3)
theorem Lane.least (h:Lane U x ps) {m:Tab} (hm:Sub U m) (hb:∀j,j<4→Bel (x j) m):Bel (lV x) m:=by
 have hU:=h.uni
 have s1:=(Sub.merge hU (h.sub 0) (h.sub 1)).2.1
 have s2:=(Sub.merge hU s1 (h.sub 2)).2.1
 exact Bel.both hU s2 (h.sub 3) hm (Bel.both hU s1 (h.sub 2) hm (Bel.both hU (h.sub 0) (h.sub 1) hm (hb 0 (by omega)) (hb 1 (by omega))) (hb 2 (by omega))) (hb 3 (by omega))
theorem Lane.met (h:Lane U x ps) (l:List (Nat×Nat)) (hl:∀p∈l,p.1<4∧p.2<4) (ha:∀i j,i<4→j<4→i≠j→(i,j)∈l):∀j,j<4→fk l x j=lV x:=by
 intro j hj
 have hA:=h.all
 have hL:=Lane.tells l h
 refine Bel.anti h.uni (hL.sub j) hA.1 (jY hA.1 l h hl hA.2 j hj) (h.least (hL.sub j) fun i hi=> ?_)
 by_cases e:i=j
 ·subst e
  exact iL l h i
 ·exact ki l h i j (ha i j hi hj e)
end


def dr:Tab:=⟨⟨0,0,0,0,[]⟩,[]⟩
structure NetM where
 s:Nat→Tab
 t:Nat→Tab
 pk:List (Nat×Tab×Tab)
def cT:NetM:=⟨fun _=>dr,fun _=>dr,[]⟩
structure Hap where
 k:Int
 a:Int
 b:Int
 n:Int
 e1:Int
 e2:Int
 e3:Int
 e4:Int
 e5:Int
def gw (s t a b:Tab):Int:=if ak s a=0 then ak t b else ak s a
def ut (s t a b:Tab):Tab:=if gw s t a b=0 then ac s a else s
def vr (s t a b:Tab):Tab:=if gw s t a b=0 then ac t b else t
def gi (N:NetM) (i:Nat) (a b:Tab):NetM:=⟨upd N.s i (ut (N.s i) (N.t i) a b),upd N.t i (vr (N.s i) (N.t i) a b),N.pk⟩
def qS (N:NetM) (i:Nat) (h:Hap):NetM:=⟨upd N.s i (ndS (N.s i) i h.e1 h.e2 h.e3 h.e4 h.e5),upd N.t i (ndT (N.t i) i h.e1 h.e2 h.e3 h.e4 h.e5),N.pk⟩
def zd (N:NetM) (i j:Nat):NetM:=⟨N.s,N.t,N.pk++[(j,N.s i,N.t i)]⟩
def ny (s t:Tab) (c d:Ctx):Int:=if bA s c=0 then bA t d else bA s c
def qT (N:NetM) (i j:Nat):NetM:=if ny (N.s i) (N.t i) (N.s j).c (N.t j).c=0 then ⟨N.s,N.t,N.pk++[(j,bM (N.s i) (N.s j).c,bM (N.t i) (N.t j).c)]⟩ else N
abbrev isN (a:Int):Prop:=0≤a∧a<4
def bK (N:NetM) (h:Hap):NetM :=
 if h.k=1 then (if isN h.a then qS N h.a.toNat h else N)
 else if h.k=2 then (if isN h.a∧isN h.b∧N.pk.length<200 then zd N h.a.toNat h.b.toNat else N)
 else if h.k=3 then (if isN h.a∧isN h.b∧N.pk.length<200 then qT N h.a.toNat h.b.toNat else N)
 else if h.k=4 then (if 0≤h.n then (match N.pk[h.n.toNat]? with|some p=>gi N p.1 p.2.1 p.2.2|none=>N) else N)
 else N
structure NInv (c:Nat) (N:NetM):Prop where
 ex:∃U V,Lane U N.s (N.pk.map (·.2.1))∧Lane V N.t (N.pk.map (·.2.2))∧U.length≤c∧V.length≤c
 dst:∀p∈N.pk,p.1<4
theorem oY:aq dr=0:=by decide
theorem sg (d:Int×Int):af dr.c d=false:=by
 have hc:clk dr.c d.1=0:=by
  unfold clk dr
  simp
 unfold af
 rw[hc]
 cases h:inB d.1 0 3<;>simp[dr]
 omega
theorem Lane.zero:Lane [] (fun _=>dr) [] :=
 ⟨⟨by simp,by simp⟩,fun _=>⟨oY,fun y hy=>(by cases hy),fun d hd=>(by rw[sg] at hd;cases hd)⟩,fun i _ y hy=>(by cases hy),fun p hp=>(by cases hp)⟩
theorem NInv.new:NInv 0 cT:=⟨⟨[],[],Lane.zero,Lane.zero,nR _,nR _⟩,fun p hp=>by cases hp⟩
theorem NInv.mono {c d:Nat} {N:NetM} (h:NInv c N) (k:c≤d):NInv d N:=by
 obtain ⟨U,V,h1,h2,h3,h4⟩:=h.ex
 exact ⟨⟨U,V,h1,h2,nT h3 k,nT h4 k⟩,h.dst⟩
theorem fI (x:Nat→Tab) (i:Nat):upd x i (x i)=x:=by
 funext j
 by_cases e:j=i
 ·subst e;rw[cv]
 ·rw[eh x _ e]
theorem mZ {U V:List Cel} {N:NetM} {ps qs:List Tab} (h1:Lane U N.s ps) (h2:Lane V N.t qs) (i:Nat) {a b:Tab} (ha:Sub U a) (hb:Sub V b):gw (N.s i) (N.t i) a b=0∧(gi N i a b).s=upd N.s i (ac (N.s i) a)∧(gi N i a b).t=upd N.t i (ac (N.t i) b)∧Lane U (gi N i a b).s ps∧Lane V (gi N i a b).t qs:=by
 obtain ⟨e1,l1⟩:=h1.take i ha
 obtain ⟨e2,l2⟩:=h2.take i hb
 have h0:gw (N.s i) (N.t i) a b=0:=by unfold gw;rw[e1,if_pos rfl,e2]
 have hs:(gi N i a b).s=upd N.s i (ac (N.s i) a):=by
  show upd N.s i (ut _ _ a b)=_
  unfold ut
  rw[if_pos h0]
 have ht:(gi N i a b).t=upd N.t i (ac (N.t i) b):=by
  show upd N.t i (vr _ _ a b)=_
  unfold vr
  rw[if_pos h0]
 rw[hs,ht]
 exact ⟨h0,rfl,rfl,l1,l2⟩
theorem NInv.take {c:Nat} {N:NetM} (h:NInv c N) (i:Nat) {a b:Tab} (hab:∀U V,Lane U N.s (N.pk.map (·.2.1))→Lane V N.t (N.pk.map (·.2.2))→Sub U a∧Sub V b):NInv c (gi N i a b)∧gw (N.s i) (N.t i) a b=0:=by
 obtain ⟨U,V,h1,h2,h3,h4⟩:=h.ex
 obtain ⟨ha,hb⟩:=hab U V h1 h2
 obtain ⟨h0,_,_,k1,k2⟩:=mZ h1 h2 i ha hb
 exact ⟨⟨⟨U,V,k1,k2,h3,h4⟩,h.dst⟩,h0⟩
theorem xB {U V:List Cel} {N:NetM} (h1:Lane U N.s (N.pk.map (·.2.1))) (h2:Lane V N.t (N.pk.map (·.2.2))) {p:Nat×Tab×Tab} (hp:p∈N.pk):Sub U p.2.1∧Sub V p.2.2 :=
 ⟨h1.pk _ (List.mem_map.2 ⟨p,hp,rfl⟩),h2.pk _ (List.mem_map.2 ⟨p,hp,rfl⟩)⟩
theorem NInv.send {c:Nat} {N:NetM} (h:NInv c N) {j:Nat} (hj:j<4) {a b:Tab} (hab:∀U V,Lane U N.s (N.pk.map (·.2.1))→Lane V N.t (N.pk.map (·.2.2))→Sub U a∧Sub V b):NInv c ⟨N.s,N.t,N.pk++[(j,a,b)]⟩:=by
 obtain ⟨U,V,h1,h2,h3,h4⟩:=h.ex
 obtain ⟨ha,hb⟩:=hab U V h1 h2
 refine ⟨⟨U,V,?_,?_,h3,h4⟩,fun p hp=> ?_⟩
 ·show Lane U N.s ((N.pk++[(j,a,b)]).map (·.2.1))
  rw[List.map_append]
  exact h1.send ha
 ·show Lane V N.t ((N.pk++[(j,a,b)]).map (·.2.2))
  rw[List.map_append]
  exact h2.send hb
 ·rcases List.mem_append.1 hp with k|k
  ·exact h.dst p k
  ·rw[List.mem_singleton.1 k];exact hj
theorem li {a:Int} (h:isN a):a.toNat<4:=by have:=h.1;have:=h.2;omega
theorem NInv.edit {c:Nat} {N:NetM} (h:NInv c N) (hc:c+1≤400) {i:Nat} (hi:i<4) (x:Hap):NInv (c+1) (qS N i x):=by
 obtain ⟨U,V,h1,h2,h3,h4⟩:=h.ex
 by_cases e0:x.e2=0
 ·obtain ⟨U',k1,k2,k3⟩:=h1.edit hi (by omega) x.e1 x.e3 x.e4 x.e5
  refine ⟨⟨U',V,?_,?_,by omega,by omega⟩,h.dst⟩
  ·show Lane U' (upd N.s i (ndS (N.s i) i x.e1 x.e2 x.e3 x.e4 x.e5)) _
   unfold ndS
   rw[if_pos e0]
   exact k1
  ·show Lane V (upd N.t i (ndT (N.t i) i x.e1 x.e2 x.e3 x.e4 x.e5)) _
   unfold ndT
   rw[if_neg (by omega),fI]
   exact h2
 ·have hs:(qS N i x).s=N.s:=by
   show upd N.s i (ndS (N.s i) i x.e1 x.e2 x.e3 x.e4 x.e5)=_
   unfold ndS
   rw[if_neg e0,fI]
  by_cases e1:x.e2=1
  ·obtain ⟨V',k1,k2,k3⟩:=h2.edit hi (by omega) x.e1 x.e3 x.e4 x.e5
   refine ⟨⟨U,V',by rw[hs];exact h1,?_,by omega,by omega⟩,h.dst⟩
   show Lane V' (upd N.t i (ndT (N.t i) i x.e1 x.e2 x.e3 x.e4 x.e5)) _
   unfold ndT
   rw[if_pos e1]
   exact k1
  ·refine ⟨⟨U,V,by rw[hs];exact h1,?_,by omega,by omega⟩,h.dst⟩
   show Lane V (upd N.t i (ndT (N.t i) i x.e1 x.e2 x.e3 x.e4 x.e5)) _
   unfold ndT
   rw[if_neg e1,fI]
   exact h2
theorem NInv.hap {c:Nat} {N:NetM} (h:NInv c N) (hc:c+1≤400) (x:Hap):NInv (c+1) (bK N x):=by
 have h':=h.mono (Nat.le_succ c)
 unfold bK
 by_cases k1:x.k=1
 ·rw[if_pos k1]
  by_cases ha:isN x.a
  ·rw[if_pos ha]
   exact h.edit hc (li ha) x
  ·rw[if_neg ha]
   exact h'
 ·rw[if_neg k1]
  by_cases k2:x.k=2
  ·rw[if_pos k2]
   by_cases hh:isN x.a∧isN x.b∧N.pk.length<200
   ·rw[if_pos hh]
    exact h'.send (li hh.2.1) fun U V h1 h2=>⟨h1.sub _,h2.sub _⟩
   ·rw[if_neg hh]
    exact h'
  ·rw[if_neg k2]
   by_cases k3:x.k=3
   ·rw[if_pos k3]
    by_cases hh:isN x.a∧isN x.b∧N.pk.length<200
    ·rw[if_pos hh]
     unfold qT
     by_cases hs:ny (N.s x.a.toNat) (N.t x.a.toNat) (N.s x.b.toNat).c (N.t x.b.toNat).c=0
     ·rw[if_pos hs]
      refine h'.send (li hh.2.1) fun U V h1 h2=> ?_
      unfold ny at hs
      by_cases h0:bA (N.s x.a.toNat) (N.s x.b.toNat).c=0
      ·rw[if_pos h0] at hs
       exact ⟨(h1.sub _).since h0,(h2.sub _).since hs⟩
      ·rw[if_neg h0] at hs
       exact absurd hs h0
     ·rw[if_neg hs]
      exact h'
    ·rw[if_neg hh]
     exact h'
   ·rw[if_neg k3]
    by_cases k4:x.k=4
    ·rw[if_pos k4]
     by_cases hn:0≤x.n
     ·rw[if_pos hn]
      cases hp:N.pk[x.n.toNat]? with
      | none=>exact h'
      | some p=>exact (h'.take p.1 fun U V h1 h2=>xB h1 h2 (List.mem_of_getElem? hp)).1
     ·rw[if_neg hn]
      exact h'
    ·rw[if_neg k4]
     exact h'
theorem NInv.play:∀(l:List Hap) {c:Nat} {N:NetM},NInv c N→c+l.length≤400→NInv (c+l.length) (l.foldl bK N)
 | [],c,N,h,_=>h
 | x::l,c,N,h,hc=>by
  simp only[List.length_cons] at hc ⊢
  rw[show c+(l.length+1)=c+1+l.length by omega]
  exact NInv.play l (h.hap (by omega) x) (by omega)
def cG:List (Nat×Nat):=[(0,1),(0,2),(0,3),(1,0),(1,2),(1,3),(2,0),(2,1),(2,3),(3,0),(3,1),(3,2)]
def cE (N:NetM) (p:Nat×Nat):NetM:=gi N p.2 (N.s p.1) (N.t p.1)
def de (N:NetM):NetM:=(cG++cG).foldl cE N
theorem NInv.tell {c:Nat} {N:NetM} (h:NInv c N) (p:Nat×Nat):NInv c (cE N p)∧gw (N.s p.2) (N.t p.2) (N.s p.1) (N.t p.1)=0∧(cE N p).s=ir N.s p∧(cE N p).t=ir N.t p∧(cE N p).pk=N.pk:=by
 obtain ⟨U,V,h1,h2,h3,h4⟩:=h.ex
 obtain ⟨h0,e1,e2,k1,k2⟩:=mZ h1 h2 p.2 (h1.sub p.1) (h2.sub p.1)
 exact ⟨⟨⟨U,V,k1,k2,h3,h4⟩,h.dst⟩,h0,e1,e2,rfl⟩
theorem NInv.tells:∀(l:List (Nat×Nat)) {c:Nat} {N:NetM},NInv c N→NInv c (l.foldl cE N)∧(l.foldl cE N).s=fk l N.s∧(l.foldl cE N).t=fk l N.t∧(l.foldl cE N).pk=N.pk
 | [],_,_,h=>⟨h,rfl,rfl,rfl⟩
 | p::l,c,N,h=>by
  obtain ⟨k1,_,k3,k4,k5⟩:=h.tell p
  obtain ⟨m1,m2,m3,m4⟩:=NInv.tells l k1
  refine ⟨m1,?_,?_,m4.trans k5⟩
  ·show (l.foldl cE (cE N p)).s=fk l (ir N.s p)
   rw[m2,k3]
  ·show (l.foldl cE (cE N p)).t=fk l (ir N.t p)
   rw[m3,k4]
theorem pF:∀p∈cG++cG,p.1<4∧p.2<4:=by decide
theorem nh (i j:Nat) (hi:i<4) (hj:j<4) (h:i≠j):(i,j)∈cG++cG:=by
 have:∀i:Fin 4,∀j:Fin 4,i≠j→(i.1,j.1)∈cG++cG:=by decide
 exact this ⟨i,hi⟩ ⟨j,hj⟩ (fun e=>h (by injection e))
theorem NInv.met {c:Nat} {N:NetM} (h:NInv c N):NInv c (de N)∧(∀j,j<4→(de N).s j=lV N.s)∧(∀j,j<4→(de N).t j=lV N.t)∧(de N).pk=N.pk:=by
 obtain ⟨k1,k2,k3,k4⟩:=NInv.tells (cG++cG) h
 obtain ⟨U,V,h1,h2,_⟩:=h.ex
 refine ⟨k1,fun j hj=> ?_,fun j hj=> ?_,k4⟩
 ·show ((cG++cG).foldl cE N).s j=_
  rw[k2]
  exact h1.met _ pF nh j hj
 ·show ((cG++cG).foldl cE N).t j=_
  rw[k3]
  exact h2.met _ pF nh j hj

structure Pkm where
 tg:Nat
 a:Tab
 A:Option Addr
 ca:Nat
 C:Option Addr
 cc:Nat
 b:Tab
 B:Option Addr
 cb:Nat
 D:Option Addr
 cd:Nat
def Pkm.m (p:Pkm):Nat×Tab×Tab:=(p.tg,p.a,p.b)
def eY (p:Pkm):List Value:=[.int .i64 (p.tg:Int),.int .i64 p.a.c.c0,.int .i64 p.a.c.c1,.int .i64 p.a.c.c2,.int .i64 p.a.c.c3,.slice p.A p.a.c.l.length p.ca,.slice p.C p.a.e.length p.cc,.int .i64 p.b.c.c0,.int .i64 p.b.c.c1,.int .i64 p.b.c.c2,.int .i64 p.b.c.c3,.slice p.B p.b.c.l.length p.cb,.slice p.D p.b.e.length p.cd]
theorem dP (p:Pkm):(eY p).length=13:=rfl
theorem tX (p:Pkm):∀u∈eY p,u.oneCell'=true:=by
 intro u hu
 simp only[eY,List.mem_cons,List.not_mem_nil,or_false] at hu
 rcases hu with h|h|h|h|h|h|h|h|h|h|h|h|h<;>rw[h]<;>rfl
def PkP (P:Nat→Prop) (w:World) (p:Pkm):Prop:=p.tg<4∧TbP P w p.a p.A p.ca p.C p.cc∧TbP P w p.b p.B p.cb p.D p.cd
structure Pks (w:World) (B:Nat) (P:Nat→Prop) (pk:List (Nat×Tab×Tab)) (L:List Pkm) (A:Option Addr) (c:Nat):Prop where
 cel:w.cell? ⟨B,152,none⟩=some (.slice A L.length c)
 row:ax eY 13 w A L
 arr:PIn P A L
 nil:A=none→c=0
 cap:L.length≤c
 eq:L.map Pkm.m=pk
 len:L.length≤200
 each:∀p∈L,PkP P w p
structure NetP (w:World) (B:Nat) (P:Nat→Prop) (M:NetM) (Q:Nat→List (List Stp)):Prop where
 blk:Blk w B 80 153
 nd:∀i,i<4→Nd w B (i*38) P i (M.s i) (M.t i) (Q i)
 pk:∃L A c,Pks w B P M.pk L A c
section
variable {w w':World} {B:Nat} {P:Nat→Prop} {M:NetM} {Q:Nat→List (List Stp)}
theorem NetP.out (h:NetP w B P M Q):¬P B:=(h.nd 0 (by omega)).out
theorem NetP.up (h:NetP w B P M Q):∀b,P b→b<w.heap.size:=(h.nd 0 (by omega)).up
theorem NetP.lt (h:NetP w B P M Q):B<w.heap.size:=h.blk.lt
theorem Pks.keep {pk:List (Nat×Tab×Tab)} {L:List Pkm} {A:Option Addr} {c:Nat} (h:Pks w B P pk L A c) (hc:w'.cell? ⟨B,152,none⟩=w.cell? ⟨B,152,none⟩) (hA:Agr P w w'):Pks w' B P pk L A c :=
 ⟨hc.trans h.cel,h.row.agr h.arr hA,h.arr,h.nil,h.cap,h.eq,h.len,fun p hp=>⟨(h.each p hp).1,(h.each p hp).2.1.agr hA,(h.each p hp).2.2.agr hA⟩⟩
theorem Pks.mono {pk:List (Nat×Tab×Tab)} {L:List Pkm} {A:Option Addr} {c:Nat} (h:Pks w B P pk L A c) {P':Nat→Prop} (k:∀b,P b→P' b):Pks w B P' pk L A c :=
 ⟨h.cel,h.row,h.arr.mono k,h.nil,h.cap,h.eq,h.len,fun p hp=>⟨(h.each p hp).1,(h.each p hp).2.1.mono k,(h.each p hp).2.2.mono k⟩⟩
theorem NetP.mono (h:NetP w B P M Q) {P':Nat→Prop} (k:∀b,P b→P' b) (h1:¬P' B) (h2:∀b,P' b→b<w.heap.size):NetP w B P' M Q:=by
 obtain ⟨L,A,c,hp⟩:=h.pk
 exact ⟨h.blk,fun i hi=>(h.nd i hi).mono k h1 h2,L,A,c,hp.mono k⟩
theorem NetP.keep (h:NetP w B P M Q) (hB:w'.heap[B]? = w.heap[B]?) (hA:Agr P w w'):NetP w' B P M Q:=by
 obtain ⟨L,A,c,hp⟩:=h.pk
 obtain ⟨cur,hc,hs⟩:=h.blk
 exact ⟨⟨cur,hB.trans hc,hs⟩,fun i hi=>(h.nd i hi).keep hB hA,L,A,c,hp.keep (World.cell?_of_block (a:=⟨B,152,none⟩) hB) hA⟩
theorem NetP.below (h:NetP w B P M Q) (k:Below w.heap.size w w'):NetP w' B P M Q:=h.keep (k.block B h.lt) (Agr.of k)
theorem Nd.wr {N O lo hi:Nat} {id:Int} {s t:Tab} {qs:List (List Stp)} (h:Nd w N O P id s t qs) (hW:Wr N lo hi w w') (hd:O+38≤lo∨hi≤O):Nd w' N O P id s t qs:=by
 have hA:Agr P w w':=hW.agr h.out
 have hb:=hW.blo h.blk
 have hl:=h.le
 have hc:∀j,O≤j→j<O+38→w'.cell? ⟨N,j,none⟩=w.cell? ⟨N,j,none⟩:=fun j h1 h2=>hW.celo h.blk (by omega)
 exact ⟨hb,h.out,fun b k=>nL (h.up b k) hA.size,(hc O (by omega) (by omega)).trans h.cid,h.ts.keep hA fun j _ _=>hc j (by omega) (by omega),h.tt.keep hA fun j _ _=>hc j (by omega) (by omega),(hc (O+37) (by omega) (by omega)).trans h.cnt,h.le,fun j hj=>(h.vs j hj).keep hA hb.lt hb.fz fun i _ _=>hc i (by omega) (by omega)⟩
def mf (Q:Nat→List (List Stp)) (i:Nat) (q:List (List Stp)):Nat→List (List Stp):=fun j=>if j=i then q else Q j
theorem NetP.wrote (h:NetP w B P M Q) {i lo hi:Nat} (hi4:i<4) {s t:Tab} {qs:List (List Stp)} (f1:Nd w' B (i*38) (ae P w.heap.size w'.heap.size) i s t qs) (f2:Wr B (i*38+lo) (i*38+hi) w w') (hh:hi≤38) :
  NetP w' B (ae P w.heap.size w'.heap.size) ⟨upd M.s i s,upd M.t i t,M.pk⟩ (mf Q i qs)∧Wr B 0 153 w w':=by
 obtain ⟨L,A,c,hp⟩:=h.pk
 refine ⟨⟨f2.block h.blk,fun j hj=> ?_,L,A,c,(hp.keep (f2.cell h.blk (oR (by omega))) (f2.agr h.out)).mono ae.old⟩,f2.mono (by omega) (by omega)⟩
 by_cases e:j=i
 ·subst e
  show Nd w' B _ _ j (upd M.s j s j) (upd M.t j t j) (mf Q j qs j)
  rw[cv,cv,show mf Q j qs j=qs from if_pos rfl]
  exact f1
 ·show Nd w' B _ _ j (upd M.s i s j) (upd M.t i t j) (mf Q i qs j)
  rw[eh _ _ e,eh _ _ e,show mf Q i qs j=Q j from if_neg e]
  have hn:=(h.nd j hj).wr f2 (by omega)
  exact hn.mono ae.old f1.out f1.up
theorem jA (Q:Nat→List (List Stp)) (i:Nat):mf Q i (Q i)=Q:=by
 funext j
 by_cases e:j=i
 ·subst e;exact if_pos rfl
 ·exact if_neg e
theorem NetP.sent (h:NetP w B P M Q) {P':Nat→Prop} (hPP:∀b,P b→P' b) (h1:¬P' B) (h2:∀b,P' b→b<w'.heap.size) (f2:Wr B 152 153 w w') {L:List Pkm} {p:Pkm} {A:Option Addr} {c:Nat} (hl:L.map Pkm.m=M.pk) (hL:L.length<200) (hc:w'.cell? ⟨B,152,none⟩=some (.slice A (L++[p]).length c)) (hr:ax eY 13 w' A (L++[p])) (ha:PIn P' A (L++[p])) (hn:A=none→c=0) (hcp:(L++[p]).length≤c) (he:∀q∈L++[p],PkP P' w' q):NetP w' B P' ⟨M.s,M.t,M.pk++[p.m]⟩ Q :=
 ⟨f2.block h.blk,fun i hi=>((h.nd i hi).wr f2 (by omega)).mono hPP h1 h2,L++[p],A,c,hc,hr,ha,hn,hcp,by rw[List.map_append,hl];rfl,by simp;omega,he⟩
end
set_option linter.unusedSimpArgs false

theorem xe {w:World} {N O:Nat} {P:Nat→Prop} {id:Int} {s t:Tab} {qs:List (List Stp)} (h:Nd w N O P id s t qs) (k x3 x4 x5:Int) :
  Calls Tryz.prog 51 #[.pointer (some ⟨N,O,none⟩),.agg #[.int .i64 k,.int .i64 0,.int .i64 x3,.int .i64 x4,.int .i64 x5]] w fun e w'=>e= .returned (.int .i64 (doE s id k x3 x4 x5))∧Nd w' N O (ae P w.heap.size w'.heap.size) id (doT s id k x3 x4 x5) t qs∧Wr N (O+1) (O+37) w w':=by
 have mixed:Tryz.prog.follows .mixedOrders=true:=by kernel_rfl
 obtain ⟨A,ca,C,cc,hcs,hts⟩:=h.ts
 obtain ⟨B,cb,D,cd,hct,htt⟩:=h.tt
 obtain ⟨w1,hw1⟩:∃W,w.alloc (.cells #[.int .i64 k,.int .i64 0,.int .i64 x3,.int .i64 x4,.int .i64 x5] 28)=W:=⟨_,rfl⟩
 have hg1:Gr w w1:=by rw[←hw1];exact (gR w).alloc _
 have hs1:w1.heap.size=w.heap.size+1:=by rw[←hw1];simp
 have hBx:Hid (Cls w1 w.heap.size [.int .i64 k,.int .i64 0,.int .i64 x3,.int .i64 x4,.int .i64 x5]):=by show Cls _ _ _;rw[←hw1];exact Cls.new w _ _
 have hHl:Hid (N<w1.heap.size):=nL h.blk.lt hg1.size
 have hlt0:=h.blk.lt
 have hHn:Hid (w1.cell? ⟨N,O,none⟩=some (.int .i64 id)∧TbC w1 N (O+1) s A ca C cc∧TbC w1 N (O+7) t B cb D cd):=⟨(hg1.below.cell (p:=⟨N,O,none⟩) hlt0).trans h.cid,hcs.keep fun j _ _=>hg1.below.cell (p:=⟨N,j,none⟩) hlt0,hct.keep fun j _ _=>hg1.below.cell (p:=⟨N,j,none⟩) hlt0⟩
 have hEd:Hid (∀W,Below w1.heap.size w1 W→Calls Tryz.prog 74 #[.agg (T6 s A ca C cc).toArray,.int .i64 id,.agg #[.int .i64 k,.int .i64 0,.int .i64 x3,.int .i64 x4,.int .i64 x5]] W fun e w'=>∃(u:Tab) (C:Option Addr) (cp:Nat) (F:Option Addr) (cf:Nat),e= .returned (.tuple #[.agg (T6 u C cp F cf).toArray,.int .i64 (edE s id k x3 x4 x5)])∧u=edT s id k x3 x4 x5∧TbW W.heap.size w' u C cp F cf∧Below W.heap.size W w'):=fun W hW=>kJ s A ca C cc id k 0 x3 x4 x5 W hts.len.1 hts.len.2 ((hts.row.gr hg1).below hW) ((hts.cel.gr hg1).below hW)
 have hH:Hid (Nd w N O P id s t qs∧TbP P w s A ca C cc∧TbP P w t B cb D cd∧TbC w N (O+1) s A ca C cc∧TbC w N (O+7) t B cb D cd∧Gr w w1∧w1.heap.size=w.heap.size+1):=⟨h,hts,htt,hcs,hct,hg1,hs1⟩
 clear h hts htt hcs hct hg1 hs1 hlt0
 have b1:=hBx.out.cell (j:=1) rfl
 obtain ⟨EE,hEE⟩:∃E,edE s id k x3 x4 x5=E:=⟨_,rfl⟩
 rw[hEE] at hEd
 have hEEH:Hid (edE s id k x3 x4 x5=EE):=hEE
 clear hEE
 go_enter Tryz.func51,Tryz.ntmps51
 go_upto_region 3 with fail
 clear hw1 b1
 go_cut [5,6] from 16 (fun v5 v6 wx=>∃Bm:Nat,v5= .pointer (some ⟨Bm,0,none⟩)∧v6= .int .i64 EE∧DoR w1 wx w1.heap.size Bm s id k x3 x4 x5)
 case first =>
  have hD0:Hid (Below w1.heap.size w1 w1.drew):=(gR w1).drew.below
  have hD1:Hid (Below w1.heap.size w1 (w1.alloc (.cells #[.int .i64 0,.int .i64 0,.int .i64 0,.int .i64 0,.slice none 0 0,.slice none 0 0] 41)).drew):=((gR w1).alloc _).drew.below
  have hle0:Hid (w1.heap.size≤w1.drew.heap.size):=nR _
  have hle1:Hid (w1.heap.size+1≤(w1.alloc (.cells #[.int .i64 0,.int .i64 0,.int .i64 0,.int .i64 0,.slice none 0 0,.slice none 0 0] 41)).drew.heap.size):=by show _≤(w1.alloc _).heap.size;simp
  have hKeep:Hid (∀W,Below w1.heap.size w1 W→(fun w'=>w'.cell? ⟨w.heap.size,0,none⟩=some (.int .i64 k)∧w'.cell? ⟨w.heap.size,1,none⟩=some (.int .i64 0)∧w'.cell? ⟨w.heap.size,2,none⟩=some (.int .i64 x3)∧w'.cell? ⟨w.heap.size,3,none⟩=some (.int .i64 x4)∧w'.cell? ⟨w.heap.size,4,none⟩=some (.int .i64 x5)∧w'.cell? ⟨N,O,none⟩=some (.int .i64 id)∧w'.cell? ⟨N,O+1,none⟩=some (.int .i64 s.c.c0)∧w'.cell? ⟨N,O+2,none⟩=some (.int .i64 s.c.c1)∧w'.cell? ⟨N,O+3,none⟩=some (.int .i64 s.c.c2)∧w'.cell? ⟨N,O+4,none⟩=some (.int .i64 s.c.c3)∧w'.cell? ⟨N,O+5,none⟩=some (.slice A s.c.l.length ca)∧w'.cell? ⟨N,O+6,none⟩=some (.slice C s.e.length cc)) W):=fun W hW=>⟨(hBx.out.below hW).cell (j:=0) rfl,(hBx.out.below hW).cell (j:=1) rfl,(hBx.out.below hW).cell (j:=2) rfl,(hBx.out.below hW).cell (j:=3) rfl,(hBx.out.below hW).cell (j:=4) rfl,(hW.cell (p:=⟨N,O,none⟩) hHl.out).trans hHn.out.1,(hW.cell (p:=⟨N,O+1,none⟩) hHl.out).trans hHn.out.2.1.k0,(hW.cell (p:=⟨N,O+2,none⟩) hHl.out).trans hHn.out.2.1.k1,(hW.cell (p:=⟨N,O+3,none⟩) hHl.out).trans hHn.out.2.1.k2,(hW.cell (p:=⟨N,O+4,none⟩) hHl.out).trans hHn.out.2.1.k3,(hW.cell (p:=⟨N,O+5,none⟩) hHl.out).trans hHn.out.2.1.k4,(hW.cell (p:=⟨N,O+6,none⟩) hHl.out).trans hHn.out.2.1.k5⟩
  focus
   refine wp_region_noPanic ?_
   refine wp_region_held_drew (S:=(fun w'=>w'.cell? ⟨w.heap.size,0,none⟩=some (.int .i64 k)∧w'.cell? ⟨w.heap.size,1,none⟩=some (.int .i64 0)∧w'.cell? ⟨w.heap.size,2,none⟩=some (.int .i64 x3)∧w'.cell? ⟨w.heap.size,3,none⟩=some (.int .i64 x4)∧w'.cell? ⟨w.heap.size,4,none⟩=some (.int .i64 x5)∧w'.cell? ⟨N,O,none⟩=some (.int .i64 id)∧w'.cell? ⟨N,O+1,none⟩=some (.int .i64 s.c.c0)∧w'.cell? ⟨N,O+2,none⟩=some (.int .i64 s.c.c1)∧w'.cell? ⟨N,O+3,none⟩=some (.int .i64 s.c.c2)∧w'.cell? ⟨N,O+4,none⟩=some (.int .i64 s.c.c3)∧w'.cell? ⟨N,O+5,none⟩=some (.slice A s.c.l.length ca)∧w'.cell? ⟨N,O+6,none⟩=some (.slice C s.e.length cc))) (by kernel_rfl) (hKeep.out _ hD0.out) (fun hHeld=> ?_)
   show wpAnyH _ _ _ _ _ 19 _ _ _
   repeat' first
    | with_reducible exact AllReadyH.nil
    | (
     (with_reducible refine isW ?_);refine wpAnyH_done (by decide +kernel) ?_ _
     refine NoPanic.normal ?_
     go_wp2_with fail
     go_meet
     case rel=>exact ⟨_,rfl,rfl,(by first|with_reducible exact qZ hF.out.1 (hT2.out.mono hle0.out) hF.out.2|with_reducible exact oF hF.out.1 hB2.out (hT2.out.mono hle1.out) hF.out.2)⟩)
    | (
     (with_reducible refine isW ?_);first
     | refine tkk 0 [1,2,3,4,5,6,7,8,9,10,11] (by assumption) (v:= ?_) (by simp only[zA,z0',zS];rfl) (by decide +kernel) ?_ ?_
     | refine tkk 13 [14,15] (by assumption) (v:= ?_) (by simp only[zA,z0',zS];rfl) (by decide +kernel) ?_ ?_
     | refine tkk 18 [] (by assumption) (v:= ?_) (by simp only[zA,z0',zS];rfl) (by decide +kernel) ?_ ?_
     rotate_left
     ·(refine oL ⟨by rfl,?_⟩;intro w hSw;(try dsimp only at hSw);go_simp<;>with_reducible rfl)
     try simp only[Act.put,yA,aC,yS]
     repeat (refine tk (v:= ?_) (by simp only[zA,z0',zS];rfl) (by kernel_rfl) ?_ ?_;rotate_left;· (refine oL ⟨by rfl,?_⟩;intro w hSw;(try dsimp only at hSw);go_simp<;>with_reducible rfl);try simp only[Act.put,yA,aC,yS])
     refine tk0 ?_)
    | ((with_reducible refine isW ?_);first
      | refine wpAnyH_ready (rs:=[12,16]) (by decide +kernel) (by simp) ?_
      | refine wpAnyH_ready (rs:=[16]) (by decide +kernel) (by simp) ?_
      | refine wpAnyH_ready (rs:=[17]) (by decide +kernel) (by simp) ?_
      | refine wpAnyH_ready (rs:=[12]) (by decide +kernel) (by simp) ?_)
    | ((with_reducible refine isR ?_);refine rdc (by simp only[zA,z0',zS];rfl) ?_ fun K hK=> ?_)
    | (
     go_simp
     first
     | ((go_at_call 74;(with_reducible refine cM (hEd.out _ (by first|with_reducible exact hD0.out|with_reducible exact hD1.out)) ?_);rintro e w2 ⟨u,E,ce,F,cf,rfl,f1,f2,f3⟩;have hF:Hid (u=edT s id k x3 x4 x5∧Below w1.heap.size w1 w2):=⟨f1,(by first|exact hD0.out.trans (f3.mono hD0.out.size)|exact hD1.out.trans (f3.mono hD1.out.size))⟩;have hT2:Hid _:=f2;(first|(have hB2:Hid (Cls w2 w1.heap.size Z6):=((Cls.new w1 #[.int .i64 0,.int .i64 0,.int .i64 0,.int .i64 0,.slice none 0 0,.slice none 0 0] 41).gr (gR _).drew).below f3)|skip);clear f1 f2 f3;(first|(have p0:=hB2.out.cell (j:=0) rfl;have z0:=hB2.out.fz 0;have p1:=hB2.out.cell (j:=1) rfl;have z1:=hB2.out.fz 1;have p2:=hB2.out.cell (j:=2) rfl;have z2:=hB2.out.fz 2;have p3:=hB2.out.cell (j:=3) rfl;have z3:=hB2.out.fz 3;have p4:=hB2.out.cell (j:=4) rfl;have z4:=hB2.out.fz 4;have p5:=hB2.out.cell (j:=5) rfl;have z5:=hB2.out.fz 5)|skip));first|(go_wp2_with fail)|skip)
     | skip
     refine hK.out _ _ ?_ (fun hHeld=> ?_)
     ·(try dsimp only);exact hKeep.out _ (by first|with_reducible exact hD0.out|with_reducible exact hD1.out|with_reducible exact hF.out.2|with_reducible exact hF.out.2.alloc hF.out.2.size _|exact aj hF.out.2 (nR _) _ _ _ _ _ _)
     clear hK K
     try simp only[Act.put,yA,aC,yS])
 case rest =>
  rename World=>wz
  obtain ⟨Bm,rfl,rfl,hDR⟩:=hcut
  obtain ⟨u,UA,uca,UC,ucc,hu,hCu,hTu,hbc,hge⟩:=hDR
  have hg1:=hH.out.2.2.2.2.2.1
  have hbw:Below w.heap.size w wz:=hg1.below.trans (hbc.mono hg1.size)
  have hR:Hid (u=edT s id k x3 x4 x5∧Cls wz Bm (T6 u UA uca UC ucc)∧TbW w1.heap.size wz u UA uca UC ucc∧Below w.heap.size w wz∧w1.heap.size≤Bm∧Cls wz w.heap.size [.int .i64 k,.int .i64 0,.int .i64 x3,.int .i64 x4,.int .i64 x5]∧Nd wz N O P id s t qs):=⟨hu,hCu,hTu,hbw,hge,hBx.out.below hbc,hH.out.1.below hbw⟩
  clear hu hCu hTu hbc hge hg1 hbw hEd hHn hBx
  cases hn:(EE != 0)
  rotate_left
  focus
   have hfin:Hid (doE s id k x3 x4 x5=EE∧doT s id k x3 x4 x5=s):=by
    have h0:¬EE=0:=by simpa using hn
    have h1:doE s id k x3 x4 x5=EE:=by unfold doE;rw[hEEH.out,if_neg h0]
    exact ⟨h1,by unfold doT;rw[h1,if_neg h0]⟩
   go_wp2
   go_ret
   refine ⟨by rw[hfin.out.1];rfl,?_,Wr.of hR.out.2.2.2.1 hH.out.1.blk.lt⟩
   rw[hfin.out.2]
   exact hR.out.2.2.2.2.2.2.mono (fun b hb=>ae.old b hb) (cP hH.out.1.out hH.out.1.blk.lt) (eJ fun b hb=>hR.out.2.2.2.2.2.2.up b hb)
  have h0:EE=0:=by simpa using hn
  subst h0
  clear hn
  have hlt0:=hH.out.1.blk.lt
  have n1:=(hR.out.2.2.2.1.cell (p:=⟨N,O+1,none⟩) hlt0).trans hH.out.2.2.2.1.k0
  have n2:=(hR.out.2.2.2.1.cell (p:=⟨N,O+2,none⟩) hlt0).trans hH.out.2.2.2.1.k1
  have n3:=(hR.out.2.2.2.1.cell (p:=⟨N,O+3,none⟩) hlt0).trans hH.out.2.2.2.1.k2
  have n4:=(hR.out.2.2.2.1.cell (p:=⟨N,O+4,none⟩) hlt0).trans hH.out.2.2.2.1.k3
  have n5:=(hR.out.2.2.2.1.cell (p:=⟨N,O+5,none⟩) hlt0).trans hH.out.2.2.2.1.k4
  have n6:=(hR.out.2.2.2.1.cell (p:=⟨N,O+6,none⟩) hlt0).trans hH.out.2.2.2.1.k5
  have n7:=(hR.out.2.2.2.1.cell (p:=⟨N,O+7,none⟩) hlt0).trans hH.out.2.2.2.2.1.k0
  have n8:=(hR.out.2.2.2.1.cell (p:=⟨N,O+8,none⟩) hlt0).trans hH.out.2.2.2.2.1.k1
  have n9:=(hR.out.2.2.2.1.cell (p:=⟨N,O+9,none⟩) hlt0).trans hH.out.2.2.2.2.1.k2
  have n10:=(hR.out.2.2.2.1.cell (p:=⟨N,O+10,none⟩) hlt0).trans hH.out.2.2.2.2.1.k3
  have n11:=(hR.out.2.2.2.1.cell (p:=⟨N,O+11,none⟩) hlt0).trans hH.out.2.2.2.2.1.k4
  have n12:=(hR.out.2.2.2.1.cell (p:=⟨N,O+12,none⟩) hlt0).trans hH.out.2.2.2.2.1.k5
  go_upto_region 7 with fail
  obtain ⟨w5,hw5⟩:∃W,wz.alloc (.cells #[.int .i64 s.c.c0,.int .i64 s.c.c1,.int .i64 s.c.c2,.int .i64 s.c.c3,.slice A s.c.l.length ca,.slice C s.e.length cc,.int .i64 t.c.c0,.int .i64 t.c.c1,.int .i64 t.c.c2,.int .i64 t.c.c3,.slice B t.c.l.length cb,.slice D t.e.length cd] 48)=W:=⟨_,rfl⟩
  rw[hw5]
  have hg5:Gr wz w5:=by rw[←hw5];exact (gR _).alloc _
  have h5:Hid (Cls w5 wz.heap.size (T2 s A ca C cc t B cb D cd)∧Cls w5 Bm (T6 u UA uca UC ucc)∧TbW w1.heap.size w5 u UA uca UC ucc∧Below w.heap.size w w5∧Cls w5 w.heap.size [.int .i64 k,.int .i64 0,.int .i64 x3,.int .i64 x4,.int .i64 x5]∧Nd w5 N O P id s t qs∧TbP P w5 s A ca C cc∧TbP P w5 t B cb D cd∧Gr wz w5):=by
   have hb5:=hR.out.2.2.2.1.trans (hg5.below.mono hR.out.2.2.2.1.size)
   exact ⟨by rw[←hw5];exact Cls.new wz _ _,hR.out.2.1.gr hg5,hR.out.2.2.1.below hg5.below,hb5,hR.out.2.2.2.2.2.1.gr hg5,hR.out.2.2.2.2.2.2.below hg5.below,hH.out.2.1.below hb5,hH.out.2.2.1.below hb5,hg5⟩
  clear hw5 hg5 n1 n2 n3 n4 n5 n6 n7 n8 n9 n10 n11 n12 hlt0
  have b1:=h5.out.2.2.2.2.1.cell (j:=1) rfl
  obtain ⟨a0,a1,a2,a3,a4,a5⟩:=ii h5.out.1
  obtain ⟨c0,c1,c2,c3,c4,c5⟩:=ii h5.out.2.1
  obtain ⟨ME,hME⟩:∃E,ak s u=E:=⟨_,rfl⟩
  obtain ⟨MT,hMT⟩:∃E,ac s u=E:=⟨_,rfl⟩
  have hMH:Hid (ak s u=ME∧ac s u=MT):=⟨hME,hMT⟩
  have hM:Hid (∀W,Gr w5 W→Calls Tryz.prog 75 #[.agg (T6 s A ca C cc).toArray,.agg (T6 u UA uca UC ucc).toArray] W fun e w'=>∃E ce F cf,e= .returned (.tuple #[.agg (T6 MT E ce F cf).toArray,.int .i64 ME])∧TbW W.heap.size w' MT E ce F cf∧Below W.heap.size W w'):=fun W hg=>by
   have hl:u.c.l.length≤maxLen∧u.e.length≤maxLen:=by rw[hR.out.1];exact rr _ _ _ _ _ _
   have hr5:TbP P w5 s A ca C cc:=h5.out.2.2.2.2.2.2.1
   have hm:=gX s u A UA C UC ca uca cc ucc W hr5.len.1 hl.1 hr5.len.2 hl.2 hr5.nr h5.out.2.2.1.nr (hr5.row.gr hg) (h5.out.2.2.1.row.gr hg) (hr5.cel.gr hg) (h5.out.2.2.1.cel.gr hg)
   rw[hME,hMT] at hm
   refine hm.mono ?_
   rintro e w' ⟨E,ce,F,cf,rfl,f1,f2,f3,f4,f5,f6,f7⟩
   exact ⟨E,ce,F,cf,rfl,⟨f1,f2,f3,f4,f5,f6⟩,f7⟩
  clear hME hMT
  go_cut [6] from 16 (fun v6 wx=>v6= .int .i64 ME∧∃(ME1:Option Addr) (mce:Nat) (MF1:Option Addr) (mcf:Nat),Hid (Cls wx wz.heap.size (T2 MT ME1 mce MF1 mcf t B cb D cd)∧TbW w5.heap.size wx MT ME1 mce MF1 mcf∧Below wz.heap.size wz wx))
  case first =>
   go_region_with (go_at_call 75;refine cM (hM.out _ (gR w5).drew) ?_;rintro e w6 ⟨ME1,mce,MF1,mcf,rfl,f1,f2⟩;have hF:Hid (TbW w5.heap.size w6 MT ME1 mce MF1 mcf∧Below w5.heap.size w5 w6):=⟨f1,(gR w5).drew.below.trans f2⟩;clear f1 f2;have e1:=(h5.out.2.2.2.2.1.below hF.out.2).cell (j:=1) rfl;have p0:=(h5.out.1.below hF.out.2).cell (j:=0) rfl;have z0:=(h5.out.1.below hF.out.2).fz 0;have p1:=(h5.out.1.below hF.out.2).cell (j:=1) rfl;have z1:=(h5.out.1.below hF.out.2).fz 1;have p2:=(h5.out.1.below hF.out.2).cell (j:=2) rfl;have z2:=(h5.out.1.below hF.out.2).fz 2;have p3:=(h5.out.1.below hF.out.2).cell (j:=3) rfl;have z3:=(h5.out.1.below hF.out.2).fz 3;have p4:=(h5.out.1.below hF.out.2).cell (j:=4) rfl;have z4:=(h5.out.1.below hF.out.2).fz 4;have p5:=(h5.out.1.below hF.out.2).cell (j:=5) rfl;have z5:=(h5.out.1.below hF.out.2).fz 5)
   all_goals
    have hfin:Hid (Cls ((((((w6.setCell ⟨wz.heap.size,0,none⟩ (.int .i64 MT.c.c0)).setCell ⟨wz.heap.size,1,none⟩ (.int .i64 MT.c.c1)).setCell ⟨wz.heap.size,2,none⟩ (.int .i64 MT.c.c2)).setCell ⟨wz.heap.size,3,none⟩ (.int .i64 MT.c.c3)).setCell ⟨wz.heap.size,4,none⟩ (.slice ME1 MT.c.l.length mce)).setCell ⟨wz.heap.size,5,none⟩ (.slice MF1 MT.e.length mcf)) wz.heap.size [.int .i64 MT.c.c0,.int .i64 MT.c.c1,.int .i64 MT.c.c2,.int .i64 MT.c.c3,.slice ME1 MT.c.l.length mce,.slice MF1 MT.e.length mcf,.int .i64 t.c.c0,.int .i64 t.c.c1,.int .i64 t.c.c2,.int .i64 t.c.c3,.slice B t.c.l.length cb,.slice D t.e.length cd]∧TbW w5.heap.size ((((((w6.setCell ⟨wz.heap.size,0,none⟩ (.int .i64 MT.c.c0)).setCell ⟨wz.heap.size,1,none⟩ (.int .i64 MT.c.c1)).setCell ⟨wz.heap.size,2,none⟩ (.int .i64 MT.c.c2)).setCell ⟨wz.heap.size,3,none⟩ (.int .i64 MT.c.c3)).setCell ⟨wz.heap.size,4,none⟩ (.slice ME1 MT.c.l.length mce)).setCell ⟨wz.heap.size,5,none⟩ (.slice MF1 MT.e.length mcf)) MT ME1 mce MF1 mcf∧Below wz.heap.size wz ((((((w6.setCell ⟨wz.heap.size,0,none⟩ (.int .i64 MT.c.c0)).setCell ⟨wz.heap.size,1,none⟩ (.int .i64 MT.c.c1)).setCell ⟨wz.heap.size,2,none⟩ (.int .i64 MT.c.c2)).setCell ⟨wz.heap.size,3,none⟩ (.int .i64 MT.c.c3)).setCell ⟨wz.heap.size,4,none⟩ (.slice ME1 MT.c.l.length mce)).setCell ⟨wz.heap.size,5,none⟩ (.slice MF1 MT.e.length mcf))):=by
     have hg5:=h5.out.2.2.2.2.2.2.2.2
     have hlt5:=h5.out.1.lt
     have hb6:Below wz.heap.size wz w6:=hg5.below.trans (hF.out.2.mono hg5.size)
     exact ⟨((((((h5.out.1.below hF.out.2).put 0 _).put 1 _).put 2 _).put 3 _).put 4 _).put 5 _,hF.out.1.agr ((((((aS _ fun h=>by omega).trans (aS _ fun h=>by omega)).trans (aS _ fun h=>by omega)).trans (aS _ fun h=>by omega)).trans (aS _ fun h=>by omega)).trans (aS _ fun h=>by omega)),((((((hb6.setCell (nR _) _).setCell (nR _) _).setCell (nR _) _).setCell (nR _) _).setCell (nR _) _).setCell (nR _) _)⟩
    clear hF hM
    go_wp2_with fail
    go_meet
    case rel=>exact ⟨rfl,ME1,mce,MF1,mcf,hfin⟩
  case rest =>
   obtain ⟨rfl,ME1,mce,MF1,mcf,hQ⟩:=hcut
   clear hM b1 a0 a1 a2 a3 a4 a5 c0 c1 c2 c3 c4 c5
   obtain ⟨q0,q1,q2,q3,q4,q5,q6,q7,q8,q9,q10,q11⟩:=eS hQ.out.1
   have hbw:Hid (Below w.heap.size w wc∧Nd wc N O P id s t qs∧TbP P wc s A ca C cc∧TbP P wc t B cb D cd):=by
    have hbz:=hR.out.2.2.2.1
    have hb:=hbz.trans (hQ.out.2.2.mono hbz.size)
    exact ⟨hb,hH.out.1.below hb,hH.out.2.1.below hb,hH.out.2.2.1.below hb⟩
   cases hn:(ME != 0)
   rotate_left
   focus
    have hfin:Hid (doE s id k x3 x4 x5=ME∧doT s id k x3 x4 x5=s):=by
     have h0:¬ME=0:=by simpa using hn
     have h1:doE s id k x3 x4 x5=ME:=by unfold doE;rw[if_pos hEEH.out,←hR.out.1];exact hMH.out.1
     exact ⟨h1,by unfold doT;rw[h1,if_neg h0]⟩
    go_wp2
    go_ret
    refine ⟨by rw[hfin.out.1];rfl,?_,Wr.of hbw.out.1 hH.out.1.blk.lt⟩
    rw[hfin.out.2]
    exact hbw.out.2.1.mono (fun b hb=>ae.old b hb) (cP hH.out.1.out hH.out.1.blk.lt) (eJ fun b hb=>hbw.out.2.1.up b hb)
   have h0:ME=0:=by simpa using hn
   have hfin:Hid (doE s id k x3 x4 x5=0∧doT s id k x3 x4 x5=MT∧aq MT=0):=by
    have h1:doE s id k x3 x4 x5=0:=by unfold doE;rw[if_pos hEEH.out,←hR.out.1,hMH.out.1];exact h0
    exact ⟨h1,by unfold doT;rw[h1,if_pos rfl,←hR.out.1];exact hMH.out.2,by rw[←hMH.out.2];exact d9 (by rw[hMH.out.1];exact h0)⟩
   subst h0
   clear hn
   have hBc:Hid (Calls Tryz.prog 76 #[.pointer (some ⟨N,O,none⟩),.agg (T2 MT ME1 mce MF1 mcf t B cb D cd).toArray] wc fun e w'=>e= .returned (.tuple #[])∧Nd w' N O (ae P w.heap.size w'.heap.size) id MT t qs∧Wr N (O+1) (O+37) wc w') :=
    have hMP:TbP (ae P w.heap.size wc.heap.size) wc MT ME1 mce MF1 mcf:=(hQ.out.2.1.p hfin.out.2.2).mono fun b hb=>ae.new (nT hR.out.2.2.2.1.size h5.out.2.2.2.2.2.2.2.2.size) (nR _) b hb
    iz hbw.out.2.1 hH.out.1.blk.lt hbw.out.1.size hMP (hbw.out.2.2.2.mono fun b hb=>ae.old b hb)
   go_wp2_with fail
   refine cM (show Calls _ _ _ _ _ from hBc.out) ?_
   rintro e w8 ⟨rfl,f1,f2⟩
   have hfin2:Hid (Nd w8 N O (ae P w.heap.size w8.heap.size) id MT t qs∧Wr N (O+1) (O+37) w w8):=⟨f1,(Wr.of hbw.out.1 hH.out.1.blk.lt).trans f2⟩
   clear f1 f2 hBc
   go_wp2
   go_ret
   refine ⟨by rw[hfin.out.1];rfl,?_,hfin2.out.2⟩
   rw[hfin.out.2.1]
   exact hfin2.out.1
set_option linter.unusedSimpArgs false

theorem xi {w:World} {N O:Nat} {P:Nat→Prop} {id:Int} {s t:Tab} {qs:List (List Stp)} (h:Nd w N O P id s t qs) (k x3 x4 x5:Int) :
  Calls Tryz.prog 51 #[.pointer (some ⟨N,O,none⟩),.agg #[.int .i64 k,.int .i64 1,.int .i64 x3,.int .i64 x4,.int .i64 x5]] w fun e w'=>e= .returned (.int .i64 (doE t id k x3 x4 x5))∧Nd w' N O (ae P w.heap.size w'.heap.size) id s (doT t id k x3 x4 x5) qs∧Wr N (O+1) (O+37) w w':=by
 have mixed:Tryz.prog.follows .mixedOrders=true:=by kernel_rfl
 obtain ⟨A,ca,C,cc,hcs,hts⟩:=h.ts
 obtain ⟨B,cb,D,cd,hct,htt⟩:=h.tt
 obtain ⟨w1,hw1⟩:∃W,w.alloc (.cells #[.int .i64 k,.int .i64 1,.int .i64 x3,.int .i64 x4,.int .i64 x5] 28)=W:=⟨_,rfl⟩
 have hg1:Gr w w1:=by rw[←hw1];exact (gR w).alloc _
 have hs1:w1.heap.size=w.heap.size+1:=by rw[←hw1];simp
 have hBx:Hid (Cls w1 w.heap.size [.int .i64 k,.int .i64 1,.int .i64 x3,.int .i64 x4,.int .i64 x5]):=by show Cls _ _ _;rw[←hw1];exact Cls.new w _ _
 have hHl:Hid (N<w1.heap.size):=nL h.blk.lt hg1.size
 have hlt0:=h.blk.lt
 have hHn:Hid (w1.cell? ⟨N,O,none⟩=some (.int .i64 id)∧TbC w1 N (O+1) s A ca C cc∧TbC w1 N (O+7) t B cb D cd):=⟨(hg1.below.cell (p:=⟨N,O,none⟩) hlt0).trans h.cid,hcs.keep fun j _ _=>hg1.below.cell (p:=⟨N,j,none⟩) hlt0,hct.keep fun j _ _=>hg1.below.cell (p:=⟨N,j,none⟩) hlt0⟩
 have hEd:Hid (∀W,Below w1.heap.size w1 W→Calls Tryz.prog 74 #[.agg (T6 t B cb D cd).toArray,.int .i64 id,.agg #[.int .i64 k,.int .i64 1,.int .i64 x3,.int .i64 x4,.int .i64 x5]] W fun e w'=>∃(u:Tab) (C:Option Addr) (cp:Nat) (F:Option Addr) (cf:Nat),e= .returned (.tuple #[.agg (T6 u C cp F cf).toArray,.int .i64 (edE t id k x3 x4 x5)])∧u=edT t id k x3 x4 x5∧TbW W.heap.size w' u C cp F cf∧Below W.heap.size W w'):=fun W hW=>kJ t B cb D cd id k 1 x3 x4 x5 W htt.len.1 htt.len.2 ((htt.row.gr hg1).below hW) ((htt.cel.gr hg1).below hW)
 have hH:Hid (Nd w N O P id s t qs∧TbP P w s A ca C cc∧TbP P w t B cb D cd∧TbC w N (O+1) s A ca C cc∧TbC w N (O+7) t B cb D cd∧Gr w w1∧w1.heap.size=w.heap.size+1):=⟨h,hts,htt,hcs,hct,hg1,hs1⟩
 clear h hts htt hcs hct hg1 hs1 hlt0
 have b1:=hBx.out.cell (j:=1) rfl
 obtain ⟨EE,hEE⟩:∃E,edE t id k x3 x4 x5=E:=⟨_,rfl⟩
 rw[hEE] at hEd
 have hEEH:Hid (edE t id k x3 x4 x5=EE):=hEE
 clear hEE
 go_enter Tryz.func51,Tryz.ntmps51
 go_upto_region 3 with fail
 clear hw1 b1
 go_cut [5,6] from 16 (fun v5 v6 wx=>∃Bm:Nat,v5= .pointer (some ⟨Bm,0,none⟩)∧v6= .int .i64 EE∧DoR w1 wx w1.heap.size Bm t id k x3 x4 x5)
 case first =>
  have hD0:Hid (Below w1.heap.size w1 w1.drew):=(gR w1).drew.below
  have hD1:Hid (Below w1.heap.size w1 (w1.alloc (.cells #[.int .i64 0,.int .i64 0,.int .i64 0,.int .i64 0,.slice none 0 0,.slice none 0 0] 41)).drew):=((gR w1).alloc _).drew.below
  have hle0:Hid (w1.heap.size≤w1.drew.heap.size):=nR _
  have hle1:Hid (w1.heap.size+1≤(w1.alloc (.cells #[.int .i64 0,.int .i64 0,.int .i64 0,.int .i64 0,.slice none 0 0,.slice none 0 0] 41)).drew.heap.size):=by show _≤(w1.alloc _).heap.size;simp
  have hKeep:Hid (∀W,Below w1.heap.size w1 W→(fun w'=>w'.cell? ⟨w.heap.size,0,none⟩=some (.int .i64 k)∧w'.cell? ⟨w.heap.size,1,none⟩=some (.int .i64 1)∧w'.cell? ⟨w.heap.size,2,none⟩=some (.int .i64 x3)∧w'.cell? ⟨w.heap.size,3,none⟩=some (.int .i64 x4)∧w'.cell? ⟨w.heap.size,4,none⟩=some (.int .i64 x5)∧w'.cell? ⟨N,O,none⟩=some (.int .i64 id)∧w'.cell? ⟨N,O+7,none⟩=some (.int .i64 t.c.c0)∧w'.cell? ⟨N,O+8,none⟩=some (.int .i64 t.c.c1)∧w'.cell? ⟨N,O+9,none⟩=some (.int .i64 t.c.c2)∧w'.cell? ⟨N,O+10,none⟩=some (.int .i64 t.c.c3)∧w'.cell? ⟨N,O+11,none⟩=some (.slice B t.c.l.length cb)∧w'.cell? ⟨N,O+12,none⟩=some (.slice D t.e.length cd)) W):=fun W hW=>⟨(hBx.out.below hW).cell (j:=0) rfl,(hBx.out.below hW).cell (j:=1) rfl,(hBx.out.below hW).cell (j:=2) rfl,(hBx.out.below hW).cell (j:=3) rfl,(hBx.out.below hW).cell (j:=4) rfl,(hW.cell (p:=⟨N,O,none⟩) hHl.out).trans hHn.out.1,(hW.cell (p:=⟨N,O+7,none⟩) hHl.out).trans hHn.out.2.2.k0,(hW.cell (p:=⟨N,O+8,none⟩) hHl.out).trans hHn.out.2.2.k1,(hW.cell (p:=⟨N,O+9,none⟩) hHl.out).trans hHn.out.2.2.k2,(hW.cell (p:=⟨N,O+10,none⟩) hHl.out).trans hHn.out.2.2.k3,(hW.cell (p:=⟨N,O+11,none⟩) hHl.out).trans hHn.out.2.2.k4,(hW.cell (p:=⟨N,O+12,none⟩) hHl.out).trans hHn.out.2.2.k5⟩
  focus
   refine wp_region_noPanic ?_
   refine wp_region_held_drew (S:=(fun w'=>w'.cell? ⟨w.heap.size,0,none⟩=some (.int .i64 k)∧w'.cell? ⟨w.heap.size,1,none⟩=some (.int .i64 1)∧w'.cell? ⟨w.heap.size,2,none⟩=some (.int .i64 x3)∧w'.cell? ⟨w.heap.size,3,none⟩=some (.int .i64 x4)∧w'.cell? ⟨w.heap.size,4,none⟩=some (.int .i64 x5)∧w'.cell? ⟨N,O,none⟩=some (.int .i64 id)∧w'.cell? ⟨N,O+7,none⟩=some (.int .i64 t.c.c0)∧w'.cell? ⟨N,O+8,none⟩=some (.int .i64 t.c.c1)∧w'.cell? ⟨N,O+9,none⟩=some (.int .i64 t.c.c2)∧w'.cell? ⟨N,O+10,none⟩=some (.int .i64 t.c.c3)∧w'.cell? ⟨N,O+11,none⟩=some (.slice B t.c.l.length cb)∧w'.cell? ⟨N,O+12,none⟩=some (.slice D t.e.length cd))) (by kernel_rfl) (hKeep.out _ hD0.out) (fun hHeld=> ?_)
   show wpAnyH _ _ _ _ _ 19 _ _ _
   repeat' first
    | with_reducible exact AllReadyH.nil
    | (
     (with_reducible refine isW ?_);refine wpAnyH_done (by decide +kernel) ?_ _
     refine NoPanic.normal ?_
     go_wp2_with fail
     go_meet
     case rel=>exact ⟨_,rfl,rfl,(by first|with_reducible exact qZ hF.out.1 (hT2.out.mono hle0.out) hF.out.2|with_reducible exact oF hF.out.1 hB2.out (hT2.out.mono hle1.out) hF.out.2)⟩)
    | (
     (with_reducible refine isW ?_);first
     | refine tkk 0 [1,2,3,4,5,6,7,8,9,10,11] (by assumption) (v:= ?_) (by simp only[zA,z0',zS];rfl) (by decide +kernel) ?_ ?_
     | refine tkk 13 [14,15] (by assumption) (v:= ?_) (by simp only[zA,z0',zS];rfl) (by decide +kernel) ?_ ?_
     | refine tkk 18 [] (by assumption) (v:= ?_) (by simp only[zA,z0',zS];rfl) (by decide +kernel) ?_ ?_
     rotate_left
     ·(refine oL ⟨by rfl,?_⟩;intro w hSw;(try dsimp only at hSw);go_simp<;>with_reducible rfl)
     try simp only[Act.put,yA,aC,yS]
     repeat (refine tk (v:= ?_) (by simp only[zA,z0',zS];rfl) (by kernel_rfl) ?_ ?_;rotate_left;· (refine oL ⟨by rfl,?_⟩;intro w hSw;(try dsimp only at hSw);go_simp<;>with_reducible rfl);try simp only[Act.put,yA,aC,yS])
     refine tk0 ?_)
    | ((with_reducible refine isW ?_);first
      | refine wpAnyH_ready (rs:=[12,16]) (by decide +kernel) (by simp) ?_
      | refine wpAnyH_ready (rs:=[16]) (by decide +kernel) (by simp) ?_
      | refine wpAnyH_ready (rs:=[17]) (by decide +kernel) (by simp) ?_
      | refine wpAnyH_ready (rs:=[12]) (by decide +kernel) (by simp) ?_)
    | ((with_reducible refine isR ?_);refine rdc (by simp only[zA,z0',zS];rfl) ?_ fun K hK=> ?_)
    | (
     go_simp
     first
     | ((go_at_call 74;(with_reducible refine cM (hEd.out _ (by first|with_reducible exact hD0.out|with_reducible exact hD1.out)) ?_);rintro e w2 ⟨u,E,ce,F,cf,rfl,f1,f2,f3⟩;have hF:Hid (u=edT t id k x3 x4 x5∧Below w1.heap.size w1 w2):=⟨f1,(by first|exact hD0.out.trans (f3.mono hD0.out.size)|exact hD1.out.trans (f3.mono hD1.out.size))⟩;have hT2:Hid _:=f2;(first|(have hB2:Hid (Cls w2 w1.heap.size Z6):=((Cls.new w1 #[.int .i64 0,.int .i64 0,.int .i64 0,.int .i64 0,.slice none 0 0,.slice none 0 0] 41).gr (gR _).drew).below f3)|skip);clear f1 f2 f3;(first|(have p0:=hB2.out.cell (j:=0) rfl;have z0:=hB2.out.fz 0;have p1:=hB2.out.cell (j:=1) rfl;have z1:=hB2.out.fz 1;have p2:=hB2.out.cell (j:=2) rfl;have z2:=hB2.out.fz 2;have p3:=hB2.out.cell (j:=3) rfl;have z3:=hB2.out.fz 3;have p4:=hB2.out.cell (j:=4) rfl;have z4:=hB2.out.fz 4;have p5:=hB2.out.cell (j:=5) rfl;have z5:=hB2.out.fz 5)|skip));first|(go_wp2_with fail)|skip)
     | skip
     refine hK.out _ _ ?_ (fun hHeld=> ?_)
     ·(try dsimp only);exact hKeep.out _ (by first|with_reducible exact hD0.out|with_reducible exact hD1.out|with_reducible exact hF.out.2|with_reducible exact hF.out.2.alloc hF.out.2.size _|exact aj hF.out.2 (nR _) _ _ _ _ _ _)
     clear hK K
     try simp only[Act.put,yA,aC,yS])
 case rest =>
  rename World=>wz
  obtain ⟨Bm,rfl,rfl,hDR⟩:=hcut
  obtain ⟨u,UA,uca,UC,ucc,hu,hCu,hTu,hbc,hge⟩:=hDR
  have hg1:=hH.out.2.2.2.2.2.1
  have hbw:Below w.heap.size w wz:=hg1.below.trans (hbc.mono hg1.size)
  have hR:Hid (u=edT t id k x3 x4 x5∧Cls wz Bm (T6 u UA uca UC ucc)∧TbW w1.heap.size wz u UA uca UC ucc∧Below w.heap.size w wz∧w1.heap.size≤Bm∧Cls wz w.heap.size [.int .i64 k,.int .i64 1,.int .i64 x3,.int .i64 x4,.int .i64 x5]∧Nd wz N O P id s t qs):=⟨hu,hCu,hTu,hbw,hge,hBx.out.below hbc,hH.out.1.below hbw⟩
  clear hu hCu hTu hbc hge hg1 hbw hEd hHn hBx
  cases hn:(EE != 0)
  rotate_left
  focus
   have hfin:Hid (doE t id k x3 x4 x5=EE∧doT t id k x3 x4 x5=t):=by
    have h0:¬EE=0:=by simpa using hn
    have h1:doE t id k x3 x4 x5=EE:=by unfold doE;rw[hEEH.out,if_neg h0]
    exact ⟨h1,by unfold doT;rw[h1,if_neg h0]⟩
   go_wp2
   go_ret
   refine ⟨by rw[hfin.out.1];rfl,?_,Wr.of hR.out.2.2.2.1 hH.out.1.blk.lt⟩
   rw[hfin.out.2]
   exact hR.out.2.2.2.2.2.2.mono (fun b hb=>ae.old b hb) (cP hH.out.1.out hH.out.1.blk.lt) (eJ fun b hb=>hR.out.2.2.2.2.2.2.up b hb)
  have h0:EE=0:=by simpa using hn
  subst h0
  clear hn
  have hlt0:=hH.out.1.blk.lt
  have n1:=(hR.out.2.2.2.1.cell (p:=⟨N,O+1,none⟩) hlt0).trans hH.out.2.2.2.1.k0
  have n2:=(hR.out.2.2.2.1.cell (p:=⟨N,O+2,none⟩) hlt0).trans hH.out.2.2.2.1.k1
  have n3:=(hR.out.2.2.2.1.cell (p:=⟨N,O+3,none⟩) hlt0).trans hH.out.2.2.2.1.k2
  have n4:=(hR.out.2.2.2.1.cell (p:=⟨N,O+4,none⟩) hlt0).trans hH.out.2.2.2.1.k3
  have n5:=(hR.out.2.2.2.1.cell (p:=⟨N,O+5,none⟩) hlt0).trans hH.out.2.2.2.1.k4
  have n6:=(hR.out.2.2.2.1.cell (p:=⟨N,O+6,none⟩) hlt0).trans hH.out.2.2.2.1.k5
  have n7:=(hR.out.2.2.2.1.cell (p:=⟨N,O+7,none⟩) hlt0).trans hH.out.2.2.2.2.1.k0
  have n8:=(hR.out.2.2.2.1.cell (p:=⟨N,O+8,none⟩) hlt0).trans hH.out.2.2.2.2.1.k1
  have n9:=(hR.out.2.2.2.1.cell (p:=⟨N,O+9,none⟩) hlt0).trans hH.out.2.2.2.2.1.k2
  have n10:=(hR.out.2.2.2.1.cell (p:=⟨N,O+10,none⟩) hlt0).trans hH.out.2.2.2.2.1.k3
  have n11:=(hR.out.2.2.2.1.cell (p:=⟨N,O+11,none⟩) hlt0).trans hH.out.2.2.2.2.1.k4
  have n12:=(hR.out.2.2.2.1.cell (p:=⟨N,O+12,none⟩) hlt0).trans hH.out.2.2.2.2.1.k5
  go_upto_region 7 with fail
  obtain ⟨w5,hw5⟩:∃W,wz.alloc (.cells #[.int .i64 s.c.c0,.int .i64 s.c.c1,.int .i64 s.c.c2,.int .i64 s.c.c3,.slice A s.c.l.length ca,.slice C s.e.length cc,.int .i64 t.c.c0,.int .i64 t.c.c1,.int .i64 t.c.c2,.int .i64 t.c.c3,.slice B t.c.l.length cb,.slice D t.e.length cd] 48)=W:=⟨_,rfl⟩
  rw[hw5]
  have hg5:Gr wz w5:=by rw[←hw5];exact (gR _).alloc _
  have h5:Hid (Cls w5 wz.heap.size (T2 s A ca C cc t B cb D cd)∧Cls w5 Bm (T6 u UA uca UC ucc)∧TbW w1.heap.size w5 u UA uca UC ucc∧Below w.heap.size w w5∧Cls w5 w.heap.size [.int .i64 k,.int .i64 1,.int .i64 x3,.int .i64 x4,.int .i64 x5]∧Nd w5 N O P id s t qs∧TbP P w5 s A ca C cc∧TbP P w5 t B cb D cd∧Gr wz w5):=by
   have hb5:=hR.out.2.2.2.1.trans (hg5.below.mono hR.out.2.2.2.1.size)
   exact ⟨by rw[←hw5];exact Cls.new wz _ _,hR.out.2.1.gr hg5,hR.out.2.2.1.below hg5.below,hb5,hR.out.2.2.2.2.2.1.gr hg5,hR.out.2.2.2.2.2.2.below hg5.below,hH.out.2.1.below hb5,hH.out.2.2.1.below hb5,hg5⟩
  clear hw5 hg5 n1 n2 n3 n4 n5 n6 n7 n8 n9 n10 n11 n12 hlt0
  have b1:=h5.out.2.2.2.2.1.cell (j:=1) rfl
  obtain ⟨a6,a7,a8,a9,a10,a11⟩:=yk h5.out.1
  obtain ⟨c0,c1,c2,c3,c4,c5⟩:=ii h5.out.2.1
  obtain ⟨ME,hME⟩:∃E,ak t u=E:=⟨_,rfl⟩
  obtain ⟨MT,hMT⟩:∃E,ac t u=E:=⟨_,rfl⟩
  have hMH:Hid (ak t u=ME∧ac t u=MT):=⟨hME,hMT⟩
  have hM:Hid (∀W,Gr w5 W→Calls Tryz.prog 75 #[.agg (T6 t B cb D cd).toArray,.agg (T6 u UA uca UC ucc).toArray] W fun e w'=>∃E ce F cf,e= .returned (.tuple #[.agg (T6 MT E ce F cf).toArray,.int .i64 ME])∧TbW W.heap.size w' MT E ce F cf∧Below W.heap.size W w'):=fun W hg=>by
   have hl:u.c.l.length≤maxLen∧u.e.length≤maxLen:=by rw[hR.out.1];exact rr _ _ _ _ _ _
   have hr5:TbP P w5 t B cb D cd:=h5.out.2.2.2.2.2.2.2.1
   have hm:=gX t u B UA D UC cb uca cd ucc W hr5.len.1 hl.1 hr5.len.2 hl.2 hr5.nr h5.out.2.2.1.nr (hr5.row.gr hg) (h5.out.2.2.1.row.gr hg) (hr5.cel.gr hg) (h5.out.2.2.1.cel.gr hg)
   rw[hME,hMT] at hm
   refine hm.mono ?_
   rintro e w' ⟨E,ce,F,cf,rfl,f1,f2,f3,f4,f5,f6,f7⟩
   exact ⟨E,ce,F,cf,rfl,⟨f1,f2,f3,f4,f5,f6⟩,f7⟩
  clear hME hMT
  go_cut [6] from 16 (fun v6 wx=>v6= .int .i64 ME∧∃(ME1:Option Addr) (mce:Nat) (MF1:Option Addr) (mcf:Nat),Hid (Cls wx wz.heap.size (T2 s A ca C cc MT ME1 mce MF1 mcf)∧TbW w5.heap.size wx MT ME1 mce MF1 mcf∧Below wz.heap.size wz wx))
  case first =>
   go_region_with (go_at_call 75;refine cM (hM.out _ (gR w5).drew) ?_;rintro e w6 ⟨ME1,mce,MF1,mcf,rfl,f1,f2⟩;have hF:Hid (TbW w5.heap.size w6 MT ME1 mce MF1 mcf∧Below w5.heap.size w5 w6):=⟨f1,(gR w5).drew.below.trans f2⟩;clear f1 f2;have e1:=(h5.out.2.2.2.2.1.below hF.out.2).cell (j:=1) rfl;have p6:=(h5.out.1.below hF.out.2).cell (j:=6) rfl;have z6:=(h5.out.1.below hF.out.2).fz 6;have p7:=(h5.out.1.below hF.out.2).cell (j:=7) rfl;have z7:=(h5.out.1.below hF.out.2).fz 7;have p8:=(h5.out.1.below hF.out.2).cell (j:=8) rfl;have z8:=(h5.out.1.below hF.out.2).fz 8;have p9:=(h5.out.1.below hF.out.2).cell (j:=9) rfl;have z9:=(h5.out.1.below hF.out.2).fz 9;have p10:=(h5.out.1.below hF.out.2).cell (j:=10) rfl;have z10:=(h5.out.1.below hF.out.2).fz 10;have p11:=(h5.out.1.below hF.out.2).cell (j:=11) rfl;have z11:=(h5.out.1.below hF.out.2).fz 11)
   all_goals
    have hfin:Hid (Cls ((((((w6.setCell ⟨wz.heap.size,6,none⟩ (.int .i64 MT.c.c0)).setCell ⟨wz.heap.size,7,none⟩ (.int .i64 MT.c.c1)).setCell ⟨wz.heap.size,8,none⟩ (.int .i64 MT.c.c2)).setCell ⟨wz.heap.size,9,none⟩ (.int .i64 MT.c.c3)).setCell ⟨wz.heap.size,10,none⟩ (.slice ME1 MT.c.l.length mce)).setCell ⟨wz.heap.size,11,none⟩ (.slice MF1 MT.e.length mcf)) wz.heap.size [.int .i64 s.c.c0,.int .i64 s.c.c1,.int .i64 s.c.c2,.int .i64 s.c.c3,.slice A s.c.l.length ca,.slice C s.e.length cc,.int .i64 MT.c.c0,.int .i64 MT.c.c1,.int .i64 MT.c.c2,.int .i64 MT.c.c3,.slice ME1 MT.c.l.length mce,.slice MF1 MT.e.length mcf]∧TbW w5.heap.size ((((((w6.setCell ⟨wz.heap.size,6,none⟩ (.int .i64 MT.c.c0)).setCell ⟨wz.heap.size,7,none⟩ (.int .i64 MT.c.c1)).setCell ⟨wz.heap.size,8,none⟩ (.int .i64 MT.c.c2)).setCell ⟨wz.heap.size,9,none⟩ (.int .i64 MT.c.c3)).setCell ⟨wz.heap.size,10,none⟩ (.slice ME1 MT.c.l.length mce)).setCell ⟨wz.heap.size,11,none⟩ (.slice MF1 MT.e.length mcf)) MT ME1 mce MF1 mcf∧Below wz.heap.size wz ((((((w6.setCell ⟨wz.heap.size,6,none⟩ (.int .i64 MT.c.c0)).setCell ⟨wz.heap.size,7,none⟩ (.int .i64 MT.c.c1)).setCell ⟨wz.heap.size,8,none⟩ (.int .i64 MT.c.c2)).setCell ⟨wz.heap.size,9,none⟩ (.int .i64 MT.c.c3)).setCell ⟨wz.heap.size,10,none⟩ (.slice ME1 MT.c.l.length mce)).setCell ⟨wz.heap.size,11,none⟩ (.slice MF1 MT.e.length mcf))):=by
     have hg5:=h5.out.2.2.2.2.2.2.2.2
     have hlt5:=h5.out.1.lt
     have hb6:Below wz.heap.size wz w6:=hg5.below.trans (hF.out.2.mono hg5.size)
     exact ⟨((((((h5.out.1.below hF.out.2).put 6 _).put 7 _).put 8 _).put 9 _).put 10 _).put 11 _,hF.out.1.agr ((((((aS _ fun h=>by omega).trans (aS _ fun h=>by omega)).trans (aS _ fun h=>by omega)).trans (aS _ fun h=>by omega)).trans (aS _ fun h=>by omega)).trans (aS _ fun h=>by omega)),((((((hb6.setCell (nR _) _).setCell (nR _) _).setCell (nR _) _).setCell (nR _) _).setCell (nR _) _).setCell (nR _) _)⟩
    clear hF hM
    go_wp2_with fail
    go_meet
    case rel=>exact ⟨rfl,ME1,mce,MF1,mcf,hfin⟩
  case rest =>
   obtain ⟨rfl,ME1,mce,MF1,mcf,hQ⟩:=hcut
   clear hM b1 a6 a7 a8 a9 a10 a11 c0 c1 c2 c3 c4 c5
   obtain ⟨q0,q1,q2,q3,q4,q5,q6,q7,q8,q9,q10,q11⟩:=eS hQ.out.1
   have hbw:Hid (Below w.heap.size w wc∧Nd wc N O P id s t qs∧TbP P wc s A ca C cc∧TbP P wc t B cb D cd):=by
    have hbz:=hR.out.2.2.2.1
    have hb:=hbz.trans (hQ.out.2.2.mono hbz.size)
    exact ⟨hb,hH.out.1.below hb,hH.out.2.1.below hb,hH.out.2.2.1.below hb⟩
   cases hn:(ME != 0)
   rotate_left
   focus
    have hfin:Hid (doE t id k x3 x4 x5=ME∧doT t id k x3 x4 x5=t):=by
     have h0:¬ME=0:=by simpa using hn
     have h1:doE t id k x3 x4 x5=ME:=by unfold doE;rw[if_pos hEEH.out,←hR.out.1];exact hMH.out.1
     exact ⟨h1,by unfold doT;rw[h1,if_neg h0]⟩
    go_wp2
    go_ret
    refine ⟨by rw[hfin.out.1];rfl,?_,Wr.of hbw.out.1 hH.out.1.blk.lt⟩
    rw[hfin.out.2]
    exact hbw.out.2.1.mono (fun b hb=>ae.old b hb) (cP hH.out.1.out hH.out.1.blk.lt) (eJ fun b hb=>hbw.out.2.1.up b hb)
   have h0:ME=0:=by simpa using hn
   have hfin:Hid (doE t id k x3 x4 x5=0∧doT t id k x3 x4 x5=MT∧aq MT=0):=by
    have h1:doE t id k x3 x4 x5=0:=by unfold doE;rw[if_pos hEEH.out,←hR.out.1,hMH.out.1];exact h0
    exact ⟨h1,by unfold doT;rw[h1,if_pos rfl,←hR.out.1];exact hMH.out.2,by rw[←hMH.out.2];exact d9 (by rw[hMH.out.1];exact h0)⟩
   subst h0
   clear hn
   have hBc:Hid (Calls Tryz.prog 76 #[.pointer (some ⟨N,O,none⟩),.agg (T2 s A ca C cc MT ME1 mce MF1 mcf).toArray] wc fun e w'=>e= .returned (.tuple #[])∧Nd w' N O (ae P w.heap.size w'.heap.size) id s MT qs∧Wr N (O+1) (O+37) wc w') :=
    have hMP:TbP (ae P w.heap.size wc.heap.size) wc MT ME1 mce MF1 mcf:=(hQ.out.2.1.p hfin.out.2.2).mono fun b hb=>ae.new (nT hR.out.2.2.2.1.size h5.out.2.2.2.2.2.2.2.2.size) (nR _) b hb
    iz hbw.out.2.1 hH.out.1.blk.lt hbw.out.1.size (hbw.out.2.2.1.mono fun b hb=>ae.old b hb) hMP
   go_wp2_with fail
   refine cM (show Calls _ _ _ _ _ from hBc.out) ?_
   rintro e w8 ⟨rfl,f1,f2⟩
   have hfin2:Hid (Nd w8 N O (ae P w.heap.size w8.heap.size) id s MT qs∧Wr N (O+1) (O+37) w w8):=⟨f1,(Wr.of hbw.out.1 hH.out.1.blk.lt).trans f2⟩
   clear f1 f2 hBc
   go_wp2
   go_ret
   refine ⟨by rw[hfin.out.1];rfl,?_,hfin2.out.2⟩
   rw[hfin.out.2.1]
   exact hfin2.out.1
end Go.Proofs.YtckeonpnfankhaaGreatDoor
