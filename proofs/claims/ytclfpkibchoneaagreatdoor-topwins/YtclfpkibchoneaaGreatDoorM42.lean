/-
  What all of it is for, over plain data: packets in whatever order, what was missing, who puts while others delete, what is deleted.
  What happens at first, in numbers: sorts that can be reckoned with.
  viewtop.put, del; what happens at first, over plain data.
  viewtop.said: two nodes that edited apart come together.
  Two nets that a law has made.
-/
import Derived.Test.YtclfpkibchoneaaGreatDoorM41
set_option maxRecDepth 100000
set_option maxHeartbeats 8000000
open Go.Ending renaming returned → J
open Go.IntKind renaming i64 → I
open Go.Obj renaming cells → H
open Go.Proofs.Tryz renaming prog → O
open Go.Value renaming int → S, string → Z, pointer → K, agg → F, slice → E, bool → B
namespace Go.Proofs.YtclfpkibchoneaaGreatDoor
open Go.RowKit Go.Sort

def aR (N:NetM) (n:Nat):NetM:=match N.pk[n]? with|some p=>fb N p.1 p.2.1 p.2.2|none=>N
def m7 (pk:List (Nat×Tab×Tab)) (j:Nat) (l:List Nat):List Tab:=l.filterMap fun n=>match pk[n]? with|some p=>if p.1=j then some p.2.1 else none|none=>none
def m9 (pk:List (Nat×Tab×Tab)) (j:Nat) (l:List Nat):List Tab:=l.filterMap fun n=>match pk[n]? with|some p=>if p.1=j then some p.2.2 else none|none=>none
theorem uf (pk:List (Nat×Tab×Tab)) (j n:Nat) (l:List Nat) {p:Nat×Tab×Tab} (h:pk[n]? = some p):m7 pk j (n::l)=if p.1=j then p.2.1::m7 pk j l else m7 pk j l:=by
 unfold m7
 rw[List.filterMap_cons,h]
 by_cases e:p.1=j
 ·simp[e]
 ·simp[e]
theorem ug (pk:List (Nat×Tab×Tab)) (j n:Nat) (l:List Nat) {p:Nat×Tab×Tab} (h:pk[n]? = some p):m9 pk j (n::l)=if p.1=j then p.2.2::m9 pk j l else m9 pk j l:=by
 unfold m9
 rw[List.filterMap_cons,h]
 by_cases e:p.1=j
 ·simp[e]
 ·simp[e]
theorem od (pk:List (Nat×Tab×Tab)) (j n:Nat) (l:List Nat) (h:pk[n]? = none):m7 pk j (n::l)=m7 pk j l∧m9 pk j (n::l)=m9 pk j l:=by
 unfold m7 m9
 rw[List.filterMap_cons,List.filterMap_cons,h]
 exact ⟨rfl,rfl⟩
theorem jD:∀(l:List Nat) {c:Nat} {N:NetM},NInv c N→NInv c (l.foldl aR N)∧(l.foldl aR N).pk=N.pk∧∀j,(l.foldl aR N).s j=gJ (N.s j) (m7 N.pk j l)∧(l.foldl aR N).t j=gJ (N.t j) (m9 N.pk j l)
 | [],_,N,h=>⟨h,rfl,fun j=>⟨rfl,rfl⟩⟩
 | n::l,c,N,h=>by
  cases hp:N.pk[n]? with
  | none =>
   have e:aR N n=N:=by unfold aR;rw[hp]
   obtain ⟨k1,k2,k3⟩:=jD l h
   rw[List.foldl_cons,e]
   refine ⟨k1,k2,fun j=> ?_⟩
   rw[(od N.pk j n l hp).1,(od N.pk j n l hp).2]
   exact k3 j
  | some p =>
   have e:aR N n=fb N p.1 p.2.1 p.2.2:=by unfold aR;rw[hp]
   obtain ⟨U,V,h1,h2,h3,h4⟩:=h.ex
   obtain ⟨ha,hb⟩:=py h1 h2 (List.mem_of_getElem? hp)
   obtain ⟨_,es,et,l1,l2⟩:=kK h1 h2 p.1 ha hb
   have hI:NInv c (aR N n):=by rw[e];exact ⟨⟨U,V,l1,l2,h3,h4⟩,h.dst⟩
   obtain ⟨k1,k2,k3⟩:=jD l hI
   have hpk:(aR N n).pk=N.pk:=by rw[e];rfl
   rw[List.foldl_cons]
   refine ⟨k1,k2.trans hpk,fun j=> ?_⟩
   obtain ⟨m1,m2⟩:=k3 j
   rw[m1,m2,hpk,e,es,et,uf N.pk j n l hp,ug N.pk j n l hp]
   by_cases ej:p.1=j
   ·subst ej
    rw[if_pos rfl,if_pos rfl,aQ,aQ]
    exact ⟨rfl,rfl⟩
   ·rw[if_neg ej,if_neg ej,bU _ _ (fun e=>ej e.symm),bU _ _ (fun e=>ej e.symm)]
    exact ⟨rfl,rfl⟩
theorem m8 {pk:List (Nat×Tab×Tab)} {j:Nat} {l:List Nat} {x:Tab}:x∈m7 pk j l↔∃n∈l,∃p,pk[n]? = some p∧p.1=j∧p.2.1=x:=by
 unfold m7
 rw[List.mem_filterMap]
 constructor
 ·rintro ⟨n,hn,e⟩
  cases hp:pk[n]? with
  | none=>rw[hp] at e;cases e
  | some p =>
   rw[hp] at e
   by_cases ej:p.1=j
   ·simp[ej] at e;exact ⟨n,hn,p,hp,ej,e⟩
   ·simp[ej] at e
 ·rintro ⟨n,hn,p,hp,ej,e⟩
  exact ⟨n,hn,by rw[hp];simp[ej,e]⟩
theorem me {pk:List (Nat×Tab×Tab)} {j:Nat} {l:List Nat} {x:Tab}:x∈m9 pk j l↔∃n∈l,∃p,pk[n]? = some p∧p.1=j∧p.2.2=x:=by
 unfold m9
 rw[List.mem_filterMap]
 constructor
 ·rintro ⟨n,hn,e⟩
  cases hp:pk[n]? with
  | none=>rw[hp] at e;cases e
  | some p =>
   rw[hp] at e
   by_cases ej:p.1=j
   ·simp[ej] at e;exact ⟨n,hn,p,hp,ej,e⟩
   ·simp[ej] at e
 ·rintro ⟨n,hn,p,hp,ej,e⟩
  exact ⟨n,hn,by rw[hp];simp[ej,e]⟩
theorem nU {c:Nat} {N:NetM} (h:NInv c N) {l m:List Nat} (e:∀n,n<N.pk.length→(n∈l↔n∈m)):∀j,(l.foldl aR N).s j=(m.foldl aR N).s j∧(l.foldl aR N).t j=(m.foldl aR N).t j:=by
 intro j
 obtain ⟨_,_,k⟩:=jD l h
 obtain ⟨_,_,k'⟩:=jD m h
 obtain ⟨U,V,h1,h2,_⟩:=h.ex
 have hs:∀l:List Nat,(∀x∈m7 N.pk j l,Sub U x)∧∀x∈m9 N.pk j l,Sub V x:=fun l=>by
  refine ⟨fun x hx=> ?_,fun x hx=> ?_⟩
  ·obtain ⟨n,_,p,hp,_,e⟩:=m8.1 hx
   rw[←e]
   exact (py h1 h2 (List.mem_of_getElem? hp)).1
  ·obtain ⟨n,_,p,hp,_,e⟩:=me.1 hx
   rw[←e]
   exact (py h1 h2 (List.mem_of_getElem? hp)).2
 have hlt:∀ {n:Nat} {p:Nat×Tab×Tab},N.pk[n]? = some p→n<N.pk.length:=fun hp=>(List.getElem?_eq_some_iff.1 hp).1
 rw[(k j).1,(k j).2,(k' j).1,(k' j).2]
 refine ⟨mM h1.uni (h1.sub j) (hs l).1 (hs m).1 fun x=> ?_,mM h2.uni (h2.sub j) (hs l).2 (hs m).2 fun x=> ?_⟩
 ·rw[m8,m8]
  exact ⟨fun ⟨n,hn,p,hp,k⟩=>⟨n,(e n (hlt hp)).1 hn,p,hp,k⟩,fun ⟨n,hn,p,hp,k⟩=>⟨n,(e n (hlt hp)).2 hn,p,hp,k⟩⟩
 ·rw[me,me]
  exact ⟨fun ⟨n,hn,p,hp,k⟩=>⟨n,(e n (hlt hp)).1 hn,p,hp,k⟩,fun ⟨n,hn,p,hp,k⟩=>⟨n,(e n (hlt hp)).2 hn,p,hp,k⟩⟩
theorem tT {c:Nat} {N:NetM} (h:NInv c N) (i j:Nat) (h0:kI (N.s i) (N.t i) (N.s j).c (N.t j).c=0) :
  e7 (N.s j) (N.t j) (N.s i) (N.t i)=0∧e7 (N.s j) (N.t j) (aB (N.s i) (N.s j).c) (aB (N.t i) (N.t j).c)=0∧kW (N.s j) (N.t j) (aB (N.s i) (N.s j).c) (aB (N.t i) (N.t j).c)=kW (N.s j) (N.t j) (N.s i) (N.t i)∧oy (N.s j) (N.t j) (aB (N.s i) (N.s j).c) (aB (N.t i) (N.t j).c)=oy (N.s j) (N.t j) (N.s i) (N.t i):=by
 obtain ⟨U,V,h1,h2,_⟩:=h.ex
 have m1:=(Sub.merge h1.uni (h1.sub j) (h1.sub i)).1
 have m2:=(Sub.merge h2.uni (h2.sub j) (h2.sub i)).1
 have hs:aV (N.s i) (N.s j).c=0∧aV (N.t i) (N.t j).c=0:=by
  unfold kI at h0
  by_cases e:aV (N.s i) (N.s j).c=0
  ·rw[if_pos e] at h0;exact ⟨e,h0⟩
  ·rw[if_neg e] at h0;exact absurd h0 e
 obtain ⟨_,k1,k2⟩:=jZ m1 hs.1
 obtain ⟨_,q1,q2⟩:=jZ m2 hs.2
 have e1:e7 (N.s j) (N.t j) (N.s i) (N.t i)=0:=by unfold e7;rw[m1,if_pos rfl,m2]
 have e2:e7 (N.s j) (N.t j) (aB (N.s i) (N.s j).c) (aB (N.t i) (N.t j).c)=0:=by unfold e7;rw[k1,if_pos rfl,q1]
 refine ⟨e1,e2,?_,?_⟩
 ·unfold kW
  rw[if_pos e1,if_pos e2,k2]
 ·unfold oy
  rw[if_pos e1,if_pos e2,q2]
theorem pW {T:Tab} (hT:al T=0) (i key:Int):al (doT T i 2 key 0 0)=0∧(∀y,y∈(doT T i 2 key 0 0).e↔y∈T.e∧y.2.1≠key)∧∀d,af (doT T i 2 key 0 0).c d=true↔af T.c d=true:=by
 have e1:edE T i 2 key 0 0=dS T key:=by unfold edE;rw[if_neg (by decide),if_pos rfl]
 have e2:edT T i 2 key 0 0=⟨cE T key,[]⟩:=by unfold edT;rw[if_neg (by decide),if_pos rfl]
 by_cases h0:dS T key=0
 ·obtain ⟨_,_,hm,hc⟩:=iG h0
  have hE:doE T i 2 key 0 0=0:=by unfold doE;rw[e1,if_pos h0,e2];exact hm
  have hD:doT T i 2 key 0 0=ac T ⟨cE T key,[]⟩:=by unfold doT;rw[if_pos hE,e2]
  rw[hD]
  refine ⟨d7 hm,hc,fun d=> ?_⟩
  rw[ou hm]
  exact ⟨fun hh=>hh.elim id fun hh=>sP h0 d hh,oL⟩
 ·have hE:doE T i 2 key 0 0≠0:=by unfold doE;rw[e1,if_neg h0];exact h0
  have hD:doT T i 2 key 0 0=T:=by unfold doT;rw[if_neg hE]
  rw[hD]
  have hk:=vM hT h0
  refine ⟨hT,fun y=>⟨fun hy=>⟨hy,fun e=>hk (List.mem_map.2 ⟨y,hy,e⟩)⟩,fun hy=>hy.1⟩,fun d=>Iff.rfl⟩
section
variable {U:List Cel} {x:Nat→Tab} {ps:List Tab}
theorem xT (h:Lane U x ps) {T:Tab} (hT:al T=0) {key col v:Int} {N:Int×Int} (hN:af T.c N=false) (c1:∀y,y∈(x 1).e↔(y∈T.e∧cT key col y=false)∨y=(N,key,col,v)) (d1:∀d,af (x 1).c d=true↔af T.c d=true∨d=N)
  (cs:∀i,i=0∨i=2∨i=3→(∀y,y∈(x i).e↔y∈T.e∧y.2.1≠key)∧∀d,af (x i).c d=true↔af T.c d=true):∀y,y∈(ki x).e↔(y∈T.e∧y.2.1≠key)∨y=(N,key,col,v):=by
 have hU:=h.uni
 have hTh:∀y∈T.e,af T.c y.1=true:=fun y hy=>bM hT hy
 have nf:∀ {c:Ctx} {d:Int×Int},af c d=true→¬af c d=false:=fun h k=>by rw[h] at k;cases k
 have hf:∀y:Cel,y.2.1≠key→cT key col y=false:=fun y hy=>by simp[cT,hy]
 obtain ⟨_,s1,k1,m1⟩:=Sub.merge hU (h.sub 0) (h.sub 1)
 obtain ⟨_,s2,k2,m2⟩:=Sub.merge hU s1 (h.sub 2)
 obtain ⟨_,s3,k3,m3⟩:=Sub.merge hU s2 (h.sub 3)
 have step:∀ {a b:Tab} {R:Tab},(∀y,y∈R.e↔(y∈a.e∧y∈b.e)∨(y∈a.e∧af b.c y.1=false)∨(y∈b.e∧af a.c y.1=false))→(∀d,af R.c d=true↔af a.c d=true∨af b.c d=true)→(∀y,y∈a.e↔(y∈T.e∧y.2.1≠key)∨y=(N,key,col,v))→(∀d,af a.c d=true↔af T.c d=true∨d=N)→(∀y,y∈b.e↔y∈T.e∧y.2.1≠key)→(∀d,af b.c d=true↔af T.c d=true)→(∀y,y∈R.e↔(y∈T.e∧y.2.1≠key)∨y=(N,key,col,v))∧∀d,af R.c d=true↔af T.c d=true∨d=N:=by
  intro a b R hm hk ha hda hb hdb
  refine ⟨fun y=> ?_,fun d=> ?_⟩
  ·rw[hm,ha,hb]
   constructor
   ·rintro (⟨hy,_⟩|⟨hy,_⟩|⟨hy,hn⟩)
    ·exact hy
    ·exact hy
    ·exact absurd hn (nf ((hda _).2 (oL (hTh y hy.1))))
   ·rintro (hy|hy)
    ·exact oL ⟨oL hy,hy⟩
    ·refine oR (oL ⟨oR hy,?_⟩)
     rw[hy]
     cases hh:af b.c N
     ·rfl
     ·rw[(hdb N).1 hh] at hN;cases hN
  ·rw[hk,hda,hdb]
   constructor
   ·rintro (hh|hh)
    ·exact hh
    ·exact oL hh
   ·exact oL
 have a1:(∀y,y∈(ac (x 0) (x 1)).e↔(y∈T.e∧y.2.1≠key)∨y=(N,key,col,v))∧∀d,af (ac (x 0) (x 1)).c d=true↔af T.c d=true∨d=N:=by
  obtain ⟨c0,d0⟩:=cs 0 (oL rfl)
  refine ⟨fun y=> ?_,fun d=> ?_⟩
  ·rw[m1,c0,c1]
   constructor
   ·rintro (⟨hy,_⟩|⟨hy,_⟩|⟨hy|hy,hn⟩)
    ·exact oL hy
    ·exact oL hy
    ·exact absurd hn (nf ((d0 _).2 (hTh y hy.1)))
    ·exact oR hy
   ·rintro (hy|hy)
    ·exact oL ⟨hy,oL ⟨hy.1,hf y hy.2⟩⟩
    ·refine oR (oR ⟨oR hy,?_⟩)
     rw[hy]
     cases hh:af (x 0).c N
     ·rfl
     ·rw[(d0 N).1 hh] at hN;cases hN
  ·rw[k1,d0,d1]
   constructor
   ·rintro (hh|hh)
    ·exact oL hh
    ·exact hh
   ·exact oR
 obtain ⟨c2,d2⟩:=cs 2 (oR (oL rfl))
 obtain ⟨c3,d3⟩:=cs 3 (oR (oR rfl))
 have a2:=step m2 k2 a1.1 a1.2 c2 d2
 exact (step m3 k3 a2.1 a2.2 c3 d3).1
theorem vm {R T:Tab} {key col v:Int} {N:Int×Int} (h:∀y,y∈R.e↔(y∈T.e∧y.2.1≠key)∨y=(N,key,col,v)):bi (aM key col R.e)=[v]:=by
 refine xf fun x=> ?_
 rw[jO]
 constructor
 ·rintro ⟨y,hy,hf,e⟩
  rcases (h y).1 hy with k|k
  ·simp[cT] at hf
   exact absurd hf.1 k.2
  ·rw[←e,k]
 ·intro e
  exact ⟨(N,key,col,v),(h _).2 (oR rfl),by simp[cT],e.symm⟩
theorem wl (h:Lane U x ps) {T:Tab} (hT:al T=0) {key:Int} {k:Nat} (hk:k<4) (ck:(∀y,y∈(x k).e↔y∈T.e∧y.2.1≠key)∧∀d,af (x k).c d=true↔af T.c d=true) (co:∀i,i<4→i≠k→x i=T):∀y,y∈(ki x).e↔y∈T.e∧y.2.1≠key:=by
 have hU:=h.uni
 have hTh:∀y∈T.e,af T.c y.1=true:=fun y hy=>bM hT hy
 have nf:∀ {c:Ctx} {d:Int×Int},af c d=true→¬af c d=false:=fun h k=>by rw[h] at k;cases k
 have hc:∀i,i<4→∀d,af (x i).c d=true↔af T.c d=true:=fun i hi d=>by
  by_cases e:i=k
  ·subst e;exact ck.2 d
  ·rw[co i hi e]
 have hs:∀i,i<4→∀y,y∈(x i).e→y∈T.e:=fun i hi y hy=>by
  by_cases e:i=k
  ·subst e;exact ((ck.1 y).1 hy).1
  ·rw[co i hi e] at hy;exact hy
 obtain ⟨_,s1,k1,m1⟩:=Sub.merge hU (h.sub 0) (h.sub 1)
 obtain ⟨_,s2,k2,m2⟩:=Sub.merge hU s1 (h.sub 2)
 obtain ⟨_,s3,k3,m3⟩:=Sub.merge hU s2 (h.sub 3)
 have c1:∀d,af (ac (x 0) (x 1)).c d=true↔af T.c d=true:=fun d=>by rw[k1,hc 0 (by omega),hc 1 (by omega),or_self]
 have c2:∀d,af (ac (ac (x 0) (x 1)) (x 2)).c d=true↔af T.c d=true:=fun d=>by rw[k2,c1,hc 2 (by omega),or_self]
 have both:∀ {a b R:Tab},(∀y,y∈R.e↔(y∈a.e∧y∈b.e)∨(y∈a.e∧af b.c y.1=false)∨(y∈b.e∧af a.c y.1=false))→(∀y∈a.e,y∈T.e)→(∀y∈b.e,y∈T.e)→(∀d,af a.c d=true↔af T.c d=true)→(∀d,af b.c d=true↔af T.c d=true)→∀y,y∈R.e↔y∈a.e∧y∈b.e:=by
  intro a b R hm ha hb hda hdb y
  rw[hm]
  constructor
  ·rintro (hy|⟨hy,hn⟩|⟨hy,hn⟩)
   ·exact hy
   ·exact absurd hn (nf ((hdb _).2 (hTh y (ha y hy))))
   ·exact absurd hn (nf ((hda _).2 (hTh y (hb y hy))))
  ·exact oL
 have b1:=both m1 (hs 0 (by omega)) (hs 1 (by omega)) (hc 0 (by omega)) (hc 1 (by omega))
 have b2:=both m2 (fun y hy=>hs 0 (by omega) y ((b1 y).1 hy).1) (hs 2 (by omega)) c1 (hc 2 (by omega))
 have b3:=both m3 (fun y hy=>hs 0 (by omega) y ((b1 y).1 ((b2 y).1 hy).1).1) (hs 3 (by omega)) c2 (hc 3 (by omega))
 have hin:∀i,i<4→∀y,y∈T.e→y.2.1≠key→y∈(x i).e:=fun i hi y hy hne=>by
  by_cases e:i=k
  ·subst e;exact (ck.1 y).2 ⟨hy,hne⟩
  ·rw[co i hi e];exact hy
 intro y
 show y∈(ac (ac (ac (x 0) (x 1)) (x 2)) (x 3)).e↔_
 rw[b3,b2,b1]
 constructor
 ·rintro ⟨⟨⟨y0,y1⟩,y2⟩,y3⟩
  refine ⟨hs 0 (by omega) y y0,?_⟩
  match k,hk,ck with
  | 0,_,ck=>exact ((ck.1 y).1 y0).2
  | 1,_,ck=>exact ((ck.1 y).1 y1).2
  | 2,_,ck=>exact ((ck.1 y).1 y2).2
  | 3,_,ck=>exact ((ck.1 y).1 y3).2
 ·rintro ⟨hy,hne⟩
  exact ⟨⟨⟨hin 0 (by omega) y hy hne,hin 1 (by omega) y hy hne⟩,hin 2 (by omega) y hy hne⟩,hin 3 (by omega) y hy hne⟩
theorem uh {R T:Tab} {key:Int} (h:∀y,y∈R.e↔y∈T.e∧y.2.1≠key):key ∉ bi (aZ R.e)∧∀k col,k≠key→bi (aM k col R.e)=bi (aM k col T.e):=by
 refine ⟨fun hm=> ?_,fun k col hk=> ?_⟩
 ·obtain ⟨y,hy,e⟩:=List.mem_map.1 (((cw _).2 _).1 hm)
  exact ((h y).1 hy).2 e
 ·refine qK (cw _).1 (cw _).1 fun x=> ?_
  rw[(cw _).2,(cw _).2,jO,jO]
  constructor
  ·rintro ⟨y,hy,hf,e⟩
   exact ⟨y,((h y).1 hy).1,hf,e⟩
  ·rintro ⟨y,hy,hf,e⟩
   refine ⟨y,(h y).2 ⟨hy,fun e2=> ?_⟩,hf,e⟩
   simp[cT] at hf
   exact hk (hf.1.symm.trans e2)
end
section
open Go.Shelf Go.Lib
set_option linter.unusedSimpArgs false

def wF {α : Type} (le: α → α → Bool) (x: α):List α → List α
 | []=>[x]
 | y::l=>if le x y then x::y::l else y::wF le x l
def isr {α : Type} (le: α → α → Bool):List α → List α
 | []=>[]
 | x::l=>wF le x (isr le l)
theorem qo {α : Type} {le: α → α → Bool} {x: α}:∀(a b:List α),(∀y∈a,le x y=false)→(∀y∈b,le x y=true)→wF le x (a++b)=a++x::b
 | [],[],_,_=>rfl
 | [],y::b,_,h=>by simp[wF,h y (List.mem_cons_self ..)]
 | y::a,b,h,k=>by
  rw[List.cons_append,wF,if_neg (by simp[h y (List.mem_cons_self ..)]),qo a b (fun z hz=>h z (mC _ hz)) k]
  rfl
theorem pn {α : Type} {le: α → α → Bool} (tr:∀a b c,le a b=true→le b c=true→le a c=true) (tl:∀a b,(le a b || le b a)=true):∀l:List α,l.mergeSort le=isr le l
 | []=>by simp[isr]
 | x::l=>by
  obtain ⟨a,b,h1,h2,h3⟩:=List.mergeSort_cons tr tl x l
  have hs:=List.pairwise_mergeSort tr tl (x::l)
  rw[h1] at hs
  rw[isr,←pn tr tl l,h2,h1,qo a b (fun y hy=>by simpa using h3 y hy) fun y hy=> ?_]
  exact (List.pairwise_cons.1 (List.pairwise_append.1 hs).2.1).1 y hy
theorem iy (l:List (Int×Int)):srt l=isr (fun x y=> !ltOf el y x) l:=by
 unfold srt
 refine pn (fun a b c h1 h2=> ?_) (fun a b=> ?_) l
 ·simp only[ltD,Bool.not_eq_true'] at *
  exact iL (x:=a) (y:=b) (z:=c) h1 h2
 ·simp only[ltD,Bool.or_eq_true,Bool.not_eq_true']
  exact oq a b
theorem fK (l:List Cel):gH l=isr (fun x y=> !fM y x) l:=by
 unfold gH
 refine pn (fun a b c=> ?_) (fun a b=> ?_) l
 ·simp[fM,bI];omega
 ·simp[fM,bI];omega
theorem qE (l:List Int):bi l=compact (isr (fun x y=>decide (x≤y)) l):=by
 unfold bi
 rw[pn (fun a b c h1 h2=> ?_) (fun a b=> ?_) l]
 ·simp at h1 h2 ⊢;omega
 ·simp;omega
def tT0:Tab:=⟨⟨1,0,0,0,[]⟩,[((0,1),3,0,4)]⟩
def tTa:Tab:=⟨⟨0,1,0,0,[]⟩,[((1,1),3,1,5)]⟩
def tT1:Tab:=⟨⟨0,2,0,0,[]⟩,[((1,1),3,1,5),((1,2),7,0,1)]⟩
def tMM:Tab:=⟨⟨1,2,0,0,[]⟩,[((0,1),3,0,4),((1,1),3,1,5),((1,2),7,0,1)]⟩
def tD2:Tab:=⟨⟨1,2,0,0,[]⟩,[((0,1),3,0,4),((1,1),3,1,5)]⟩
def tE3:Tab:=⟨⟨1,2,0,1,[]⟩,[((0,1),3,0,4),((1,1),3,1,5),((1,2),7,0,1),((3,1),7,2,9)]⟩
def tRR:Tab:=⟨⟨1,2,0,1,[]⟩,[((0,1),3,0,4),((1,1),3,1,5),((3,1),7,2,9)]⟩
theorem sd1:doE cQ 0 1 3 0 4=0∧doT cQ 0 1 3 0 4=tT0:=by
 simp only[doT,doE,edE,edT,dc,cP,am,ac,aC,aA,cV,dX,aD,mrg,iy,fK]
 exact ⟨by kernel_rfl,by kernel_rfl⟩
theorem sd2:doE cQ 1 1 3 1 5=0∧doT cQ 1 1 3 1 5=tTa:=by
 simp only[doT,doE,edE,edT,dc,cP,am,ac,aC,aA,cV,dX,aD,mrg,iy,fK]
 exact ⟨by kernel_rfl,by kernel_rfl⟩
theorem sd3:doE tTa 1 1 7 0 1=0∧doT tTa 1 1 7 0 1=tT1:=by
 simp only[doT,doE,edE,edT,dc,cP,am,ac,aC,aA,cV,dX,aD,mrg,iy,fK]
 exact ⟨by kernel_rfl,by kernel_rfl⟩
theorem sd4:ac (ac (ac tT0 tT1) cQ) cQ=tMM:=by
 simp only[am,ac,aC,aA,cV,dX,mrg,iy,fK]
 kernel_rfl
theorem sd5:doE tMM 2 2 7 0 0=0∧doT tMM 2 2 7 0 0=tD2:=by
 simp only[doT,doE,edE,edT,dS,cE,am,ac,aC,aA,cV,dX,aD,mrg,iy,fK]
 exact ⟨by kernel_rfl,by kernel_rfl⟩
theorem sd6:doE tMM 3 1 7 2 9=0∧doT tMM 3 1 7 2 9=tE3:=by
 simp only[doT,doE,edE,edT,dc,cP,am,ac,aC,aA,cV,dX,aD,mrg,iy,fK]
 exact ⟨by kernel_rfl,by kernel_rfl⟩
theorem sd7:ac (ac (ac tMM tMM) tD2) tE3=tRR:=by
 simp only[am,ac,aC,aA,cV,dX,mrg,iy,fK]
 kernel_rfl
theorem sd8:al tRR=0∧ofR tRR=[([3,4,5,0],1),([7,0,0,9],1)]:=by
 simp only[ofR,ofL,dq,qE]
 exact ⟨by kernel_rfl,by kernel_rfl⟩
end

def cI (n key col v:Int):Hap:=⟨1,n,0,0,1,0,key,col,v⟩
def cU (n key:Int):Hap:=⟨1,n,0,0,2,0,key,0,0⟩
theorem ie (n key col v:Int) (w:World):Calls O 20 #[S I n,S I key,S I col,S I v] w fun e w'=>e= J (F (bY (cI n key col v,[])).toArray)∧Gr w w':=by
 have hg:Hid (Gr w (w.alloc (H (bY (cI n key col v,[])).toArray 30))):=(gR w).alloc _
 go_enter Tryz.func20,Tryz.ntmps20
 go_wp2
 exact bodyPost_ret (v:= F (bY (cI n key col v,[])).toArray) (by simp[results,Tryz.results20,go_sem,bY,cI]) rfl ⟨rfl,hg.out⟩
theorem mj (n key:Int) (w:World):Calls O 21 #[S I n,S I key] w fun e w'=>e= J (F (bY (cU n key,[])).toArray)∧Gr w w':=by
 have hg:Hid (Gr w (w.alloc (H (bY (cU n key,[])).toArray 30))):=(gR w).alloc _
 go_enter Tryz.func21,Tryz.ntmps21
 go_wp2
 exact bodyPost_ret (v:= F (bY (cU n key,[])).toArray) (by simp[results,Tryz.results21,go_sem,bY,cU]) rfl ⟨rfl,hg.out⟩
theorem hed (N:NetM) (y:Hap) (i:Nat) (hk:y.k=1) (ha:y.a=i) (hi:i<4) (h2:y.e2=0):aX N y=doE (N.s i) i y.e1 y.e3 y.e4 y.e5∧aj N y=⟨upd N.s i (doT (N.s i) i y.e1 y.e3 y.e4 y.e5),N.t,N.pk⟩:=by
 have hn:isN y.a:=⟨by omega,by omega⟩
 constructor
 ·unfold aX
  rw[if_pos hk,if_pos hn,ha,Int.toNat_natCast]
  unfold ndE
  rw[if_pos h2]
 ·unfold aj
  rw[if_pos hk,if_pos hn,ha,Int.toNat_natCast]
  unfold sU ndS ndT
  rw[if_pos h2,if_neg (by omega),gj]
theorem Ag:∃N1 N2 N3 N5 N6,aX aT (cI 0 3 0 4)=0∧aj aT (cI 0 3 0 4)=N1∧aX N1 (cI 1 3 1 5)=0∧aj N1 (cI 1 3 1 5)=N2∧aX N2 (cI 1 7 0 1)=0∧aj N2 (cI 1 7 0 1)=N3∧NInv 3 N3∧aX (cG N3) (cU 2 7)=0∧aj (cG N3) (cU 2 7)=N5∧aX N5 (cI 3 7 2 9)=0∧aj N5 (cI 3 7 2 9)=N6∧NInv 5 N6∧∀i,i<4→(cG N6).s i=tRR:=by
 obtain ⟨e1,m1⟩:=hed aT (cI 0 3 0 4) 0 rfl rfl (by omega) rfl
 have I1:=NInv.new.hap (by omega) (cI 0 3 0 4)
 have e1:=e1.trans sd1.1
 have m1:=m1.trans (congrArg (fun t=>NetM.mk (upd aT.s 0 t) aT.t aT.pk) sd1.2)
 rw[m1] at I1
 obtain ⟨e2,m2⟩:=hed ⟨upd aT.s 0 tT0,aT.t,aT.pk⟩ (cI 1 3 1 5) 1 rfl rfl (by omega) rfl
 have I2:=I1.hap (by omega) (cI 1 3 1 5)
 have e2:=e2.trans sd2.1
 have m2:=m2.trans (congrArg (fun t=>NetM.mk (upd (upd aT.s 0 tT0) 1 t) aT.t aT.pk) sd2.2)
 rw[m2] at I2
 obtain ⟨e3,m3⟩:=hed ⟨upd (upd aT.s 0 tT0) 1 tTa,aT.t,aT.pk⟩ (cI 1 7 0 1) 1 rfl rfl (by omega) rfl
 have I3:=I2.hap (by omega) (cI 1 7 0 1)
 have e3:=e3.trans sd3.1
 have m3:=m3.trans (congrArg (fun t=>NetM.mk (upd (upd (upd aT.s 0 tT0) 1 tTa) 1 t) aT.t aT.pk) sd3.2)
 rw[m3] at I3
 obtain ⟨I4,s4,_⟩:=I3.met
 obtain ⟨N4,h4⟩:∃N,cG ⟨upd (upd (upd aT.s 0 tT0) 1 tTa) 1 tT1,aT.t,aT.pk⟩=N:=⟨_,rfl⟩
 rw[h4] at I4 s4
 have a4:∀j,j<4→N4.s j=tMM:=fun j hj=>(s4 j hj).trans sd4
 obtain ⟨e5,m5⟩:=hed N4 (cU 2 7) 2 rfl rfl (by omega) rfl
 have I5:=I4.hap (by omega) (cU 2 7)
 rw[a4 2 (by omega)] at e5 m5
 have e5:=e5.trans sd5.1
 have m5:=m5.trans (congrArg (fun t=>NetM.mk (upd N4.s 2 t) N4.t N4.pk) sd5.2)
 rw[m5] at I5
 obtain ⟨e6,m6⟩:=hed ⟨upd N4.s 2 tD2,N4.t,N4.pk⟩ (cI 3 7 2 9) 3 rfl rfl (by omega) rfl
 have I6:=I5.hap (by omega) (cI 3 7 2 9)
 have x3:upd N4.s 2 tD2 3=tMM:=(bU _ _ (by omega)).trans (a4 3 (by omega))
 rw[show (NetM.mk (upd N4.s 2 tD2) N4.t N4.pk).s 3=tMM from x3] at e6 m6
 have e6:=e6.trans sd6.1
 have m6:=m6.trans (congrArg (fun t=>NetM.mk (upd (upd N4.s 2 tD2) 3 t) N4.t N4.pk) sd6.2)
 rw[m6] at I6
 refine ⟨_,_,_,_,_,e1,m1,e2,m2,e3,m3,I3,by rw[h4];exact e5,by rw[h4];exact m5,e6,m6,I6,fun i hi=> ?_⟩
 obtain ⟨_,s7,_⟩:=I6.met
 rw[s7 i hi]
 show ac (ac (ac (upd (upd N4.s 2 tD2) 3 tE3 0) (upd (upd N4.s 2 tD2) 3 tE3 1)) (upd (upd N4.s 2 tD2) 3 tE3 2)) (upd (upd N4.s 2 tD2) 3 tE3 3)=tRR
 rw[show upd (upd N4.s 2 tD2) 3 tE3 0=tMM from a4 0 (by omega),show upd (upd N4.s 2 tD2) 3 tE3 1=tMM from a4 1 (by omega),show upd (upd N4.s 2 tD2) 3 tE3 2=tD2 from rfl,show upd (upd N4.s 2 tD2) 3 tE3 3=tE3 from rfl]
 exact sd7

theorem gE {α : Type} {enc: α → List Value} {k:Nat} (hk:∀x,(enc x).length=k) {W:World} {n:Nat} (hn:W.heap.size=n) (l:List α) (T:TypeId) (cs:Array Value) (hcs:cs.toList=aJ enc l):ax enc k (W.alloc (H cs T)) (some ⟨n,0,none⟩) l:=by
 subst hn
 refine oR ⟨W.heap.size,0,rfl,by simp,fun j hj i hi=> ?_⟩
 have hg:=iI hk l j hj i hi
 obtain ⟨v,hv⟩:∃v,(enc l[j])[i]? = some v:=⟨(enc l[j])[i]'(by rw[hk];exact hi),List.getElem?_eq_getElem _⟩
 rw[Nat.zero_add]
 refine ((Cls.new W cs T).cell (v:=v) ?_).trans hv.symm
 rw[hcs,hg]
 exact hv
theorem vp.ok {x:List UInt8} {N:NetM} {y:Hap} {Q Q':Nat→List (List Stp)} {er:Int} (h:vp x N y Q er Q') (hk:y.k≠5):er=aX N y∧Q'=Q:=by
 rcases h with h|h
 ·exact ⟨h.2.1,h.2.2⟩
 ·exact absurd h.1 hk
def sdH:List (Hap×List UInt8):=[(cI 0 3 0 4,[]),(cI 1 3 1 5,[]),(cI 1 7 0 1,[])]
theorem jU (w:World) (hr:Reads w):Calls O 15 #[] w fun e w'=>e= J (B true)∧Below w.heap.size w w':=by
 obtain ⟨N1,N2,N3,N5,N6,e1,m1,e2,m2,e3,m3,i3,e5,m5,e6,m6,i6,hR⟩:=Ag
 have hN:Hid _:=gB w
 have hP1:Hid (∀W,Calls O 20 #[S I 0,S I 3,S I 0,S I 4] W fun e w'=>e= J (F #[S I 1,S I 0,S I 0,S I 0,S I 1,S I 0,S I 3,S I 0,S I 4,Z ⟨#[]⟩])∧Gr W w'):=fun W=>ie 0 3 0 4 W
 have hP2:Hid (∀W,Calls O 20 #[S I 1,S I 3,S I 1,S I 5] W fun e w'=>e= J (F #[S I 1,S I 1,S I 0,S I 0,S I 1,S I 0,S I 3,S I 1,S I 5,Z ⟨#[]⟩])∧Gr W w'):=fun W=>ie 1 3 1 5 W
 have hP3:Hid (∀W,Calls O 20 #[S I 1,S I 7,S I 0,S I 1] W fun e w'=>e= J (F #[S I 1,S I 1,S I 0,S I 0,S I 1,S I 0,S I 7,S I 0,S I 1,Z ⟨#[]⟩])∧Gr W w'):=fun W=>ie 1 7 0 1 W
 have hDl:Hid (∀W,Calls O 21 #[S I 2,S I 7] W fun e w'=>e= J (F #[S I 1,S I 2,S I 0,S I 0,S I 2,S I 0,S I 7,S I 0,S I 0,Z ⟨#[]⟩])∧Gr W w'):=fun W=>mj 2 7 W
 have hP4:Hid (∀W,Calls O 20 #[S I 3,S I 7,S I 2,S I 9] W fun e w'=>e= J (F #[S I 1,S I 3,S I 0,S I 0,S I 1,S I 0,S I 7,S I 2,S I 9,Z ⟨#[]⟩])∧Gr W w'):=fun W=>ie 3 7 2 9 W
 have one:Hid (∀ {W:World} {M M':NetM} {Q:Nat→List (List Stp)} (y:Hap),y.k=1→bn w W w.heap.size M Q→aX M y=0→aj M y=M'→Calls O 10 #[K (some ⟨w.heap.size,0,none⟩),F (bY (y,[])).toArray] W fun e w'=>e= J (S I 0)∧bn w w' w.heap.size M' Q∧Wr w.heap.size 0 153 W w'):=by
  intro W M M' Q y hk hL h0 hM
  refine (doL hL hr (y,[]) (nZ _)).mono ?_
  rintro e w' ⟨er,Q',rfl,f1,f2,f3⟩
  obtain ⟨rfl,rfl⟩:=f1.ok (by show y.k≠5;omega)
  rw[←hM]
  exact ⟨by rw[show aX M (y,([]:List UInt8)).1=0 from h0],f2,f3⟩
 have hI3:Hid (NInv 3 N3):=i3
 have hI6:Hid (NInv 5 N6∧∀i,i<4→(cG N6).s i=tRR):=⟨i6,hR⟩
 obtain ⟨sN,hs⟩:∃sN:Nat→NetM,sN 0=aT∧sN 3=N3∧∀k (hk:k<sdH.length),sdH[k].1.k=1∧sdH[k].2=[]∧aX (sN k) sdH[k].1=0∧aj (sN k) sdH[k].1=sN (k+1) :=
  ⟨fun k=>match k with|0=>aT|1=>N1|2=>N2|_=>N3,rfl,rfl,fun k hk=>match k,hk with|0,_=>⟨rfl,rfl,e1,m1⟩|1,_=>⟨rfl,rfl,e2,m2⟩|2,_=>⟨rfl,rfl,e3,m3⟩⟩
 have hE:Hid _:=hs
 have hE5:Hid (aX (cG N3) (cU 2 7)=0∧aj (cG N3) (cU 2 7)=N5):=⟨e5,m5⟩
 have hE6:Hid (aX N5 (cI 3 7 2 9)=0∧aj N5 (cI 3 7 2 9)=N6):=⟨e6,m6⟩
 clear hs e1 m1 e2 m2 e3 m3 i3 e5 m5 e6 m6 i6 hR hr
 go_enter Tryz.func15,Tryz.ntmps15
 go_wp2_with fail
 refine cM (show Calls _ _ _ _ _ from hN.out) ?_
 rintro e w1 ⟨rfl,f1,f2⟩
 have hI1:Hid (bn w w1 w.heap.size aT (fun _=>[])):=bn.new (bR _ _) f1 f2
 clear f1 f2 hN
 go_wp2_with fail
 refine cM (hP1.out _) ?_
 rintro e w2 ⟨rfl,g2⟩
 have hg2:Hid (Gr w1 w2):=g2
 clear g2 hP1
 go_wp2_with fail
 refine cM (hP2.out _) ?_
 rintro e w3 ⟨rfl,g3⟩
 have hg3:Hid (Gr w1 w3):=hg2.out.trans g3
 clear g3 hP2 hg2
 go_wp2_with fail
 refine cM (hP3.out _) ?_
 rintro e w4 ⟨rfl,g4⟩
 have hg4:Hid (Gr w1 w4):=hg3.out.trans g4
 clear g4 hP3 hg3
 obtain ⟨w5,hw5⟩:∃W,w4.alloc (H #[S I 1,S I 0,S I 0,S I 0,S I 1,S I 0,S I 3,S I 0,S I 4,Z ⟨#[]⟩,S I 1,S I 1,S I 0,S I 0,S I 1,S I 0,S I 3,S I 1,S I 5,Z ⟨#[]⟩,S I 1,S I 1,S I 0,S I 0,S I 1,S I 0,S I 7,S I 0,S I 1,Z ⟨#[]⟩] 30)=W:=⟨_,rfl⟩
 have hI:Hid (bn w w5 w.heap.size (sN 0) (fun _=>[])∧Cls w5 w4.heap.size (aJ bY sdH)∧w.heap.size<w4.heap.size):=by
  have hg:=hg4.out.below
  have hg5:Gr w4 w5:=by rw[←hw5];exact (gR w4).alloc _
  obtain ⟨⟨P,hP,_⟩,_⟩:=hI1.out
  rw[hE.out.1]
  exact ⟨(hI1.out.below hg).below hg5.below,by rw[←hw5];exact Cls.new w4 _ _,nL hP.lt hg.size⟩
 clear hg4 hI1
 go_wp2
 try rw[hw5]
 clear hw5
 go_loopw [15] (fun v15 wr=>∃k:Nat,k≤3∧v15= S I k∧Hid (bn w wr w.heap.size (sN k) (fun _=>[])∧Cls wr w4.heap.size (aJ bY sdH)∧w.heap.size<w4.heap.size)) (fun v15 _=>3-(intOf v15).toNat)
 case atStart=>exact ⟨0,by omega,rfl,hI⟩
 clear hI
 rename World=>wr
 obtain ⟨k,hk,rfl,hI⟩:=hrel
 by_cases hk3:k<3
 ·have hkz:(k:Int)<3:=by omega
  obtain ⟨h1,h2,h3,h4⟩:=hE.out.2.2 k hk3
  obtain ⟨y,hy⟩:∃y,sdH[k]'hk3=(y,[]):=⟨(sdH[k]'hk3).1,by rw[←h2]⟩
  rw[hy] at h1 h3 h4
  have hf:=iI jE sdH k hk3
  rw[hy] at hf
  have c0:=hI.out.2.1.cell (j:=k*10+0) (hf 0 (by omega))
  have c1:=hI.out.2.1.cell (j:=k*10+1) (hf 1 (by omega))
  have c2:=hI.out.2.1.cell (j:=k*10+2) (hf 2 (by omega))
  have c3:=hI.out.2.1.cell (j:=k*10+3) (hf 3 (by omega))
  have c4:=hI.out.2.1.cell (j:=k*10+4) (hf 4 (by omega))
  have c5:=hI.out.2.1.cell (j:=k*10+5) (hf 5 (by omega))
  have c6:=hI.out.2.1.cell (j:=k*10+6) (hf 6 (by omega))
  have c7:=hI.out.2.1.cell (j:=k*10+7) (hf 7 (by omega))
  have c8:=hI.out.2.1.cell (j:=k*10+8) (hf 8 (by omega))
  have c9:=hI.out.2.1.cell (j:=k*10+9) (hf 9 (by omega))
  rw[Nat.add_zero] at c0
  go_upto_region 5 with fail
  obtain ⟨wb,hwb⟩:∃W,wr.alloc (H #[S I y.k,S I y.a,S I y.b,S I y.n,S I y.e1,S I y.e2,S I y.e3,S I y.e4,S I y.e5,Z ⟨#[]⟩] 30)=W:=⟨_,rfl⟩
  have hgb:Gr wr wb:=by rw[←hwb];exact (gR _).alloc _
  have hBx:Cls wb wr.heap.size [S I y.k,S I y.a,S I y.b,S I y.n,S I y.e1,S I y.e2,S I y.e3,S I y.e4,S I y.e5,Z ⟨#[]⟩]:=by rw[←hwb];exact Cls.new _ _ _
  obtain ⟨b0,b1,b2,b3,b4,b5,b6,b7,b8,b9⟩:=kP hBx
  have hD:Hid _:=one.out y h1 (hI.out.1.below hgb.below) h3 h4
  have hSb:Hid (Cls wb w4.heap.size (aJ bY sdH)∧w.heap.size<w4.heap.size):=⟨hI.out.2.1.gr hgb,hI.out.2.2⟩
  rw[hwb]
  clear hgb hBx hf hy h1 h2 h3 h4 hI hwb c0 c1 c2 c3 c4 c5 c6 c7 c8 c9
  go_wp2_with fail
  refine cM (show Calls _ _ _ _ _ from hD.out) ?_
  rintro e wd ⟨rfl,f1,f2⟩
  have hF:Hid (bn w wd w.heap.size (sN (k+1)) (fun _=>[])∧Cls wd w4.heap.size (aJ bY sdH)∧w.heap.size<w4.heap.size):=⟨f1,hSb.out.1.keep (f2.oth _ hSb.out.1.lt (by have:=hSb.out.2;omega)),hSb.out.2⟩
  clear f1 f2 hD hSb b0 b1 b2 b3 b4 b5 b6 b7 b8 b9
  go_wp2
  go_roundw
  case rel=>exact ⟨k+1,by omega,by go_num,hF⟩
  case measure=>simp[intOf];omega
 have hkz:¬(k:Int)<3:=by omega
 obtain rfl:k=3:=by omega
 rw[hE.out.2.1] at hI
 have hM1:Hid _:=ot hI.out.1 hI3.out
 go_wp2_with fail
 refine cM (show Calls _ _ _ _ _ from hM1.out) ?_
 rintro e w6 ⟨rfl,f1,f2⟩
 have hJ:Hid (bn w w6 w.heap.size (cG N3) (fun _=>[])):=f1
 clear f1 f2 hM1 hI
 go_wp2_with fail
 refine cM (hDl.out _) ?_
 rintro e w7 ⟨rfl,g7⟩
 have hD:Hid _:=one.out (cU 2 7) rfl (hJ.out.below g7.below) hE5.out.1 hE5.out.2
 clear g7 hDl hJ
 go_wp2_with fail
 refine cM (show Calls _ _ _ _ _ from hD.out) ?_
 rintro e w8 ⟨rfl,f1,f2⟩
 have hJ:Hid (bn w w8 w.heap.size N5 (fun _=>[])):=f1
 clear f1 f2 hD
 go_wp2_with fail
 refine cM (hP4.out _) ?_
 rintro e w9 ⟨rfl,g9⟩
 have hD:Hid _:=one.out (cI 3 7 2 9) rfl (hJ.out.below g9.below) hE6.out.1 hE6.out.2
 clear g9 hP4 hJ
 go_wp2_with fail
 refine cM (show Calls _ _ _ _ _ from hD.out) ?_
 rintro e w10 ⟨rfl,f1,f2⟩
 have hJ:Hid (bn w w10 w.heap.size N6 (fun _=>[])):=f1
 clear f1 f2 hD
 have hM1:Hid _:=ot hJ.out hI6.out.1
 go_wp2_with fail
 refine cM (show Calls _ _ _ _ _ from hM1.out) ?_
 rintro e w11 ⟨rfl,f1,f2⟩
 have hK:Hid (bn w w11 w.heap.size (cG N6) (fun _=>[])):=f1
 clear f1 f2 hM1 hJ
 go_wp2
 go_loopw [44] (fun v44 wr=>∃i:Nat,i≤4∧v44= S I i∧Hid (bn w wr w.heap.size (cG N6) (fun _=>[]))) (fun v44 _=>4-(intOf v44).toNat)
 case atStart=>exact ⟨0,by omega,rfl,hK⟩
 case round =>
  obtain ⟨i,hi,rfl,hJ⟩:=hrel
  by_cases hi4:i<4
  rotate_left
  ·have hz:¬(i:Int)<4:=by omega
   go_wp2
   go_ret
   exact ⟨rfl,hJ.out.2.1⟩
  have hiz:(i:Int)<4:=by omega
  have t0:Calls O 13 #[K (some ⟨w.heap.size,0,none⟩),S I i,S I 0] wr fun e w'=>∃v,e= J (.tuple #[v,S I 0])∧TbV wr.heap.size w' v tRR∧Below wr.heap.size wr w':=by
   obtain ⟨⟨P,hP,_⟩,_⟩:=hJ.out
   have:=gI hP i hi4
   rwa [hI6.out.2 i hi4] at this
  have hT0:Hid _:=t0
  clear t0
  go_wp2_with fail
  refine cM (show Calls _ _ _ _ _ from hT0.out) ?_
  rintro e w2 ⟨v,rfl,⟨A,ca,D,cd,rfl,f1⟩,f2⟩
  obtain ⟨w3,hw3⟩:∃W,w2.alloc (H #[S I tRR.c.c0,S I tRR.c.c1,S I tRR.c.c2,S I tRR.c.c3,E A tRR.c.l.length ca,E D tRR.e.length cd] 41)=W:=⟨_,rfl⟩
  have hg3:Gr w2 w3:=by rw[←hw3];exact (gR w2).alloc _
  have hBx:Cls w3 w2.heap.size (T6 tRR A ca D cd):=by rw[←hw3];exact Cls.new w2 _ _
  obtain ⟨b0,b1,b2,b3,b4,b5⟩:=fh hBx
  have o0:=A7 tRR A ca D cd w3 (by decide) (by decide) (f1.row.gr hg3) (f1.cel.gr hg3)
  rw[sd8.1,sd8.2] at o0
  have hO:Hid _:=o0
  have hB3:Hid (bn w w3 w.heap.size (cG N6) (fun _=>[])):=(hJ.out.below f2).below hg3.below
  clear o0 f1 f2 hg3 hBx hT0 hJ
  go_wp2_with fail
  try rw[hw3]
  clear hw3
  refine cM (show Calls _ _ _ _ _ from hO.out) ?_
  rintro e w4 ⟨L,C,c,rfl,g1,g2,g3,g4⟩
  obtain ⟨W,hW⟩:∃W,((w4.alloc (H #[S I 3,S I 4,S I 5,S I 0] 3)).alloc (H #[S I 7,S I 0,S I 0,S I 9] 3)).alloc (H #[E (some ⟨w4.heap.size,0,none⟩) 4 4,S I 1,E (some ⟨w4.heap.size+1,0,none⟩) 4 4,S I 1] 96)=W:=⟨_,rfl⟩
  have hgW:Gr w4 W:=by rw[←hW];exact (((gR w4).alloc _).alloc _).alloc _
  have hS:Hid (Calls O 36 #[E C L.length c,E (some ⟨w4.heap.size+2,0,none⟩) 2 2] W fun e w'=>e= J (B true)∧Gr W w'):=by
   have h2:ax aP 2 W (some ⟨w4.heap.size+2,0,none⟩) [⟨some ⟨w4.heap.size,0,none⟩,4,[3,4,5,0],1⟩,⟨some ⟨w4.heap.size+1,0,none⟩,4,[7,0,0,9],1⟩]:=by rw[←hW];exact gE bQ (by simp) _ _ _ rfl
   have r1:ar W (some ⟨w4.heap.size,0,none⟩) [3,4,5,0]:=by rw[←hW];exact ((gE (enc:=eT) (k:=1) bX (W:=w4) rfl [3,4,5,0] 3 _ rfl).gr ((gR _).alloc _)).gr ((gR _).alloc _)
   have r2:ar W (some ⟨w4.heap.size+1,0,none⟩) [7,0,0,9]:=by rw[←hW];exact (gE (enc:=eT) (k:=1) bX (W:=w4.alloc (H #[S I 3,S I 4,S I 5,S I 0] 3)) (by simp) [7,0,0,9] 3 _ rfl).gr ((gR _).alloc _)
   have hl:L.length≤maxLen:=by
    have:=congrArg List.length g1
    rw[List.length_map] at this
    rw[this]
    decide
   have hs:=uP L [⟨some ⟨w4.heap.size,0,none⟩,4,[3,4,5,0],1⟩,⟨some ⟨w4.heap.size+1,0,none⟩,4,[7,0,0,9],1⟩] C (some ⟨w4.heap.size+2,0,none⟩) c 2 W hl (g2.gr hgW) ⟨h2,fun x hx=>by
    rcases List.mem_cons.1 hx with rfl|hx
    ·exact ⟨r1,(show (4:Nat)≤maxLen by decide),fun h=>by cases h⟩
    ·rw[List.mem_singleton.1 hx]
     exact ⟨r2,(show (4:Nat)≤maxLen by decide),fun h=>by cases h⟩⟩
   rw[g1] at hs
   exact hs
  have hB4:Hid (bn w W w.heap.size (cG N6) (fun _=>[])):=(hB3.out.below g4).below hgW.below
  clear g1 g2 g3 g4 hgW hO hB3
  go_wp2_with fail
  try rw[hW]
  clear hW
  refine cM (show Calls _ _ _ _ _ from hS.out) ?_
  rintro e w5 ⟨rfl,g5⟩
  have hB5:Hid (bn w w5 w.heap.size (cG N6) (fun _=>[])):=hB4.out.below g5.below
  clear g5 hS hB4
  go_wp2
  go_roundw
  case rel=>exact ⟨i+1,by omega,by go_num,hB5⟩
  case measure=>simp[intOf];omega

structure TwN (w wr:World) (X Y:Nat) (M:NetM) (Q:Nat→List (List Stp)) (M':NetM) (Q':Nat→List (List Stp)):Prop where
 ex:∃P P',NetP wr X P M Q∧NetP wr Y P' M' Q'∧¬P Y∧¬P' X
 bel:Below w.heap.size w wr
 hX:w.heap.size≤X
 hY:w.heap.size≤Y
 ne:X≠Y
section
variable {w wr w':World} {X Y:Nat} {M M' N:NetM} {Q Q' R:Nat→List (List Stp)}
theorem TwN.swap (h:TwN w wr X Y M Q M' Q'):TwN w wr Y X M' Q' M Q:=by
 obtain ⟨P,P',h1,h2,h3,h4⟩:=h.ex
 exact ⟨⟨P',P,h2,h1,h4,h3⟩,h.bel,h.hY,h.hX,h.ne.symm⟩
theorem TwN.below (h:TwN w wr X Y M Q M' Q') (k:Below wr.heap.size wr w'):TwN w w' X Y M Q M' Q':=by
 obtain ⟨P,P',h1,h2,h3,h4⟩:=h.ex
 exact ⟨⟨P,P',h1.below k,h2.below k,h3,h4⟩,h.bel.trans (k.mono h.bel.size),h.hX,h.hY,h.ne⟩
theorem TwN.step (h:TwN w wr X Y M Q M' Q') (k:∀P,NetP wr X P M Q→bA wr X P w' N R):TwN w w' X Y N R M' Q'∧Wr X 0 153 wr w':=by
 obtain ⟨P,P',h1,h2,h3,h4⟩:=h.ex
 obtain ⟨⟨P2,k1,k2⟩,k3⟩:=k P h1
 have hY:=h2.lt
 refine ⟨⟨⟨P2,P',k1,h2.keep (k3.oth Y hY h.ne.symm) (k3.agr h4),fun hp=>(k2 Y hp).elim h3 fun h=>by omega,h4⟩,Wr.after h.bel k3 h.hX,h.hX,h.hY,h.ne⟩,k3⟩
theorem TwN.of {w1:World} (h:bn w w1 X M Q) (k:bn w1 wr Y M' Q'):TwN w wr X Y M Q M' Q':=by
 obtain ⟨⟨P,h1,h2⟩,h3,h4⟩:=h
 obtain ⟨⟨P',k1,k2⟩,k3,k4⟩:=k
 have hX:=h1.lt
 exact ⟨⟨P,P',h1.below k3,k1,fun hp=>by have:=h1.up Y hp;omega,fun hp=>by have:=k2 X hp;omega⟩,h3.trans (k3.mono h3.size),h4,nT h3.size k4,by omega⟩
theorem rB (h:TwN w wr X Y M Q M' Q') (hr:Reads w) (y:Hap×List UInt8) (hx:y.2.length≤maxLen) :
  Calls O 10 #[K (some ⟨X,0,none⟩),F (bY y).toArray] wr fun e w'=>∃er R,e= J (S I er)∧vp y.2 M y.1 Q er R∧TwN w w' X Y (aj M y.1) R M' Q'∧Wr X 0 153 wr w':=by
 obtain ⟨P,P',h1,h2,h3,h4⟩:=h.ex
 refine (sQ h1 (hr.below h.bel) y.2 hx y.1).mono ?_
 rintro e w' ⟨er,R,rfl,f1,f2⟩
 obtain ⟨⟨P2,k1,k2⟩,k3⟩:=f2
 have hY:=h2.lt
 exact ⟨er,R,rfl,f1,⟨⟨P2,P',k1,h2.keep (k3.oth Y hY h.ne.symm) (k3.agr h4),fun hp=>(k2 Y hp).elim h3 fun h=>by omega,h4⟩,Wr.after h.bel k3 h.hX,h.hX,h.hY,h.ne⟩,k3⟩
theorem mF (h:TwN w wr X Y M Q M' Q'):Calls O 11 #[K (some ⟨X,0,none⟩)] wr fun e w'=>e= J (S I (M.pk.length:Int))∧w'=wr:=by
 obtain ⟨P,P',h1,_⟩:=h.ex
 exact kZ h1
theorem qX (h:TwN w wr X Y M Q M' Q') (i:Nat) (hi:i<4):(Calls O 17 #[K (some ⟨X,0,none⟩),S I i] wr fun e w'=>∃v,e= J (.tuple #[v,B true])∧PkW wr.heap.size w' v (M.s i) (M.t i)∧Below wr.heap.size wr w')∧al (M.s i)=0∧al (M.t i)=0:=by
 obtain ⟨P,P',h1,_⟩:=h.ex
 exact ⟨uW h1 i hi,(h1.nd i hi).ts.ok,(h1.nd i hi).tt.ok⟩
end
def cF (n:Int):Hap:=⟨4,0,0,n,0,0,0,0,0⟩
theorem zT (N:NetM) (y:Hap):(aj N y).pk.length≤N.pk.length+1:=by
 unfold aj
 split
 ·split
  ·exact Nat.le_succ _
  ·exact Nat.le_succ _
 ·split
  ·split
   ·show (N.pk++_).length≤_;simp
   ·exact Nat.le_succ _
  ·split
   ·split
    ·unfold lQ
     split
     ·show (N.pk++_).length≤_;simp
     ·exact Nat.le_succ _
    ·exact Nat.le_succ _
   ·split
    ·split
     ·split
      ·exact Nat.le_succ _
      ·exact Nat.le_succ _
     ·exact Nat.le_succ _
    ·exact Nat.le_succ _
theorem lB:∀(l:List Hap) (N:NetM),(l.foldl aj N).pk.length≤N.pk.length+l.length
 | [],_=>nR _
 | y::l,N=>by
  have h1:=lB l (aj N y)
  have h2:=zT N y
  simp only[List.foldl_cons,List.length_cons]
  omega
theorem jT (n:Int) (m:Nat) (w:World) (hm:0<m∧m≤1000000):Calls O 12 #[S I n,S I m] w fun e w'=>(∃r:Nat,e= J (S I r)∧r<m)∧w'=w:=by
 have hm0:(m:Int)≠0:=by omega
 have h1:=Int.tmod_lt_of_pos n (b:=(m:Int)) (by omega)
 have h2: -(m:Int)<n.tmod m:=by
  have:=Int.tmod_lt_of_pos (-n) (b:=(m:Int)) (by omega)
  rw[Int.neg_tmod] at this
  omega
 by_cases h:n.tmod m<0
 ·obtain ⟨r,hr⟩:∃r:Nat,n.tmod m+m=r:=⟨(n.tmod m+m).toNat,by omega⟩
  have hrm:r<m:=by omega
  go_enter Tryz.func12,Tryz.ntmps12
  go_wp2
  go_ret
  exact ⟨⟨r,rfl,hrm⟩,rfl⟩
 ·obtain ⟨r,hr⟩:∃r:Nat,n.tmod m=r:=⟨(n.tmod m).toNat,by omega⟩
  go_enter Tryz.func12,Tryz.ntmps12
  go_wp2
  go_ret
  exact ⟨⟨r,rfl,by omega⟩,rfl⟩
end Go.Proofs.YtclfpkibchoneaaGreatDoor
