/-
  Sets with weights: rows in order, how often each is there; two sets in which each row is as often are one.
  What zset.total's loops keep: rows in order, summed up one after another.
  The library's slices.SortFunc at items: where its functions and types stand in this program.
  slices.SortFunc at items: by their rows.
  slices.Grow of nothing, and slices.Concat, at items.
  zset.Check: it says what is wrong with a set.
-/
import Derived.Test.YtckeonpnfankhaaGreatDoorM04
import Derived.Lib.AppendZeros
set_option maxRecDepth 100000
set_option maxHeartbeats 8000000
namespace Go.Proofs.YtckeonpnfankhaaGreatDoor

theorem dd (x y:Int):(bg x y= -1∧x<y)∨(bg x y=0∧x=y)∨(bg x y=1∧y<x):=by
 unfold bg
 by_cases h:x<y
 ·rw[if_pos h];exact oL ⟨rfl,h⟩
 ·rw[if_neg h]
  by_cases k:y<x
  ·rw[if_pos k];exact oR (oR ⟨rfl,k⟩)
  ·rw[if_neg k];exact oR (oL ⟨rfl,by omega⟩)
theorem dI:∀a b:List Int,aB b a= -aB a b
 | [],[]=>rfl
 | [],_::_=>rfl
 | _::_,[]=>rfl
 | x::a,y::b=>by
  have h1:=dd x y
  have h2:=dd y x
  show (if bg y x=0 then aB b a else bg y x)= -(if bg x y=0 then aB a b else bg x y)
  by_cases e:x=y
  ·subst e
   have:bg x x=0:=by omega
   rw[if_pos this,if_pos this];exact dI a b
  ·rw[if_neg (by omega),if_neg (by omega)];omega
theorem gQ:∀a:List Int,aB a a=0
 | []=>rfl
 | x::a=>by
  have h1:=dd x x
  show (if bg x x=0 then aB a a else bg x x)=0
  rw[if_pos (by omega)];exact gQ a
theorem jq:∀a b:List Int,aB a b=0→a=b
 | [],[],_=>rfl
 | [],_::_,h=>by cases h
 | _::_,[],h=>by cases h
 | x::a,y::b,h=>by
  have h1:=dd x y
  have h':(if bg x y=0 then aB a b else bg x y)=0:=h
  by_cases e:bg x y=0
  ·rw[if_pos e] at h'
   obtain rfl:x=y:=by omega
   rw[jq a b h']
  ·rw[if_neg e] at h';exact absurd h' e
theorem gf:∀a b c:List Int,aB a b≤0→aB b c≤0→aB a c≤0∧(aB a b<0∨aB b c<0→aB a c<0)
 | [],b,[],h1,h2=>by
  cases b with
  | nil=>exact ⟨by decide,fun h=>by rcases h with h|h<;>cases h⟩
  | cons=>exact absurd h2 (by show ¬((1:Int)≤0);decide)
 | [],_,_::_,_,_=>⟨by show (-1:Int)≤0;decide,fun _=>by show (-1:Int)<0;decide⟩
 | _::_,[],_,h,_=>absurd h (by show ¬((1:Int)≤0);decide)
 | _::_,_::_,[],_,h=>absurd h (by show ¬((1:Int)≤0);decide)
 | x::a,y::b,z::c,h1,h2=>by
  have k1:=dd x y
  have k2:=dd y z
  have k3:=dd x z
  have h1':(if bg x y=0 then aB a b else bg x y)≤0:=h1
  have h2':(if bg y z=0 then aB b c else bg y z)≤0:=h2
  show (if bg x z=0 then aB a c else bg x z)≤0∧((if bg x y=0 then aB a b else bg x y)<0∨(if bg y z=0 then aB b c else bg y z)<0→(if bg x z=0 then aB a c else bg x z)<0)
  by_cases e1:bg x y=0
  ·rw[if_pos e1] at h1' ⊢
   by_cases e2:bg y z=0
   ·rw[if_pos e2] at h2' ⊢
    rw[if_pos (by omega)]
    exact gf a b c h1' h2'
   ·rw[if_neg e2] at h2' ⊢
    rw[if_neg (by omega)]
    exact ⟨by omega,fun _=>by omega⟩
  ·rw[if_neg e1] at h1' ⊢
   have e3:bg y z=0∨bg y z= -1:=by
    by_cases e2:bg y z=0
    ·exact oL e2
    ·rw[if_neg e2] at h2';omega
   rw[if_neg (by omega)]
   exact ⟨by omega,fun _=>by omega⟩
theorem cw {a b c:List Int} (h1:aB a b<0) (h2:aB b c<0):aB a c<0:=(gf a b c (by omega) (by omega)).2 (oL h1)
theorem fe {a b:List Int} (h:aB a b<0):a≠b:=fun e=>by rw[e,gQ] at h;omega

def wt:List Zit→List Int→Int
 | [],_=>0
 | x::t,r=>(if x.1=r then x.2 else 0)+wt t r
theorem ci (a b:List Zit) (r:List Int):wt (a++b) r=wt a r+wt b r:=by
 induction a with
 | nil=>simp[wt]
 | cons x a ih=>simp only[List.cons_append,wt,ih];omega
theorem ri {a b:List Zit} (h:a.Perm b) (r:List Int):wt a r=wt b r:=by
 induction h with
 | nil=>rfl
 | cons x _ ih=>simp only[wt,ih]
 | swap x y l=>simp only[wt];omega
 | trans _ _ h1 h2=>rw[h1,h2]
theorem i8 {l:List Zit} {r:List Int} (h:∀x∈l,x.1≠r):wt l r=0:=by
 induction l with
 | nil=>rfl
 | cons x l ih =>
  simp only[wt]
  rw[if_neg (h x (by simp)),ih fun y hy=>h y (by simp[hy])];rfl
theorem nC {l:List Zit} {r:List Int} (h:wt l r≠0):∃x∈l,x.1=r:=by
 induction l with
 | nil=>exact absurd rfl h
 | cons x l ih =>
  by_cases e:x.1=r
  ·exact ⟨x,by simp,e⟩
  ·simp only[wt] at h
   rw[if_neg e] at h
   obtain ⟨y,hy,hr⟩:=ih (by omega)
   exact ⟨y,by simp[hy],hr⟩
theorem uJ (l:List Zit) (r:List Int):wt (l.map fun x=>(x.1,-x.2)) r= -wt l r:=by
 induction l with
 | nil=>rfl
 | cons x l ih =>
  simp only[List.map_cons,wt,ih]
  by_cases e:x.1=r
  ·rw[if_pos e,if_pos e];omega
  ·rw[if_neg e,if_neg e];omega

def eC (l:List Zit):Prop:=l.Pairwise fun x y=>aB x.1 y.1<0
def NoZ (l:List Zit):Prop:=∀x∈l,x.2≠0
theorem eC.wt {l:List Zit} (h:eC l) {x:Zit} (hx:x∈l):wt l x.1=x.2:=by
 induction l with
 | nil=>cases hx
 | cons y l ih =>
  have h':=List.pairwise_cons.1 h
  simp only[Go.Proofs.YtckeonpnfankhaaGreatDoor.wt]
  rcases List.mem_cons.1 hx with e|e
  ·subst e
   rw[if_pos rfl,i8 fun z hz k=>fe (h'.1 z hz) k.symm];omega
  ·rw[if_neg (fe (h'.1 x e)),ih h'.2 e];omega
theorem my:∀ {a b:List Zit},eC a→eC b→NoZ a→NoZ b→(∀r,wt a r=wt b r)→a=b
 | [],[],_,_,_,_,_=>rfl
 | [],y::b,_,hb,_,nb,h=>by
  have h1:=h y.1
  rw[hb.wt (List.mem_cons_self ..)] at h1
  exact absurd h1.symm (nb y (mS ..))
 | x::a,[],ha,_,na,_,h=>by
  have h1:=h x.1
  rw[ha.wt (List.mem_cons_self ..)] at h1
  exact absurd h1 (na x (mS ..))
 | x::a,y::b,ha,hb,na,nb,h=>by
  have ha':=List.pairwise_cons.1 ha
  have hb':=List.pairwise_cons.1 hb
  have hx:=h x.1
  have hy:=h y.1
  rw[ha.wt (List.mem_cons_self ..)] at hx
  rw[hb.wt (List.mem_cons_self ..)] at hy
  have e:aB x.1 y.1=0:=by
   by_cases l1:aB x.1 y.1<0
   ·exfalso
    refine na x (mS ..) (hx.trans (i8 fun z hz k=> ?_))
    rcases List.mem_cons.1 hz with e|e
    ·subst e;exact fe l1 k.symm
    ·exact fe (cw l1 (hb'.1 z e)) k.symm
   ·by_cases l2:aB y.1 x.1<0
    ·exfalso
     refine nb y (mS ..) (hy.symm.trans (i8 fun z hz k=> ?_))
     rcases List.mem_cons.1 hz with e|e
     ·subst e;exact fe l2 k.symm
     ·exact fe (cw l2 (ha'.1 z e)) k.symm
    ·have:=dI x.1 y.1;omega
  have e1:=jq _ _ e
  have e2:x.2=y.2:=by rw[hx,e1,hb.wt (List.mem_cons_self ..)]
  obtain rfl:x=y:=Prod.ext e1 e2
  rw[my ha'.2 hb'.2 (fun z hz=>na z (List.mem_cons_of_mem _ hz)) (fun z hz=>nb z (List.mem_cons_of_mem _ hz)) fun r=>by
   have:=h r
   simp only[Go.Proofs.YtckeonpnfankhaaGreatDoor.wt] at this
   omega]

theorem gT {l:List Zit} {k:Nat} (h:k<l.length):l.getD k ([],0)=l[k]:=by
 rw[List.getD_eq_getElem?_getD,List.getElem?_eq_getElem h];rfl
theorem bx (l:List Zit):av l=0↔l.length≤400∧(∀x∈l,okZ x=true)∧eC l:=by
 unfold av
 by_cases h4:400<l.length
 ·rw[if_pos h4]
  exact ⟨fun h=>absurd h (by decide),fun h=>absurd h.1 (by omega)⟩
 ·rw[if_neg h4]
  constructor
  ·intro h
   have hall:∀k,k<l.length→okZ (l.getD k ([],0))=true∧jk l k=true:=by
    intro k hk
    have:(okZ (l.getD k ([],0)) && jk l k)=true:=by
     cases e:(okZ (l.getD k ([],0)) && jk l k)
     ·rw[if_pos ⟨k,hk,e⟩] at h;cases h
     ·rfl
    simpa using this
   have hstep:∀k (h:k+1<l.length),aB l[k].1 l[k+1].1<0:=by
    intro k hk
    have:=(hall (k+1) hk).2
    unfold jk at this
    rw[Nat.add_sub_cancel,gT hk,gT (show k<l.length by omega)] at this
    simpa using this
   refine ⟨by omega,?_,?_⟩
   ·intro x hx
    obtain ⟨k,hk,rfl⟩:=List.mem_iff_getElem.1 hx
    have:=(hall k hk).1
    rwa [gT hk] at this
   ·have:∀d i (hi:i+d+1<l.length),aB (l[i]'(by omega)).1 (l[i+d+1]'hi).1<0:=by
     intro d
     induction d with
     | zero=>intro i hi;exact hstep i hi
     | succ d ih=>intro i hi;exact cw (ih i (by omega)) (hstep (i+d+1) hi)
    unfold eC
    rw[List.pairwise_iff_getElem]
    intro i j hi hj hij
    have h':=this (j-i-1) i (by omega)
    have e:i+(j-i-1)+1=j:=by omega
    simpa only[e] using h'
  ·rintro ⟨_,h1,h2⟩
   rw[if_neg]
   rintro ⟨k,hk,hf⟩
   have h3:okZ (l.getD k ([],0))=true:=by rw[gT hk];exact h1 _ (gM hk)
   have h5:jk l k=true:=by
    unfold jk
    by_cases e:k=0
    ·simp[e]
    ·rw[gT hk,gT (show k-1<l.length by omega)]
     have:=(List.pairwise_iff_getElem.1 h2) (k-1) k (by omega) hk (by omega)
     simp[this]
   rw[h3,h5] at hf;cases hf

def nF (l:List Zit):Prop:=∃r,okW (wt l r)=false
structure IsTot (l S:List Zit):Prop where
 rise:eC S
 noz:NoZ S
 same:∀r,wt S r=wt l r
theorem IsTot.uniq {l m S T:List Zit} (h:IsTot l S) (k:IsTot m T) (e:∀r,wt l r=wt m r):S=T:=my h.rise k.rise h.noz k.noz fun r=>by rw[h.same,k.same,e]
theorem ru {l:List Zit} (h:∀x∈l,okZ x=true):NoZ l:=fun x hx=>by
 have:=h x hx
 unfold okZ at this
 simp at this
 exact this.2
theorem IsTot.row {l S:List Zit} (h:IsTot l S) {x:Zit} (hx:x∈S):∃y∈l,y.1=x.1:=nC (by rw[←h.same,h.rise.wt hx];exact h.noz x hx)
theorem IsTot.okZ {l S:List Zit} (h:IsTot l S) (hb:¬nF l) (hr:∀x∈l,okR x.1=true):∀x∈S,okZ x=true:=by
 intro x hx
 obtain ⟨y,hy,e⟩:=h.row hx
 have h1:=hr y hy
 have h2:okW x.2=true:=by
  cases e2:okW x.2
  ·exact absurd ⟨x.1,by rw[←h.same,h.rise.wt hx];exact e2⟩ hb
  ·rfl
 unfold Go.Proofs.YtckeonpnfankhaaGreatDoor.okZ
 rw[←e,h1,h2]
 simp[h.noz x hx]
theorem bH {x:Zit} (h:okZ x=true):okR x.1=true∧okW x.2=true∧x.2≠0:=by
 unfold okZ at h
 simp only[Bool.and_eq_true,decide_eq_true_eq] at h
 exact ⟨h.1.1,h.1.2,h.2⟩
theorem wg (n:Int):okW (-n)=okW n:=by
 unfold okW inB
 rw[Bool.eq_iff_iff]
 simp only[Bool.and_eq_true,decide_eq_true_eq]
 omega
theorem xj {l:List Zit} (h:av l=0):av (l.map fun x=>(x.1,-x.2))=0:=by
 rw[bx] at h ⊢
 refine ⟨by simpa using h.1,?_,?_⟩
 ·intro x hx
  obtain ⟨y,hy,rfl⟩:=List.mem_map.1 hx
  have:=bH (h.2.1 y hy)
  unfold okZ
  simp only[Bool.and_eq_true,decide_eq_true_eq]
  exact ⟨⟨this.1,by rw[wg];exact this.2.1⟩,by omega⟩
 ·unfold eC
  rw[List.pairwise_map]
  exact h.2.2

end Go.Proofs.YtckeonpnfankhaaGreatDoor

namespace Go.Proofs.YtckeonpnfankhaaGreatDoor

def eG (S:List Zit):Prop:=S.Pairwise fun x y=>aB x.1 y.1≤0
structure Upto (S:List Zit) (i:Nat) (L:List Zit):Prop where
 tot:IsTot (S.take i) L
 len:L.length≤i
 part:∀x∈S.take i,∀y∈S.drop i,aB x.1 y.1<0
 good:∀r,okW (wt (S.take i) r)=true
theorem Upto.zero (S:List Zit):Upto S 0 []:=⟨⟨List.Pairwise.nil,fun x hx=>(by cases hx),fun r=>rfl⟩,by simp,fun x hx=>by simp at hx,fun r=>by simp[wt,okW,inB]⟩
theorem Upto.done {S L:List Zit} {i:Nat} (h:Upto S i L) (hi:S.length≤i):IsTot S L∧¬nF S:=by
 have e:S.take i=S:=List.take_of_length_le hi
 refine ⟨by have:=h.tot;rwa [e] at this,?_⟩
 rintro ⟨r,hr⟩
 have:=h.good r
 rw[e,hr] at this;cases this
theorem tC {l:List Zit} (h:∀x∈l,okW x.2=true) (r:List Int): -((l.length:Int)*1048576)≤wt l r∧wt l r≤(l.length:Int)*1048576:=by
 induction l with
 | nil=>simp[wt]
 | cons x l ih =>
  have h1:=ih fun y hy=>h y (mC _ hy)
  have h2:=h x (mS ..)
  simp only[okW,inB,Bool.and_eq_true,decide_eq_true_eq] at h2
  simp only[wt,List.length_cons]
  by_cases e:x.1=r
  ·rw[if_pos e];omega
  ·rw[if_neg e];omega
theorem nD {S:List Zit} {k:Nat} (hk:k<S.length) (r:List Int):wt (S.take (k+1)) r=wt (S.take k) r+if S[k].1=r then S[k].2 else 0:=by
 rw[List.take_succ_eq_append_getElem hk,ci]
 simp[wt]
def Run (S:List Zit) (row:List Int) (i j:Nat):Prop:=∀m (_:m<S.length),i≤m→m<j→S[m].1=row
theorem Run.seg {S:List Zit} {row:List Int} {i j:Nat} (h:Run S row i j):∀x∈(S.take j).drop i,x.1=row:=by
 intro x hx
 obtain ⟨k,hk,rfl⟩:=List.mem_iff_getElem.1 hx
 simp only[List.length_drop,List.length_take] at hk
 rw[List.getElem_drop,List.getElem_take]
 exact h _ (by omega) (by omega) (by omega)
theorem Run.split {S:List Zit} {i j:Nat} (hij:i≤j):S.take j=S.take i++(S.take j).drop i:=by
 conv=>lhs;rw[←List.take_append_drop i (S.take j)]
 rw[List.take_take,Nat.min_eq_left hij]
theorem Run.other {S:List Zit} {row:List Int} {i j:Nat} (h:Run S row i j) (hij:i≤j) {r:List Int} (hr:r≠row):wt (S.take j) r=wt (S.take i) r:=by
 rw[Run.split hij,ci,i8 (l:=(S.take j).drop i) fun x hx e=>hr (by rw[←e];exact h.seg x hx)];omega
theorem Upto.first {S L:List Zit} {i:Nat} (h:Upto S i L) (hi:i<S.length):wt (S.take i) S[i].1=0 :=
 i8 fun x hx e=>fe (h.part x hx S[i] (by rw[List.drop_eq_getElem_cons hi];exact mS ..)) e
theorem after {S:List Zit} {row:List Int} {j:Nat} (hs:eG S) (i:Nat) (hi:i<S.length) (hij:i<j) (hrow:S[i].1=row) (hj:∀(h:j<S.length),aB row S[j].1≠0):∀x∈S.drop j,aB row x.1<0:=by
 intro x hx
 obtain ⟨k,hk,rfl⟩:=List.mem_iff_getElem.1 hx
 simp only[List.length_drop] at hk
 rw[List.getElem_drop]
 have hp:=List.pairwise_iff_getElem.1 hs
 have h1:aB S[i].1 S[j].1≤0:=hp i j hi (by omega) hij
 rw[hrow] at h1
 have h2:=hj (by omega)
 by_cases e:k=0
 ·subst e;simp only[Nat.add_zero];omega
 ·have h3:aB S[j].1 S[j+k].1≤0:=hp j (j+k) (by omega) (by omega) (by omega)
  exact (gf _ _ _ h1 h3).2 (oL (by omega))
theorem wF {S:List Zit} {i j:Nat} (hs:eG S) (hi:i<S.length) (hij:i<j) (hj:∀(h:j<S.length),aB S[i].1 S[j].1≠0) (hb:okW (wt (S.take j) S[i].1)=false):nF S:=by
 refine ⟨S[i].1,?_⟩
 have h1:wt S S[i].1=wt (S.take j) S[i].1:=by
  have h2:=ci (S.take j) (S.drop j) S[i].1
  rw[List.take_append_drop,i8 (l:=S.drop j) fun x hx e=>fe (after hs i hi hij rfl hj x hx) e.symm] at h2;omega
 rw[h1];exact hb
theorem pm {S L:List Zit} {i j:Nat} (hs:eG S) (h:Upto S i L) (hi:i<S.length) (hij:i<j) (hr:Run S S[i].1 i j) (hj:∀(h:j<S.length),aB S[i].1 S[j].1≠0):∀x∈S.take j,∀y∈S.drop j,aB x.1 y.1<0:=by
 intro x hx y hy
 rw[Run.split (Nat.le_of_lt hij)] at hx
 have h1:=after hs i hi hij rfl hj y hy
 rcases List.mem_append.1 hx with e|e
 ·exact cw (h.part x e S[i] (by rw[List.drop_eq_getElem_cons hi];exact mS ..)) h1
 ·rw[hr.seg x e];exact h1
theorem og {S L:List Zit} {i j:Nat} (h:Upto S i L) (hij:i<j) (row:List Int) (hr:Run S row i j) (hw:okW (wt (S.take j) row)=true):∀r,okW (wt (S.take j) r)=true:=by
 intro r
 by_cases e:r=row
 ·rw[e];exact hw
 ·rw[hr.other (Nat.le_of_lt hij) e];exact h.good r
theorem vA {S L:List Zit} {i j:Nat} (hs:eG S) (h:Upto S i L) (hi:i<S.length) (hij:i<j) (hr:Run S S[i].1 i j) (hj:∀(h:j<S.length),aB S[i].1 S[j].1≠0) (hw:wt (S.take j) S[i].1=0):Upto S j L:=by
 refine ⟨⟨h.tot.rise,h.tot.noz,fun r=> ?_⟩,by have:=h.len;omega,pm hs h hi hij hr hj,og h hij _ hr (by rw[hw];decide)⟩
 rw[h.tot.same]
 by_cases e:r=S[i].1
 ·rw[e,hw,h.first hi]
 ·rw[hr.other (Nat.le_of_lt hij) e]
theorem vn {S L:List Zit} {i j:Nat} (hs:eG S) (h:Upto S i L) (hi:i<S.length) (hij:i<j) (hr:Run S S[i].1 i j) (hj:∀(h:j<S.length),aB S[i].1 S[j].1≠0) (hw:okW (wt (S.take j) S[i].1)=true) (h0:wt (S.take j) S[i].1≠0):Upto S j (L++[(S[i].1,wt (S.take j) S[i].1)]):=by
 refine ⟨⟨?_,?_,fun r=> ?_⟩,by have:=h.len;simp;omega,pm hs h hi hij hr hj,og h hij _ hr hw⟩
 ·unfold eC
  rw[List.pairwise_append]
  refine ⟨h.tot.rise,List.pairwise_singleton _ _,fun x hx y hy=> ?_⟩
  obtain rfl:y=_:=by simpa using hy
  obtain ⟨z,hz,e⟩:=h.tot.row hx
  rw[←e]
  exact h.part z hz S[i] (by rw[List.drop_eq_getElem_cons hi];exact mS ..)
 ·intro x hx
  rcases List.mem_append.1 hx with e|e
  ·exact h.tot.noz x e
  ·obtain rfl:x=_:=by simpa using e
   exact h0
 ·rw[ci,h.tot.same]
  simp only[wt]
  by_cases e:r=S[i].1
  ·rw[e,if_pos rfl,h.first hi];omega
  ·rw[if_neg fun k=>e k.symm,hr.other (Nat.le_of_lt hij) e];omega
theorem eG.perm_bad {l S:List Zit} (h:S.Perm l):nF S↔nF l:=by
 unfold nF
 simp only[ri h]
theorem IsTot.perm {l S T:List Zit} (h:S.Perm l) (k:IsTot S T):IsTot l T:=⟨k.rise,k.noz,fun r=>by rw[k.same,ri h]⟩

end Go.Proofs.YtckeonpnfankhaaGreatDoor

namespace Go.Proofs
open Go.Shelf
def Tryz.sortItm_ren:Go.Shelf.Ren:=⟨fun|6=>184|15=>103|14=>209|28=>152|29=>153|20=>228|21=>229|22=>230|23=>231|24=>232|25=>233|26=>234|27=>235|46=>253|47=>191|48=>192|49=>254|50=>255|57=>262|n=>n,fun|22=>58|24=>101|25=>250|3=>3|39=>179|0=>0|53=>227|55=>229|4=>4|46=>221|45=>220|50=>162|5=>5|9=>9|66=>253|70=>164|76=>274|77=>275|n=>n,fun|n=>n⟩
theorem Tryz.sortItm:Go.Proofs.SlLaysF0.n6 Tryz.prog Tryz.sortItm_ren:={
 mixed:=by kernel_rfl
 f6:=⟨Tryz.f184.name,by decide,Tryz.func184.trans (congrArg some (by kernel_rfl))⟩
 f14:=⟨Tryz.f209.name,by decide,Tryz.func209.trans (congrArg some (by kernel_rfl))⟩
 f15:=Tryz.func103.trans (congrArg some (by kernel_rfl))
 f20:=⟨Tryz.f228.name,by decide,Tryz.func228.trans (congrArg some (by kernel_rfl))⟩
 f21:=⟨Tryz.f229.name,by decide,Tryz.func229.trans (congrArg some (by kernel_rfl))⟩
 f22:=⟨Tryz.f230.name,by decide,Tryz.func230.trans (congrArg some (by kernel_rfl))⟩
 f23:=⟨Tryz.f231.name,by decide,Tryz.func231.trans (congrArg some (by kernel_rfl))⟩
 f24:=⟨Tryz.f232.name,by decide,Tryz.func232.trans (congrArg some (by kernel_rfl))⟩
 f25:=⟨Tryz.f233.name,by decide,Tryz.func233.trans (congrArg some (by kernel_rfl))⟩
 f26:=⟨Tryz.f234.name,by decide,Tryz.func234.trans (congrArg some (by kernel_rfl))⟩
 f27:=⟨Tryz.f235.name,by decide,Tryz.func235.trans (congrArg some (by kernel_rfl))⟩
 f28:=Tryz.func152.trans (congrArg some (by kernel_rfl))
 f29:=Tryz.func153.trans (congrArg some (by kernel_rfl))
 f46:=⟨Tryz.f253.name,by decide,Tryz.func253.trans (congrArg some (by kernel_rfl))⟩
 f47:=Tryz.func191.trans (congrArg some (by kernel_rfl))
 f48:=Tryz.func192.trans (congrArg some (by kernel_rfl))
 f49:=⟨Tryz.f254.name,by decide,Tryz.func254.trans (congrArg some (by kernel_rfl))⟩
 f50:=⟨Tryz.f255.name,by decide,Tryz.func255.trans (congrArg some (by kernel_rfl))⟩
 f57:=⟨Tryz.f262.name,by decide,Tryz.func262.trans (congrArg some (by kernel_rfl))⟩
 t0:=Tryz.underlying0
 a0:=Tryz.isAgg0
 z0:=Tryz.sizeOf0
 v0:=Tryz.zeroValue0
 t3:=Tryz.underlying3
 a3:=Tryz.isAgg3
 z3:=Tryz.sizeOf3
 v3:=Tryz.zeroValue3
 t4:=Tryz.underlying4
 a4:=Tryz.isAgg4
 z4:=Tryz.sizeOf4
 v4:=Tryz.zeroValue4
 t5:=Tryz.underlying5
 a5:=Tryz.isAgg5
 z5:=Tryz.sizeOf5
 v5:=Tryz.zeroValue5
 t9:=Tryz.underlying9
 a9:=Tryz.isAgg9
 z9:=Tryz.sizeOf9
 v9:=Tryz.zeroValue9
 t22:=Tryz.underlying58
 a22:=Tryz.isAgg58
 z22:=Tryz.sizeOf58
 v22:=Tryz.zeroValue58
 t25:=Tryz.underlying250
 a25:=Tryz.isAgg250
 z25:=Tryz.sizeOf250
 v25:=Tryz.zeroValue250
 t39:=Tryz.underlying179
 a39:=Tryz.isAgg179
 z39:=Tryz.sizeOf179
 v39:=Tryz.zeroValue179
 t45:=Tryz.underlying220
 a45:=Tryz.isAgg220
 z45:=Tryz.sizeOf220
 v45:=Tryz.zeroValue220
 t46:=Tryz.underlying221
 a46:=Tryz.isAgg221
 z46:=Tryz.sizeOf221
 v46:=Tryz.zeroValue221
 t50:=Tryz.underlying162
 a50:=Tryz.isAgg162
 z50:=Tryz.sizeOf162
 v50:=Tryz.zeroValue162
 t53:=Tryz.underlying227
 a53:=Tryz.isAgg227
 z53:=Tryz.sizeOf227
 v53:=Tryz.zeroValue227
 t55:=Tryz.underlying229
 a55:=Tryz.isAgg229
 z55:=Tryz.sizeOf229
 v55:=Tryz.zeroValue229
 t66:=Tryz.underlying253
 a66:=Tryz.isAgg253
 z66:=Tryz.sizeOf253
 v66:=Tryz.zeroValue253
 t70:=Tryz.underlying164
 a70:=Tryz.isAgg164
 z70:=Tryz.sizeOf164
 v70:=Tryz.zeroValue164
 t76:=Tryz.underlying274
 a76:=Tryz.isAgg274
 z76:=Tryz.sizeOf274
 v76:=Tryz.zeroValue274
 t77:=Tryz.underlying275
 a77:=Tryz.isAgg275
 z77:=Tryz.sizeOf275
 v77:=Tryz.zeroValue275 }
end Go.Proofs

namespace Go.Proofs.YtckeonpnfankhaaGreatDoor
open Go.RowKit Go.Sort Go.Shelf Go.Lib

abbrev InT (l:List Itm):={x:Itm // x∈l}
def kQ (l:List Itm) (x:InT l):List Value:=aI x.1
def wQ (l:List Itm) (x y:InT l):Int:=aB x.1.r y.1.r
theorem xk (l:List Itm) (x y:InT l):ltOf (wQ l) x y=decide (aB x.1.r y.1.r<0):=rfl
theorem yL (l:List Itm):SWO (ltOf (wQ l)) where
 irrefl x:=by rw[xk,gQ];rfl
 trans x y z h1 h2:=by
  rw[xk,decide_eq_true_eq] at *
  exact cw h1 h2
 ntrans x y z h1 h2:=by
  rw[xk,decide_eq_false_iff_not] at *
  have e1:=dI x.1.r y.1.r
  have e2:=dI y.1.r z.1.r
  have e3:=dI x.1.r z.1.r
  have:=(gf z.1.r y.1.r x.1.r (by omega) (by omega)).1
  omega

theorem kh {α : Type} [Inhabited α] {enc: α → List Value} {w:World} {g n b:Nat} {os:Array Obj} {d:Array α} (hb:b<w.heap.size) (hne:b≠g):(sortWorldK enc 2 w g 0 n d os).heap[b]? = w.heap[b]? := by
 show ((putRowK enc 2 (Sort.ahead w n) g 0 d).heap++os)[b]? = _
 rw[Array.getElem?_append_left (by simp[putRowK];exact hb)]
 show ((Sort.ahead w n).heap.modify g _)[b]? = _
 rw[Array.getElem?_modify,if_neg (by omega)]
 rfl
theorem iH {α : Type} [Inhabited α] {enc: α → List Value} {w:World} {g n:Nat} {os:Array Obj} {d:Array α}:w.heap.size≤(sortWorldK enc 2 w g 0 n d os).heap.size:=by simp[sortWorldK,grow,putRowK]
theorem iy {α : Type} [Inhabited α] {enc: α → List Value} {w:World} {g n:Nat} {os:Array Obj} {d:Array α} {p:Option Addr} {r:List Int} (h:ay w p r) (hne:∀a,p=some a→r≠[]→a.block≠g):ay (sortWorldK enc 2 w g 0 n d os) p r:=by
 rcases h with k|⟨b,off,hp,hb,hc⟩
 ·exact oL k
 by_cases hr:r=[]
 ·exact oL hr
 ·refine oR ⟨b,off,hp,nL hb iH,fun j hj i hi=> ?_⟩
  rw[World.cell?_of_block (a:=⟨b,off+j*1+i,none⟩) (kh hb (hne ⟨b,off,none⟩ hp hr))]
  exact hc j hj i hi
theorem o9 {α : Type} [Inhabited α] {enc: α → List Value} {w:World} {g n base:Nat} {os:Array Obj} {d:Array α} (hb:base≤g) (hs:base≤w.heap.size):Go.RowKit.Below base w (sortWorldK enc 2 w g 0 n d os) :=
 ⟨rfl,rfl,rfl,iH,fun k hk=>kh (by omega) (by omega)⟩
theorem qb (l:List Itm):l.attach.map Subtype.val=l:=by simp
theorem uo {w:World} {g:Nat} {l:List Itm} [Inhabited (InT l)] (h:ax aI 2 w (some ⟨g,0,none⟩) l) (hf:∀j,w.frozen? ⟨g,j,none⟩=false):HoldsK (kQ l) 2 w g 0 l.attach.toArray:=by
 intro t ht
 rw[size_flatK] at ht
 rw[get_flatK _ _ _ t ht]
 simp only[List.size_toArray,List.length_attach] at ht
 have hk:t / 2<l.length:=by omega
 refine ⟨?_,hf _⟩
 obtain ⟨b,off,hA,hb,hc⟩:=h.at hk
 obtain ⟨rfl,rfl⟩:g=b∧0=off:=by injection hA with hA;injection hA with h1 h2;exact ⟨h1,h2⟩
 have hk':t / 2<l.attach.toArray.size:=by simpa using hk
 have e:(l.attach.toArray[t / 2]!).1=l[t / 2]:=by rw[getElem!_pos l.attach.toArray (t / 2) hk'];simp
 have:=hc (t / 2) hk (t % 2) (Nat.mod_lt _ (by omega))
 rw[show 0+t / 2*2+t % 2=0+t from by omega] at this
 rw[this]
 unfold kQ
 rw[e]
 have hm:t % 2<2:=Nat.mod_lt _ (by omega)
 match t % 2,hm with
 | 0,_=>rfl
 | 1,_=>rfl
theorem yE {w:World} {g:Nat} {l:List Itm} [Inhabited (InT l)] {d:Array (InT l)} (h:HoldsK (kQ l) 2 w g 0 d) (hg:g<w.heap.size):ax aI 2 w (some ⟨g,0,none⟩) (d.toList.map Subtype.val):=by
 refine oR ⟨g,0,rfl,hg,fun j hj i hi=> ?_⟩
 have hj':j<d.size:=by simpa using hj
 have h0:=(h (j*2+i) (by rw[size_flatK];omega)).1
 rw[get_flatK _ _ _ _ (by omega)] at h0
 rw[show (j*2+i) / 2=j from by omega,show (j*2+i) % 2=i from by omega,getElem!_pos d j hj'] at h0
 rw[show 0+j*2+i=0+(j*2+i) from by omega,h0]
 simp only[List.getElem_map,Array.getElem_toList]
 unfold kQ
 match i,hi with
 | 0,_=>rfl
 | 1,_=>rfl
def xN (fid:Nat) (cb:Array Value):Prop:=∀(x y:Itm) (w:World),ay w x.p x.r→ay w y.p y.r→x.r.length≤maxLen→Calls Tryz.prog fid (#[.agg (aI x).toArray,.agg (aI y).toArray]++cb) w fun e w'=>e= .returned (.int .i64 (aB x.r y.r))∧∃q os',w'=grow (w.drewN q) os'

theorem zo (fid:Nat) (cb:Array Value) (eg:∀args w,(callFunc fid args).run Tryz.prog w= .ok (.enter fid args) w) (hcmp:xN fid cb) (g cap:Nat) (l:List Itm) (w:World) (hl0:l≠[]) (hrow:ax aI 2 w (some ⟨g,0,none⟩) l) (hf:∀j,w.frozen? ⟨g,j,none⟩=false) (hg:g<w.heap.size) (he:∀x∈l,ay w x.p x.r∧x.r.length≤maxLen∧(x.p=none→x.c=0)∧(∀a,x.p=some a→x.r≠[]→a.block≠g)) (hsz:l.length<4611686018427387904) :
  Calls Tryz.prog 184 #[.slice (some ⟨g,0,none⟩) l.length cap,.func (.func fid) #[] cb] w fun e w'=>e= .returned (.tuple #[])∧(∃S:List Itm,S.Perm l∧eG (S.map Itm.z)∧Items w' (some ⟨g,0,none⟩) S)∧∀base,base≤g→base≤w.heap.size→Go.RowKit.Below base w w':=by
 obtain ⟨x0,hx0⟩:∃x,x∈l:=List.exists_mem_of_ne_nil l hl0
 haveI:Inhabited (InT l):=⟨⟨x0,hx0⟩⟩
 have hcl:CmpLays Tryz.prog fid cb (kQ l) 2 (wQ l) g 0 l.attach.toArray.size w:=fun m os dk _ x y =>
  hcmp x.1 y.1 _ (iy (he _ x.2).1 (he _ x.2).2.2.2) (iy (he _ y.2).1 (he _ y.2).2.2.2) (he _ x.2).2.1
 have hcon:=AnyQ.slices_SortFunc Tryz.sortItm 2 Tryz.isAgg101 Tryz.sizeOf101 (kQ l) (fun _=>rfl) (fun x=>fp x.1) (wQ l) (yL l) fid cb g 0 cap l.attach.toArray w eg hcl (uo hrow hf) hg (by simpa using hsz)
 change Calls Tryz.prog 184 _ _ _ at hcon
 simp only[List.size_toArray,List.length_attach] at hcon
 refine hcon.mono ?_
 rintro e w' ⟨he',d',n,os,hp,hs,hw⟩
 obtain ⟨hsz',_,hperm⟩:=hp
 simp only[List.size_toArray,List.length_attach] at hsz'
 have e1:d'.extract 0 l.length=d':=by rw[←hsz'];exact Array.extract_size
 have e2:(l.attach.toArray.extract 0 l.length).toList=l.attach:=by simp only[List.extract_toArray,List.drop_zero,Nat.sub_zero,List.extract_eq_take_drop];exact List.take_of_length_le (by simp)
 rw[e1,e2] at hperm
 have hpm:(d'.toList.map Subtype.val).Perm l:=by have:=hperm.map Subtype.val;rwa [qb] at this
 refine ⟨he',⟨d'.toList.map Subtype.val,hpm,?_,?_,?_⟩,fun base h1 h2=>by rw[hw];exact o9 h1 h2⟩
 ·unfold eG
  rw[List.map_map,List.pairwise_map,List.pairwise_iff_getElem]
  intro i j hi hj hij
  have hi':i<d'.size:=by simpa using hi
  have hj':j<d'.size:=by simpa using hj
  have:=hs i j (nZ _) hij (by omega)
  rw[getElem!_pos d' j hj',getElem!_pos d' i hi',xk,decide_eq_false_iff_not] at this
  have e3:=dI (d'[j]'hj').1.r (d'[i]'hi').1.r
  show aB (d'[i]'hi').1.r (d'[j]'hj').1.r≤0
  omega
 ·have hH':HoldsK (kQ l) 2 w' g 0 d':=by
   rw[hw]
   refine holdsK_grow _ _ _ _ _ _ _ (by simp[putRowK];exact hg) ?_
   exact holdsK_putRowK _ _ _ _ _ l.attach.toArray _ (holdsK_ahead _ _ _ _ _ _ _ (uo hrow hf)) (by simp[hsz'])
  exact yE hH' (by rw[hw];exact nL hg iH)
 ·intro x hx
  have hx':=he x (hpm.mem_iff.1 hx)
  rw[hw]
  exact ⟨iy hx'.1 hx'.2.2.2,hx'.2.1,hx'.2.2.1⟩

theorem vQ:xN 185 #[]:=by
 intro x y w hx hy hl
 have hrH:Hid (ay w x.p x.r∧ay w y.p y.r∧x.r.length≤maxLen):=⟨hx,hy,hl⟩
 clear hx hy hl
 show Calls Tryz.prog 185 #[.agg #[.slice x.p x.r.length x.c,.int .i64 x.n],.agg #[.slice y.p y.r.length y.c,.int .i64 y.n]] w _
 go_enter Tryz.func185,Tryz.ntmps185
 go_wp2_with fail
 have hg:Gr w ((w.alloc (.cells #[.slice x.p x.r.length x.c,.int .i64 x.n] 101)).alloc (.cells #[.slice y.p y.r.length y.c,.int .i64 y.n] 101)):=((gR _).alloc _).alloc _
 refine (eW x.r y.r x.p y.p x.c y.c _ hrH.out.2.2 (hrH.out.1.gr hg) (hrH.out.2.1.gr hg)).mono ?_
 rintro e w' ⟨rfl,hg2⟩
 have hfin:Hid (Gr w w'):=hg.trans hg2
 clear hg hg2
 go_wp2
 go_ret
 exact ⟨rfl,hfin.out⟩

theorem tM (fid:Nat) (eg:∀args w,(callFunc fid args).run Tryz.prog w= .ok (.enter fid args) w) (hcmp:xN fid #[]) (base:Nat) (v:Value) (l:List Itm) (w:World) (hown:ai aI 2 101 w base v l) (hb:base≤w.heap.size) (he:∀x∈l,ay w x.p x.r∧x.r.length≤maxLen∧(x.p=none→x.c=0)∧(∀a,x.p=some a→x.r≠[]→a.block<base)) (hsz:l.length<4611686018427387904) :
  Calls Tryz.prog 184 #[v,.func (.func fid) #[] #[]] w fun e w'=>e= .returned (.tuple #[])∧(∃(S:List Itm) (A:Option Addr) (cap:Nat),v= .slice A S.length cap∧S.Perm l∧eG (S.map Itm.z)∧Items w' A S∧(A=none→cap=0))∧Go.RowKit.Below base w w':=by
 obtain ⟨A,cap,rfl,hA,hrow,hcap,hlt,hfz⟩:=ai.full bB hown
 by_cases h0:l=[]
 ·subst h0
  have hcon:=AnyF.slices_SortFunc_none Tryz.sortItm A cap (.func (.func fid) #[] #[]) w
  change Calls Tryz.prog 184 _ _ _ at hcon
  refine hcon.mono ?_
  rintro e w' ⟨hee,rfl⟩
  exact ⟨hee,⟨[],A,cap,rfl,List.Perm.refl _,List.Pairwise.nil,⟨oL rfl,fun x hx=>absurd hx (by simp)⟩,hA⟩,bR _ _⟩
 ·have hpos:0<l.length:=List.length_pos_iff.2 h0
  obtain ⟨b,off,hAe,hbb,_⟩:=hrow.at hpos
  subst hAe
  have h5:=hlt _ rfl
  obtain rfl:off=0:=h5.2.2.1
  refine (zo fid #[] eg hcmp b cap l w h0 hrow (hfz _ rfl) hbb (fun x hx=> ?_) hsz).mono ?_
  ·have h6:=he x hx
   refine ⟨h6.1,h6.2.1,h6.2.2.1,fun a ha hr=> ?_⟩
   have h7:=h6.2.2.2 a ha hr
   have h8:base≤b:=h5.1
   omega
  ·rintro e w' ⟨he,⟨S,hp,hs,hit⟩,hbel⟩
   exact ⟨he,⟨S,_,cap,by rw[hp.length_eq],hp,hs,hit,hA⟩,hbel base h5.1 hb⟩

end Go.Proofs.YtckeonpnfankhaaGreatDoor

namespace Go.Proofs.YtckeonpnfankhaaGreatDoor
open Go.RowKit Go.Sort

theorem ed (w:World) {ops:Array Oper} {rest:List Oper} {o:Oper} {a:Act} {Q:Exit→Act→World→Prop} (hgd:o.guard=none) (s x:Operand)
  (ho:o.op= .call { callee:= .builtin .append,args:= #[s,x],argTypes:= #[58,58] })
  (base:Nat) (v:Value) (l m:List Itm) (A:Option Addr) (cap:Nat) (hs:a.eval s=v) (hx:a.eval x= .slice A m.length cap) (hown:ai aI 2 101 w base v l) (hr:ax aI 2 w A m) (hA:A=none→cap=0)
  (hml:l.length+m.length≤maxLen) (hb:(l.length+m.length)*32≤140737488355328) (hbase:base≤w.heap.size)
  (h:∀v' w',ai aI 2 101 w' base v' (l++m)→w.grownBy w' v.ownBlock→wpList Tryz.prog ops Q rest (a.put o.dst v') w'):wpList Tryz.prog ops Q (o::rest) a w :=
 wpList_plain hgd fun _ hK=>eA bB fp (by omega) 58 Tryz.underlying58 (.agg #[.slice none 0 0,.int .i64 0]) 32 Tryz.infoT rfl w s x ho base v l m A cap hs hx hown hr hA hml hb hbase fun v' w' h2 h3=>hK _ _ (h v' w' h2 h3)
theorem tS (n:Nat) (w:World) (hn:n≤100000) :
  Calls Tryz.prog 208 #[.slice none 0 0,.int .i64 n] w fun e w'=>∃v,e= .returned v∧ai aI 2 101 w' w.heap.size v []∧Below w.heap.size w w':=by
 obtain ⟨i0,hi,hz0,hz1,hz2⟩:=info_parts Tryz.infoT
 by_cases h0:n=0
 ·subst h0
  go_enter Tryz.func208,Tryz.ntmps208
  go_wp2
  go_ret
  exact ⟨_,rfl,ai.nil _ _ _ _ _,bR _ _⟩
 ·have hpos:(0:Int)<(n:Int):=by omega
  go_enter Tryz.func208,Tryz.ntmps208
  have hrun:=fun ty=>Lib.run_append_nil_zeros (P:=Tryz.prog) w 58 3 ty 101 i0 _ .i64 .i64 Tryz.underlying58 Tryz.underlying3 hi hz0 n (by omega) (by omega) (by omega) (by rw[hz2];omega)
  have hfin:Hid (ai aI 2 101 (w.drew.alloc (.cells (Builtin.zeroCells (Value.agg #[.slice none 0 0,.int .i64 0]).cells n++Builtin.zeroCells (Value.agg #[.slice none 0 0,.int .i64 0]).cells (grownCap w n 0 101-n)) 101)) w.heap.size (.slice (some ⟨w.heap.size,0,none⟩) 0 (grownCap w n 0 101)) []∧Below w.heap.size w (w.drew.alloc (.cells (Builtin.zeroCells (Value.agg #[.slice none 0 0,.int .i64 0]).cells n++Builtin.zeroCells (Value.agg #[.slice none 0 0,.int .i64 0]).cells (grownCap w n 0 101-n)) 101))):=by
   refine ⟨⟨by simp[aM],.inr ⟨w.heap.size,_,_,rfl,nR _,heap_alloc_new w.drew _,nZ _,grownCap_le_maxLen _ _ _ _ (by unfold maxLen;omega),?_,by simp[aM]⟩⟩,((gR w).drew.alloc _).below⟩
   have h1:=grownCap_ge w n 0 101
   have e1:(Value.agg #[.slice none 0 0,.int .i64 0]).cells.size=2:=rfl
   rw[Array.size_append,size_zeroCells,size_zeroCells,e1];omega
  have hle:Hid (n≤grownCap w n 0 101∧grownCap w n 0 101≤9223372036854775807):=⟨grownCap_ge _ _ _ _,grownCap_le_maxLen _ _ _ _ (by unfold maxLen;omega)⟩
  go_wp2_with (at_builtin;refine Lib.wpList_append_run _ rfl _ _ _ _ rfl _ _ rfl rfl _ _ (hrun _) ?_)
  go_ret
  exact ⟨_,rfl,hfin.out.1,hfin.out.2⟩

structure Sl where
 A:Option Addr
 cap:Nat
 l:List Itm
def eB (x:Sl):List Value:=[.slice x.A x.l.length x.cap]
theorem oU {ss:List Sl} (h:ss.length≤2) (hl:∀s∈ss,s.l.length≤400):(ss.flatMap (·.l)).length≤800:=by
 match ss,h with
 | [],_=>simp
 | [a],_=>have:=hl a (by simp);simp;omega
 | [a,b],_=>have h1:=hl a (by simp);have h2:=hl b (by simp);simp;omega
theorem mW {ss:List Sl} {k:Nat} (hk:k<ss.length):(ss.take (k+1)).flatMap (·.l)=(ss.take k).flatMap (·.l)++ss[k].l:=by
 rw[List.take_succ_eq_append_getElem hk,List.flatMap_append,List.flatMap_cons,List.flatMap_nil,List.append_nil]
theorem rg {ss:List Sl} (k:Nat):((ss.take k).flatMap (·.l)).length≤(ss.flatMap (·.l)).length:=by
 conv=>rhs;rw[←List.take_append_drop k ss,List.flatMap_append,List.length_append]
 omega

theorem qw (ss:List Sl) (B:Option Addr) (cb:Nat) (w:World) (hrow:ax eB 1 w B ss) (hlen:ss.length≤2) (hss:∀s∈ss,ax aI 2 w s.A s.l∧(s.A=none→s.cap=0)∧s.l.length≤400) :
  Calls Tryz.prog 183 #[.slice B ss.length cb] w fun e w'=>∃v,e= .returned v∧ai aI 2 101 w' w.heap.size v (ss.flatMap (·.l))∧Below w.heap.size w w':=by
 have hall:Hid ((ss.flatMap (·.l)).length≤800):=oU hlen fun s hs=>(hss s hs).2.2
 have hrH:Hid (ax eB 1 w B ss∧∀s∈ss,ax aI 2 w s.A s.l∧(s.A=none→s.cap=0)∧s.l.length≤400):=⟨hrow,hss⟩
 clear hrow hss
 go_enter Tryz.func183,Tryz.ntmps183
 go_wp2
 go_loopw [3,11] (fun n i wr=>∃k:Nat,k≤ss.length∧i= .int .i64 k∧n= .int .i64 (((ss.take k).flatMap (·.l)).length:Nat)∧wr=w) (fun _ i _=>ss.length-(intOf i).toNat)
 case atStart=>exact ⟨0,nZ _,rfl,by simp,rfl⟩
 case round =>
  obtain ⟨k,hk,rfl,rfl,rfl⟩:=hrel
  by_cases hlt:k<ss.length
  ·have hltz:(k:Int)<(ss.length:Int):=by omega
   obtain ⟨b,off,rfl,hb,hcs⟩:=hrH.out.1.at hlt
   have e0:=hcs k hlt 0 (by omega)
   obtain ⟨s,hs⟩:∃s,ss[k]=s:=⟨_,rfl⟩
   rw[hs] at e0
   have e1:wr.cell? ⟨b,off+k,none⟩=some (.slice s.A s.l.length s.cap):=by simpa[eB] using e0
   have hst:Hid (((ss.take (k+1)).flatMap (·.l)).length=((ss.take k).flatMap (·.l)).length+s.l.length):=by show _=_;rw[mW hlt,hs,List.length_append]
   have hle:((ss.take (k+1)).flatMap (·.l)).length≤800:=nT (rg _) hall.out
   rw[hst.out] at hle
   obtain ⟨m,hm⟩:∃m,((ss.take k).flatMap (·.l)).length=m:=⟨_,rfl⟩
   rw[hm] at hle ⊢
   have hmH:Hid (((ss.take k).flatMap (·.l)).length=m):=hm
   clear hcs e0 hs hm
   have hw1:IntKind.i64.wrap ((m:Int)+(s.l.length:Int))=(m:Int)+(s.l.length:Int):=by rw[IntKind.wrap_i64];omega
   have hge:¬((m:Int)+(s.l.length:Int))<0:=by omega
   go_wp2
   go_roundw
   case rel =>
    refine ⟨k+1,by omega,by go_num,?_,by trivial⟩
    rw[hst.out,hmH.out];go_num
   case measure=>simp[intOf];omega
  ·have hltz:¬(k:Int)<(ss.length:Int):=by omega
   have hke:ss.take k=ss:=List.take_of_length_le (by omega)
   rw[hke]
   have hgw:=tS (ss.flatMap (·.l)).length wr (by have:=hall.out;omega)
   have hgwH:Hid _:=hgw
   clear hgw hke hlt hk
   obtain ⟨N,hN⟩:∃N,(ss.flatMap (·.l)).length=N:=⟨_,rfl⟩
   rw[hN] at hgwH ⊢
   clear hN
   go_wp2_with fail
   refine cM (show Calls _ _ _ _ _ from hgwH.out) ?_
   rintro e w1 ⟨v0,rfl,hown0,hb0⟩
   clear hgwH
   go_wp2
   go_loopw [6,27] (fun v i w2=>∃k:Nat,k≤ss.length∧i= .int .i64 k∧ai aI 2 101 w2 wr.heap.size v ((ss.take k).flatMap (·.l))∧Below wr.heap.size wr w2) (fun _ i _=>ss.length-(intOf i).toNat)
   case atStart=>exact ⟨0,nZ _,rfl,by simpa using hown0,hb0⟩
   case round =>
    rename World=>w2
    obtain ⟨k,hk,rfl,hown,hbel⟩:=hrel
    by_cases hlt:k<ss.length
    ·have hltz:(k:Int)<(ss.length:Int):=by omega
     obtain ⟨b,off,rfl,hb,hcs⟩:=hrH.out.1.at hlt
     have e0:=hcs k hlt 0 (by omega)
     obtain ⟨s,hs⟩:∃s,ss[k]=s:=⟨_,rfl⟩
     rw[hs] at e0
     have e1:w2.cell? ⟨b,off+k,none⟩=some (.slice s.A s.l.length s.cap):=(hbel.cell (p:=⟨b,off+k,none⟩) hb).trans (by simpa[eB] using e0)
     have hst:Hid ((ss.take (k+1)).flatMap (·.l)=(ss.take k).flatMap (·.l)++s.l):=by show _=_;rw[mW hlt,hs]
     have hle:((ss.take (k+1)).flatMap (·.l)).length≤800:=nT (rg _) hall.out
     rw[hst.out,List.length_append] at hle
     have hsf:=hrH.out.2 s (by rw[←hs];exact gM hlt)
     obtain ⟨M,hM⟩:∃M,(ss.take k).flatMap (·.l)=M:=⟨_,rfl⟩
     rw[hM] at hown hst hle
     have hsH:Hid (ax aI 2 w2 s.A s.l∧(s.A=none→s.cap=0)∧ai aI 2 101 w2 wr.heap.size u6 M∧M.length+s.l.length≤maxLen∧(M.length+s.l.length)*32≤140737488355328∧wr.heap.size≤w2.heap.size):=⟨hsf.1.below hbel,hsf.2.1,hown,by unfold maxLen;omega,by omega,hbel.size⟩
     have hbelH:Hid (Below wr.heap.size wr w2):=hbel
     clear hcs e0 hs hle hsf hM hown hbel
     go_wp2_with (at_builtin;refine ed _ rfl (.tmp 31) (.tmp 32) rfl wr.heap.size u6 M s.l s.A s.cap rfl rfl hsH.out.2.2.1 hsH.out.1 hsH.out.2.1 hsH.out.2.2.2.1 hsH.out.2.2.2.2.1 hsH.out.2.2.2.2.2 ?_;intro v3 w3 hown3 hg3)
     have hfin:Hid (Go.RowKit.Below wr.heap.size wr w3):=hbelH.out.trans (ai.grown_below hsH.out.2.2.1 hg3 hsH.out.2.2.2.2.2)
     go_roundw
     case rel=>exact ⟨k+1,by omega,by go_num,by rw[hst.out];exact hown3,hfin.out⟩
     case measure=>simp[intOf];omega
    ·have hltz:¬(k:Int)<(ss.length:Int):=by omega
     have hke:ss.take k=ss:=List.take_of_length_le (by omega)
     rw[hke] at hown
     have hfin:Hid (ai aI 2 101 w2 wr.heap.size u6 (ss.flatMap (·.l))∧Below wr.heap.size wr w2):=⟨hown,hbel⟩
     clear hown hbel hke
     go_wp2
     go_ret
     exact ⟨u6,rfl,hfin.out.1,hfin.out.2⟩


theorem wy {l:List Itm} {k:Nat} (h:k<l.length):(l.map Itm.z).getD k ([],0)=l[k].z:=by
 rw[List.getD_eq_getElem?_getD,List.getElem?_map,List.getElem?_eq_getElem h];rfl
def okI (l:List Itm) (k:Nat):Bool:=okZ ((l.map Itm.z).getD k ([],0)) && jk (l.map Itm.z) k
theorem oh {l:List Itm} {x:Itm} (h:0<l.length) (hx:l[0]=x):okI l 0=okZ x.z:=by
 unfold okI jk
 rw[wy h,hx];simp
theorem kT {l:List Itm} {m:Nat} {x y:Itm} (h:m+1<l.length) (hx:l[m+1]=x) (hy:l[m]=y):okI l (m+1)=(okZ x.z && decide (aB y.r x.r<0)):=by
 unfold okI jk
 rw[wy h,Nat.add_sub_cancel,wy (show m<l.length by omega),hx,hy]
 simp[Itm.z]
 rfl
theorem ms {l:List Itm} {k:Nat} (h4:¬ 400<l.length) (hk:k<l.length) (h:okI l k=false):av (l.map Itm.z)=5:=by
 unfold av
 rw[if_neg (by simpa using h4),if_pos ⟨k,by simpa using hk,h⟩]
theorem wI {l:List Itm} (h4:¬ 400<l.length) (h:∀k,k<l.length→okI l k=true):av (l.map Itm.z)=0:=by
 unfold av
 rw[if_neg (by simpa using h4),if_neg]
 rintro ⟨k,hk,hf⟩
 have:=h k (by simpa using hk)
 unfold okI at this
 rw[hf] at this;cases this
theorem od {a b:List Int} {A B:Option Addr} {ca cb:Nat} {r:Int} (h:aB a b=r) (w:World) (hal:a.length≤maxLen) (hra:ay w A a) (hrb:ay w B b) :
  Calls Tryz.prog 133 #[.slice A a.length ca,.slice B b.length cb] w fun e w'=>e= .returned (.int .i64 r)∧∃q os',w'=grow (w.drewN q) os':=by
 rw[←h];exact eW a b A B ca cb w hal hra hrb

theorem ge (l:List Itm) (A:Option Addr) (cap:Nat) (w:World) (hl:l.length≤maxLen) (hr:Items w A l) :
  Calls Tryz.prog 95 #[.slice A l.length cap] w fun e w'=>e= .returned (.int .i64 (av (l.map Itm.z)))∧Gr w w':=by
 have mixed:Tryz.prog.follows .mixedOrders=true:=by kernel_rfl
 unfold maxLen at hl
 have hrH:Hid (Items w A l):=hr
 clear hr
 by_cases h4:400<l.length
 ·have e:av (l.map Itm.z)=2:=by unfold av;rw[if_pos (by simpa using h4)]
  rw[e];clear e
  have h4z:(400:Int)<(l.length:Int):=by omega
  go_enter Tryz.func95,Tryz.ntmps95
  go_wp2
  go_ret
  exact ⟨rfl,gR _⟩
 ·have h4z:¬(400:Int)<(l.length:Int):=by omega
  go_enter Tryz.func95,Tryz.ntmps95
  go_wp2
  go_loopw [10] (fun i wr=>∃k:Nat,k≤l.length∧i= .int .i64 k∧Hid (∀j,j<k→okI l j=true)∧Gr w wr) (fun i _=>l.length-(intOf i).toNat)
  case atStart=>exact ⟨0,by omega,rfl,fun j h=>by omega,gR _⟩
  case round =>
   rename World=>wr0
   obtain ⟨k,hk,rfl,hall,hgr⟩:=hrel
   by_cases hlt:k<l.length
   ·have hltz:(k:Int)<(l.length:Int):=by omega
    have hrR:Hid (Items wr0 A l):=hrH.out.gr hgr
    obtain ⟨b,off,rfl,hb,hcs⟩:=hrR.out.at hlt
    obtain ⟨x,hx⟩:∃x,l[k]=x:=⟨_,rfl⟩
    obtain ⟨e0,e1⟩:=hcs k hlt
    rw[hx] at e0 e1
    have hcsH:Hid (∀j (h:j<l.length),_):=hcs
    have hxH:Hid (l[k]=x):=hx
    have hxr:Hid (ay wr0 x.p x.r∧x.r.length≤maxLen):=⟨(hrR.out.each x (by rw[←hx];exact gM hlt)).1,(hrR.out.each x (by rw[←hx];exact gM hlt)).2.1⟩
    clear hcs hx
    have hgX:Gr wr0 (wr0.alloc (.cells #[.slice x.p x.r.length x.c,.int .i64 x.n] 101)):=(gR _).alloc _
    have x0:(wr0.alloc (.cells #[.slice x.p x.r.length x.c,.int .i64 x.n] 101)).cell? ⟨wr0.heap.size,0,none⟩=some (.slice x.p x.r.length x.c):=aa (gR _) rfl
    have x1:(wr0.alloc (.cells #[.slice x.p x.r.length x.c,.int .i64 x.n] 101)).cell? ⟨wr0.heap.size,1,none⟩=some (.int .i64 x.n):=aa (gR _) rfl
    have hrow:=mD x.r x.p x.c (wr0.alloc (.cells #[.slice x.p x.r.length x.c,.int .i64 x.n] 101)) hxr.out.2 (hxr.out.1.gr hgX)
    have hrowH:Hid _:=hrow
    clear hrow
    go_wp2_with fail
    refine cM (show Calls _ _ _ _ _ from hrowH.out) ?_
    rintro e w2 ⟨rfl,hg2⟩
    clear hrowH x0 x1
    have hgw2:Gr w w2:=(hgr.trans hgX).trans hg2
    have x0:w2.cell? ⟨wr0.heap.size,0,none⟩=some (.slice x.p x.r.length x.c):=aa hg2 rfl
    have x1:w2.cell? ⟨wr0.heap.size,1,none⟩=some (.int .i64 x.n):=aa hg2 rfl
    have hbadH:Hid (okZ x.z=false→av (l.map Itm.z)=5):=fun h=>by
     refine ms h4 hlt ?_
     cases k with
     | zero=>rw[oh hlt hxH.out,h]
     | succ m=>rw[kT hlt hxH.out rfl,h];rfl
    cases hrb:okR x.r
    ·have hfin:Hid (av (l.map Itm.z)=5):=hbadH.out (by simp[okZ,Itm.z,hrb])
     go_wp2
     go_ret
     exact ⟨by rw[hfin.out];rfl,hgw2⟩
    ·have hwt:=fS x.n w2
     cases hwb:okW x.n
     ·have hfin:Hid (av (l.map Itm.z)=5):=hbadH.out (by simp[okZ,Itm.z,hwb])
      rw[hwb] at hwt
      have hwtH:Hid _:=hwt
      clear hwt
      go_wp2_with (go_at_call 132;(refine cM (show Calls _ _ _ _ _ from hwtH.out) ?_);rintro e w' ⟨rfl,rfl⟩)
      go_ret
      exact ⟨by rw[hfin.out];rfl,hgw2⟩
     ·rw[hwb] at hwt
      have hwtH:Hid _:=hwt
      clear hwt
      cases hn0:(x.n==0)
      ·have hokH:Hid (okZ x.z=true):=by
        have:x.n≠0:=by simpa using hn0
        simp[okZ,Itm.z,hrb,hwb,this,Hid]
       cases k with
       | zero =>
        have hoka:Hid (okI l 0=true):=by show okI l 0=true;rw[oh hlt hxH.out];exact hokH.out
        go_wp2_with (first|(go_at_call 132;(refine cM (show Calls _ _ _ _ _ from hwtH.out) ?_);rintro e w' ⟨rfl,rfl⟩)|fail)
        refine wp_region_quiet_grown mixed (by kernel_rfl) ?_
        repeat (go_big_quiet_step (fail))
        refine wpQuiet_nil ?_
        rintro _ ⟨⟨nq2,osq2⟩,rfl⟩
        go_wp2
        go_roundw
        case rel =>
         refine ⟨_,hlt,by go_num,?_,hgw2.trans ⟨nq2,osq2,rfl⟩⟩
         intro j hj
         by_cases e:j=0
         ·rw[e];exact hoka.out
         ·exact hall j (by omega)
        case measure=>simp[intOf];omega
       | succ m =>
        obtain ⟨y,hy⟩:∃y,l[m]=y:=⟨_,rfl⟩
        obtain ⟨f0,f1⟩:=hcsH.out m (by omega)
        rw[hy] at f0 f1
        have hyH:Hid (l[m]=y):=hy
        have hyr:Hid (ay wr0 y.p y.r∧y.r.length≤maxLen):=⟨(hrR.out.each y (by rw[←hy];exact gM (by omega))).1,(hrR.out.each y (by rw[←hy];exact gM (by omega))).2.1⟩
        clear hy
        have hg02:Gr wr0 w2:=hgX.trans hg2
        have q0:=hg02.cellG (a:=⟨b,off+m*2,none⟩) hb f0
        have xlt:wr0.heap.size<w2.heap.size:=World.block_lt_of_cell? w2 ⟨wr0.heap.size,0,none⟩ x0
        have p0:=(gR w2).cellG (a:=⟨wr0.heap.size,0,none⟩) xlt x0
        have hRY:Hid (∀n os,ay (grow (w2.drewN n) os) y.p y.r):=fun n os=>hyr.out.1.gr (hg02.trans ⟨n,os,rfl⟩)
        have hRX:Hid (∀n os,ay (grow (w2.drewN n) os) x.p x.r):=fun n os=>hxr.out.1.gr (hg02.trans ⟨n,os,rfl⟩)
        clear f0 f1
        obtain ⟨r,hrr⟩:∃r,aB y.r x.r=r:=⟨_,rfl⟩
        have hrrH:Hid (aB y.r x.r=r):=hrr
        clear hrr
        by_cases hbe:r<0
        ·have hbz:¬(0:Int)≤r:=by omega
         have hoka:Hid (okI l (m+1)=true):=by
          show okI l (m+1)=true
          rw[kT hlt hxH.out hyH.out,hokH.out,hrrH.out];simp[hbe]
         go_wp2_with (first|(go_at_call 132;(refine cM (show Calls _ _ _ _ _ from hwtH.out) ?_);rintro e w' ⟨rfl,rfl⟩)|fail)
         refine wp_region_quiet_grown mixed (by kernel_rfl) ?_
         repeat (go_big_quiet_step ((go_at_call 133;refine Calls.grown_of (od hrrH.out _ hyr.out.2 (hRY.out _ _) (hRX.out _ _)))))
         refine wpQuiet_nil ?_
         rintro _ ⟨⟨nq2,osq2⟩,rfl⟩
         go_wp2
         go_roundw
         case rel =>
          refine ⟨_,hlt,by go_num,?_,hgw2.trans ⟨nq2,osq2,rfl⟩⟩
          intro j hj
          by_cases e:j=m+1
          ·rw[e];exact hoka.out
          ·exact hall j (by omega)
         case measure=>simp[intOf];omega
        ·have hbz:(0:Int)≤r:=by omega
         have hfin:Hid (av (l.map Itm.z)=5):=ms h4 hlt (by rw[kT hlt hxH.out hyH.out,hrrH.out];simp[hbe])
         go_wp2_with (first|(go_at_call 132;(refine cM (show Calls _ _ _ _ _ from hwtH.out) ?_);rintro e w' ⟨rfl,rfl⟩)|fail)
         refine wp_region_quiet_grown mixed (by kernel_rfl) ?_
         repeat (go_big_quiet_step ((go_at_call 133;refine Calls.grown_of (od hrrH.out _ hyr.out.2 (hRY.out _ _) (hRX.out _ _)))))
         refine wpQuiet_nil ?_
         rintro _ ⟨⟨nq2,osq2⟩,rfl⟩
         go_wp2
         go_ret
         exact ⟨by rw[hfin.out];rfl,hgw2.trans ⟨nq2,osq2,rfl⟩⟩
      ·have hfin:Hid (av (l.map Itm.z)=5):=hbadH.out (by have:x.n=0:=(by simpa using hn0);simp[okZ,Itm.z,this])
       go_wp2_with (go_at_call 132;(refine cM (show Calls _ _ _ _ _ from hwtH.out) ?_);rintro e w' ⟨rfl,rfl⟩)
       go_ret
       exact ⟨by rw[hfin.out];rfl,hgw2⟩
   ·have hltz:¬(k:Int)<(l.length:Int):=by omega
    have hfin:Hid (av (l.map Itm.z)=0):=wI h4 fun j hj=>hall j (by omega)
    go_wp2
    go_ret
    exact ⟨by rw[hfin.out];rfl,hgr⟩

end Go.Proofs.YtckeonpnfankhaaGreatDoor
