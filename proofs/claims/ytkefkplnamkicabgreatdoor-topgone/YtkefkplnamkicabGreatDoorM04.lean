import Derived.Test.YtkefkplnamkicabGreatDoorM03
import Derived.Lib.AppendZeros
import Derived.Deep.Cut
set_option maxRecDepth 100000
set_option maxHeartbeats 8000000
open Go.Ending renaming returned → H
open Go.IntKind renaming i64 → O
open Go.Obj renaming cells → V
open Go.Proofs.Tryz renaming prog → Z
open Go.Value renaming slice → I, int → J, tuple → Y, agg → X
namespace Go.Proofs.YtkefkplnamkicabGreatDoor

def eI (S:List Zit):Prop:=S.Pairwise fun x y=>aB x.1 y.1≤0
structure Upto (S:List Zit) (i:Nat) (L:List Zit):Prop where
 tot:IsTot (S.take i) L
 len:L.length≤i
 part:∀x∈S.take i,∀y∈S.drop i,aB x.1 y.1<0
 good:∀r,okW (wt (S.take i) r)=true
theorem Upto.zero (S:List Zit):Upto S 0 []:=⟨⟨List.Pairwise.nil,fun x hx=>(by cases hx),fun r=>rfl⟩,by simp,fun x hx=>by simp at hx,fun r=>by simp[wt,okW,inB]⟩
theorem Upto.done {S L:List Zit} {i:Nat} (h:Upto S i L) (hi:S.length≤i):IsTot S L∧¬nI S:=by
 have e:S.take i=S:=List.take_of_length_le hi
 refine ⟨by have:=h.tot;rwa [e] at this,?_⟩
 rintro ⟨r,hr⟩
 have:=h.good r
 rw[e,hr] at this;cases this
theorem wv {l:List Zit} (h:∀x∈l,okW x.2=true) (r:List Int): -((l.length:Int)*1048576)≤wt l r∧wt l r≤(l.length:Int)*1048576:=by
 induction l with
 | nil=>simp[wt]
 | cons x l ih =>
  have h1:=ih fun y hy=>h y (mC _ hy)
  have h2:=h x (mS ..)
  simp only[okW,inB,Bool.and_eq_true,decide_eq_true_eq] at h2
  simp only[wt,List.length_cons]
  by_cases e:x.1=r
  ·rw[if_pos e];omega
  ·rw[if_neg e];omega
theorem oh {S:List Zit} {k:Nat} (hk:k<S.length) (r:List Int):wt (S.take (k+1)) r=wt (S.take k) r+if S[k].1=r then S[k].2 else 0:=by
 rw[List.take_succ_eq_append_getElem hk,cC]
 simp[wt]
def Run (S:List Zit) (row:List Int) (i j:Nat):Prop:=∀m (_:m<S.length),i≤m→m<j→S[m].1=row
theorem Run.seg {S:List Zit} {row:List Int} {i j:Nat} (h:Run S row i j):∀x∈(S.take j).drop i,x.1=row:=by
 intro x hx
 obtain ⟨k,hk,rfl⟩:=List.mem_iff_getElem.1 hx
 simp only[List.length_drop,List.length_take] at hk
 rw[List.getElem_drop,List.getElem_take]
 exact h _ (by omega) (by omega) (by omega)
theorem Run.split {S:List Zit} {i j:Nat} (hij:i≤j):S.take j=S.take i++(S.take j).drop i:=by
 conv=>lhs;rw[←List.take_append_drop i (S.take j)]
 rw[List.take_take,Nat.min_eq_left hij]
theorem Run.other {S:List Zit} {row:List Int} {i j:Nat} (h:Run S row i j) (hij:i≤j) {r:List Int} (hr:r≠row):wt (S.take j) r=wt (S.take i) r:=by
 rw[Run.split hij,cC,iq (l:=(S.take j).drop i) fun x hx e=>hr (by rw[←e];exact h.seg x hx)];omega
theorem Upto.first {S L:List Zit} {i:Nat} (h:Upto S i L) (hi:i<S.length):wt (S.take i) S[i].1=0 :=
 iq fun x hx e=>fd (h.part x hx S[i] (by rw[List.drop_eq_getElem_cons hi];exact mS ..)) e
theorem after {S:List Zit} {row:List Int} {j:Nat} (hs:eI S) (i:Nat) (hi:i<S.length) (hij:i<j) (hrow:S[i].1=row) (hj:∀(h:j<S.length),aB row S[j].1≠0):∀x∈S.drop j,aB row x.1<0:=by
 intro x hx
 obtain ⟨k,hk,rfl⟩:=List.mem_iff_getElem.1 hx
 simp only[List.length_drop] at hk
 rw[List.getElem_drop]
 have hp:=List.pairwise_iff_getElem.1 hs
 have h1:aB S[i].1 S[j].1≤0:=hp i j hi (by omega) hij
 rw[hrow] at h1
 have h2:=hj (by omega)
 by_cases e:k=0
 ·subst e;simp only[Nat.add_zero];omega
 ·have h3:aB S[j].1 S[j+k].1≤0:=hp j (j+k) (by omega) (by omega) (by omega)
  exact (fS _ _ _ h1 h3).2 (oL (by omega))
theorem xC {S:List Zit} {i j:Nat} (hs:eI S) (hi:i<S.length) (hij:i<j) (hj:∀(h:j<S.length),aB S[i].1 S[j].1≠0) (hb:okW (wt (S.take j) S[i].1)=false):nI S:=by
 refine ⟨S[i].1,?_⟩
 have h1:wt S S[i].1=wt (S.take j) S[i].1:=by
  have h2:=cC (S.take j) (S.drop j) S[i].1
  rw[List.take_append_drop,iq (l:=S.drop j) fun x hx e=>fd (after hs i hi hij rfl hj x hx) e.symm] at h2;omega
 rw[h1];exact hb
theorem pA {S L:List Zit} {i j:Nat} (hs:eI S) (h:Upto S i L) (hi:i<S.length) (hij:i<j) (hr:Run S S[i].1 i j) (hj:∀(h:j<S.length),aB S[i].1 S[j].1≠0):∀x∈S.take j,∀y∈S.drop j,aB x.1 y.1<0:=by
 intro x hx y hy
 rw[Run.split (Nat.le_of_lt hij)] at hx
 have h1:=after hs i hi hij rfl hj y hy
 rcases List.mem_append.1 hx with e|e
 ·exact cG (h.part x e S[i] (by rw[List.drop_eq_getElem_cons hi];exact mS ..)) h1
 ·rw[hr.seg x e];exact h1
theorem pz {S L:List Zit} {i j:Nat} (h:Upto S i L) (hij:i<j) (row:List Int) (hr:Run S row i j) (hw:okW (wt (S.take j) row)=true):∀r,okW (wt (S.take j) r)=true:=by
 intro r
 by_cases e:r=row
 ·rw[e];exact hw
 ·rw[hr.other (Nat.le_of_lt hij) e];exact h.good r
theorem vK {S L:List Zit} {i j:Nat} (hs:eI S) (h:Upto S i L) (hi:i<S.length) (hij:i<j) (hr:Run S S[i].1 i j) (hj:∀(h:j<S.length),aB S[i].1 S[j].1≠0) (hw:wt (S.take j) S[i].1=0):Upto S j L:=by
 refine ⟨⟨h.tot.rise,h.tot.noz,fun r=> ?_⟩,by have:=h.len;omega,pA hs h hi hij hr hj,pz h hij _ hr (by rw[hw];decide)⟩
 rw[h.tot.same]
 by_cases e:r=S[i].1
 ·rw[e,hw,h.first hi]
 ·rw[hr.other (Nat.le_of_lt hij) e]
theorem vJ {S L:List Zit} {i j:Nat} (hs:eI S) (h:Upto S i L) (hi:i<S.length) (hij:i<j) (hr:Run S S[i].1 i j) (hj:∀(h:j<S.length),aB S[i].1 S[j].1≠0) (hw:okW (wt (S.take j) S[i].1)=true) (h0:wt (S.take j) S[i].1≠0):Upto S j (L++[(S[i].1,wt (S.take j) S[i].1)]):=by
 refine ⟨⟨?_,?_,fun r=> ?_⟩,by have:=h.len;simp;omega,pA hs h hi hij hr hj,pz h hij _ hr hw⟩
 ·unfold eB
  rw[List.pairwise_append]
  refine ⟨h.tot.rise,List.pairwise_singleton _ _,fun x hx y hy=> ?_⟩
  obtain rfl:y=_:=by simpa using hy
  obtain ⟨z,hz,e⟩:=h.tot.row hx
  rw[←e]
  exact h.part z hz S[i] (by rw[List.drop_eq_getElem_cons hi];exact mS ..)
 ·intro x hx
  rcases List.mem_append.1 hx with e|e
  ·exact h.tot.noz x e
  ·obtain rfl:x=_:=by simpa using e
   exact h0
 ·rw[cC,h.tot.same]
  simp only[wt]
  by_cases e:r=S[i].1
  ·rw[e,if_pos rfl,h.first hi];omega
  ·rw[if_neg fun k=>e k.symm,hr.other (Nat.le_of_lt hij) e];omega
theorem eI.perm_bad {l S:List Zit} (h:S.Perm l):nI S↔nI l:=by
 unfold nI
 simp only[s6 h]
theorem IsTot.perm {l S T:List Zit} (h:S.Perm l) (k:IsTot S T):IsTot l T:=⟨k.rise,k.noz,fun r=>by rw[k.same,s6 h]⟩

end Go.Proofs.YtkefkplnamkicabGreatDoor

namespace Go.Proofs
open Go.Shelf
def Tryz.sortItm_ren:Go.Shelf.Ren:=⟨fun|6=>180|15=>61|14=>204|28=>92|29=>93|20=>220|21=>221|22=>222|23=>223|24=>224|25=>225|26=>226|27=>227|46=>242|47=>123|48=>124|49=>243|50=>244|57=>250|n=>n,fun|22=>53|24=>58|25=>243|3=>3|39=>132|0=>0|53=>167|55=>169|4=>4|46=>159|45=>158|50=>164|5=>5|9=>9|66=>196|70=>190|76=>224|77=>225|n=>n,fun|n=>n⟩
theorem Tryz.sortItm:Go.Proofs.SlLaysF0.n6 Z Tryz.sortItm_ren:={
 mixed:=by kernel_rfl
 f6:=⟨Tryz.f180.name,by decide,Tryz.func180.trans (congrArg some (by kernel_rfl))⟩
 f14:=⟨Tryz.f204.name,by decide,Tryz.func204.trans (congrArg some (by kernel_rfl))⟩
 f15:=Tryz.func61.trans (congrArg some (by kernel_rfl))
 f20:=⟨Tryz.f220.name,by decide,Tryz.func220.trans (congrArg some (by kernel_rfl))⟩
 f21:=⟨Tryz.f221.name,by decide,Tryz.func221.trans (congrArg some (by kernel_rfl))⟩
 f22:=⟨Tryz.f222.name,by decide,Tryz.func222.trans (congrArg some (by kernel_rfl))⟩
 f23:=⟨Tryz.f223.name,by decide,Tryz.func223.trans (congrArg some (by kernel_rfl))⟩
 f24:=⟨Tryz.f224.name,by decide,Tryz.func224.trans (congrArg some (by kernel_rfl))⟩
 f25:=⟨Tryz.f225.name,by decide,Tryz.func225.trans (congrArg some (by kernel_rfl))⟩
 f26:=⟨Tryz.f226.name,by decide,Tryz.func226.trans (congrArg some (by kernel_rfl))⟩
 f27:=⟨Tryz.f227.name,by decide,Tryz.func227.trans (congrArg some (by kernel_rfl))⟩
 f28:=Tryz.func92.trans (congrArg some (by kernel_rfl))
 f29:=Tryz.func93.trans (congrArg some (by kernel_rfl))
 f46:=⟨Tryz.f242.name,by decide,Tryz.func242.trans (congrArg some (by kernel_rfl))⟩
 f47:=Tryz.func123.trans (congrArg some (by kernel_rfl))
 f48:=Tryz.func124.trans (congrArg some (by kernel_rfl))
 f49:=⟨Tryz.f243.name,by decide,Tryz.func243.trans (congrArg some (by kernel_rfl))⟩
 f50:=⟨Tryz.f244.name,by decide,Tryz.func244.trans (congrArg some (by kernel_rfl))⟩
 f57:=⟨Tryz.f250.name,by decide,Tryz.func250.trans (congrArg some (by kernel_rfl))⟩
 t0:=Tryz.underlying0
 a0:=Tryz.isAgg0
 z0:=Tryz.sizeOf0
 v0:=Tryz.zeroValue0
 t3:=Tryz.underlying3
 a3:=Tryz.isAgg3
 z3:=Tryz.sizeOf3
 v3:=Tryz.zeroValue3
 t4:=Tryz.underlying4
 a4:=Tryz.isAgg4
 z4:=Tryz.sizeOf4
 v4:=Tryz.zeroValue4
 t5:=Tryz.underlying5
 a5:=Tryz.isAgg5
 z5:=Tryz.sizeOf5
 v5:=Tryz.zeroValue5
 t9:=Tryz.underlying9
 a9:=Tryz.isAgg9
 z9:=Tryz.sizeOf9
 v9:=Tryz.zeroValue9
 t22:=Tryz.underlying53
 a22:=Tryz.isAgg53
 z22:=Tryz.sizeOf53
 v22:=Tryz.zeroValue53
 t25:=Tryz.underlying243
 a25:=Tryz.isAgg243
 z25:=Tryz.sizeOf243
 v25:=Tryz.zeroValue243
 t39:=Tryz.underlying132
 a39:=Tryz.isAgg132
 z39:=Tryz.sizeOf132
 v39:=Tryz.zeroValue132
 t45:=Tryz.underlying158
 a45:=Tryz.isAgg158
 z45:=Tryz.sizeOf158
 v45:=Tryz.zeroValue158
 t46:=Tryz.underlying159
 a46:=Tryz.isAgg159
 z46:=Tryz.sizeOf159
 v46:=Tryz.zeroValue159
 t50:=Tryz.underlying164
 a50:=Tryz.isAgg164
 z50:=Tryz.sizeOf164
 v50:=Tryz.zeroValue164
 t53:=Tryz.underlying167
 a53:=Tryz.isAgg167
 z53:=Tryz.sizeOf167
 v53:=Tryz.zeroValue167
 t55:=Tryz.underlying169
 a55:=Tryz.isAgg169
 z55:=Tryz.sizeOf169
 v55:=Tryz.zeroValue169
 t66:=Tryz.underlying196
 a66:=Tryz.isAgg196
 z66:=Tryz.sizeOf196
 v66:=Tryz.zeroValue196
 t70:=Tryz.underlying190
 a70:=Tryz.isAgg190
 z70:=Tryz.sizeOf190
 v70:=Tryz.zeroValue190
 t76:=Tryz.underlying224
 a76:=Tryz.isAgg224
 z76:=Tryz.sizeOf224
 v76:=Tryz.zeroValue224
 t77:=Tryz.underlying225
 a77:=Tryz.isAgg225
 z77:=Tryz.sizeOf225
 v77:=Tryz.zeroValue225 }
end Go.Proofs

namespace Go.Proofs.YtkefkplnamkicabGreatDoor
open Go.RowKit Go.Sort Go.Shelf Go.Lib

abbrev InT (l:List Itm):={x:Itm // x∈l}
def kW (l:List Itm) (x:InT l):List Value:=aM x.1
def wI (l:List Itm) (x y:InT l):Int:=aB x.1.r y.1.r
theorem xl (l:List Itm) (x y:InT l):ltOf (wI l) x y=decide (aB x.1.r y.1.r<0):=rfl
theorem zF (l:List Itm):SWO (ltOf (wI l)) where
 irrefl x:=by rw[xl,gX];rfl
 trans x y z h1 h2:=by
  rw[xl,decide_eq_true_eq] at *
  exact cG h1 h2
 ntrans x y z h1 h2:=by
  rw[xl,decide_eq_false_iff_not] at *
  have e1:=dK x.1.r y.1.r
  have e2:=dK y.1.r z.1.r
  have e3:=dK x.1.r z.1.r
  have:=(fS z.1.r y.1.r x.1.r (by omega) (by omega)).1
  omega

theorem kl {α : Type} [Inhabited α] {enc: α → List Value} {w:World} {g n b:Nat} {os:Array Obj} {d:Array α} (hb:b<w.heap.size) (hne:b≠g):(sortWorldK enc 2 w g 0 n d os).heap[b]? = w.heap[b]? := by
 show ((putRowK enc 2 (Sort.ahead w n) g 0 d).heap++os)[b]? = _
 rw[Array.getElem?_append_left (by simp[putRowK];exact hb)]
 show ((Sort.ahead w n).heap.modify g _)[b]? = _
 rw[Array.getElem?_modify,if_neg (by omega)]
 rfl
theorem iW {α : Type} [Inhabited α] {enc: α → List Value} {w:World} {g n:Nat} {os:Array Obj} {d:Array α}:w.heap.size≤(sortWorldK enc 2 w g 0 n d os).heap.size:=by simp[sortWorldK,grow,putRowK]
theorem iU {α : Type} [Inhabited α] {enc: α → List Value} {w:World} {g n:Nat} {os:Array Obj} {d:Array α} {p:Option Addr} {r:List Int} (h:ar w p r) (hne:∀a,p=some a→r≠[]→a.block≠g):ar (sortWorldK enc 2 w g 0 n d os) p r:=by
 rcases h with k|⟨b,off,hp,hb,hc⟩
 ·exact oL k
 by_cases hr:r=[]
 ·exact oL hr
 ·refine oR ⟨b,off,hp,nL hb iW,fun j hj i hi=> ?_⟩
  rw[World.cell?_of_block (a:=⟨b,off+j*1+i,none⟩) (kl hb (hne ⟨b,off,none⟩ hp hr))]
  exact hc j hj i hi
theorem ow {α : Type} [Inhabited α] {enc: α → List Value} {w:World} {g n base:Nat} {os:Array Obj} {d:Array α} (hb:base≤g) (hs:base≤w.heap.size):Go.RowKit.Below base w (sortWorldK enc 2 w g 0 n d os) :=
 ⟨rfl,rfl,rfl,iW,fun k hk=>kl (by omega) (by omega)⟩
theorem pX (l:List Itm):l.attach.map Subtype.val=l:=by simp
theorem uQ {w:World} {g:Nat} {l:List Itm} [Inhabited (InT l)] (h:ay aM 2 w (some ⟨g,0,none⟩) l) (hf:∀j,w.frozen? ⟨g,j,none⟩=false):HoldsK (kW l) 2 w g 0 l.attach.toArray:=by
 intro t ht
 rw[size_flatK] at ht
 rw[get_flatK _ _ _ t ht]
 simp only[List.size_toArray,List.length_attach] at ht
 have hk:t / 2<l.length:=by omega
 refine ⟨?_,hf _⟩
 obtain ⟨b,off,hA,hb,hc⟩:=h.at hk
 obtain ⟨rfl,rfl⟩:g=b∧0=off:=by injection hA with hA;injection hA with h1 h2;exact ⟨h1,h2⟩
 have hk':t / 2<l.attach.toArray.size:=by simpa using hk
 have e:(l.attach.toArray[t / 2]!).1=l[t / 2]:=by rw[getElem!_pos l.attach.toArray (t / 2) hk'];simp
 have:=hc (t / 2) hk (t % 2) (Nat.mod_lt _ (by omega))
 rw[show 0+t / 2*2+t % 2=0+t from by omega] at this
 rw[this]
 unfold kW
 rw[e]
 have hm:t % 2<2:=Nat.mod_lt _ (by omega)
 match t % 2,hm with
 | 0,_=>rfl
 | 1,_=>rfl
theorem zw {w:World} {g:Nat} {l:List Itm} [Inhabited (InT l)] {d:Array (InT l)} (h:HoldsK (kW l) 2 w g 0 d) (hg:g<w.heap.size):ay aM 2 w (some ⟨g,0,none⟩) (d.toList.map Subtype.val):=by
 refine oR ⟨g,0,rfl,hg,fun j hj i hi=> ?_⟩
 have hj':j<d.size:=by simpa using hj
 have h0:=(h (j*2+i) (by rw[size_flatK];omega)).1
 rw[get_flatK _ _ _ _ (by omega)] at h0
 rw[show (j*2+i) / 2=j from by omega,show (j*2+i) % 2=i from by omega,getElem!_pos d j hj'] at h0
 rw[show 0+j*2+i=0+(j*2+i) from by omega,h0]
 simp only[List.getElem_map,Array.getElem_toList]
 unfold kW
 match i,hi with
 | 0,_=>rfl
 | 1,_=>rfl
def xN (fid:Nat) (cb:Array Value):Prop:=∀(x y:Itm) (w:World),ar w x.p x.r→ar w y.p y.r→x.r.length≤maxLen→Calls Z fid (#[X (aM x).toArray,X (aM y).toArray]++cb) w fun e w'=>e= H (J O (aB x.r y.r))∧∃q os',w'=grow (w.drewN q) os'

theorem zE (fid:Nat) (cb:Array Value) (eg:∀args w,(callFunc fid args).run Z w= .ok (.enter fid args) w) (hcmp:xN fid cb) (g cap:Nat) (l:List Itm) (w:World) (hl0:l≠[]) (hrow:ay aM 2 w (some ⟨g,0,none⟩) l) (hf:∀j,w.frozen? ⟨g,j,none⟩=false) (hg:g<w.heap.size) (he:∀x∈l,ar w x.p x.r∧x.r.length≤maxLen∧(x.p=none→x.c=0)∧(∀a,x.p=some a→x.r≠[]→a.block≠g)) (hsz:l.length<4611686018427387904) :
  Calls Z 180 #[I (some ⟨g,0,none⟩) l.length cap,.func (.func fid) #[] cb] w fun e w'=>e= H (Y #[])∧(∃S:List Itm,S.Perm l∧eI (S.map Itm.z)∧Items w' (some ⟨g,0,none⟩) S)∧∀base,base≤g→base≤w.heap.size→Go.RowKit.Below base w w':=by
 obtain ⟨x0,hx0⟩:∃x,x∈l:=List.exists_mem_of_ne_nil l hl0
 haveI:Inhabited (InT l):=⟨⟨x0,hx0⟩⟩
 have hcl:CmpLays Z fid cb (kW l) 2 (wI l) g 0 l.attach.toArray.size w:=fun m os dk _ x y =>
  hcmp x.1 y.1 _ (iU (he _ x.2).1 (he _ x.2).2.2.2) (iU (he _ y.2).1 (he _ y.2).2.2.2) (he _ x.2).2.1
 have hcon:=AnyQ.slices_SortFunc Tryz.sortItm 2 Tryz.isAgg58 Tryz.sizeOf58 (kW l) (fun _=>rfl) (fun x=>fw x.1) (wI l) (zF l) fid cb g 0 cap l.attach.toArray w eg hcl (uQ hrow hf) hg (by simpa using hsz)
 change Calls Z 180 _ _ _ at hcon
 simp only[List.size_toArray,List.length_attach] at hcon
 refine hcon.mono ?_
 rintro e w' ⟨he',d',n,os,hp,hs,hw⟩
 obtain ⟨hsz',_,hperm⟩:=hp
 simp only[List.size_toArray,List.length_attach] at hsz'
 have e1:d'.extract 0 l.length=d':=by rw[←hsz'];exact Array.extract_size
 have e2:(l.attach.toArray.extract 0 l.length).toList=l.attach:=by simp only[List.extract_toArray,List.drop_zero,Nat.sub_zero,List.extract_eq_take_drop];exact List.take_of_length_le (by simp)
 rw[e1,e2] at hperm
 have hpm:(d'.toList.map Subtype.val).Perm l:=by have:=hperm.map Subtype.val;rwa [pX] at this
 refine ⟨he',⟨d'.toList.map Subtype.val,hpm,?_,?_,?_⟩,fun base h1 h2=>by rw[hw];exact ow h1 h2⟩
 ·unfold eI
  rw[List.map_map,List.pairwise_map,List.pairwise_iff_getElem]
  intro i j hi hj hij
  have hi':i<d'.size:=by simpa using hi
  have hj':j<d'.size:=by simpa using hj
  have:=hs i j (nZ _) hij (by omega)
  rw[getElem!_pos d' j hj',getElem!_pos d' i hi',xl,decide_eq_false_iff_not] at this
  have e3:=dK (d'[j]'hj').1.r (d'[i]'hi').1.r
  show aB (d'[i]'hi').1.r (d'[j]'hj').1.r≤0
  omega
 ·have hH':HoldsK (kW l) 2 w' g 0 d':=by
   rw[hw]
   refine holdsK_grow _ _ _ _ _ _ _ (by simp[putRowK];exact hg) ?_
   exact holdsK_putRowK _ _ _ _ _ l.attach.toArray _ (holdsK_ahead _ _ _ _ _ _ _ (uQ hrow hf)) (by simp[hsz'])
  exact zw hH' (by rw[hw];exact nL hg iW)
 ·intro x hx
  have hx':=he x (hpm.mem_iff.1 hx)
  rw[hw]
  exact ⟨iU hx'.1 hx'.2.2.2,hx'.2.1,hx'.2.2.1⟩

theorem um:xN 181 #[]:=by
 intro x y w hx hy hl
 have hrH:Hid (ar w x.p x.r∧ar w y.p y.r∧x.r.length≤maxLen):=⟨hx,hy,hl⟩
 clear hx hy hl
 show Calls Z 181 #[X #[I x.p x.r.length x.c,J O x.n],X #[I y.p y.r.length y.c,J O y.n]] w _
 go_enter Tryz.func181,Tryz.ntmps181
 go_wp2_with fail
 have hg:Gr w ((w.alloc (V #[I x.p x.r.length x.c,J O x.n] 58)).alloc (V #[I y.p y.r.length y.c,J O y.n] 58)):=((gR _).alloc _).alloc _
 refine (eV x.r y.r x.p y.p x.c y.c _ hrH.out.2.2 (hrH.out.1.gr hg) (hrH.out.2.1.gr hg)).mono ?_
 rintro e w' ⟨rfl,hg2⟩
 have hfin:Hid (Gr w w'):=hg.trans hg2
 clear hg hg2
 go_wp2
 go_ret
 exact ⟨rfl,hfin.out⟩

theorem vN (fid:Nat) (eg:∀args w,(callFunc fid args).run Z w= .ok (.enter fid args) w) (hcmp:xN fid #[]) (base:Nat) (v:Value) (l:List Itm) (w:World) (hown:ai aM 2 58 w base v l) (hb:base≤w.heap.size) (he:∀x∈l,ar w x.p x.r∧x.r.length≤maxLen∧(x.p=none→x.c=0)∧(∀a,x.p=some a→x.r≠[]→a.block<base)) (hsz:l.length<4611686018427387904) :
  Calls Z 180 #[v,.func (.func fid) #[] #[]] w fun e w'=>e= H (Y #[])∧(∃(S:List Itm) (A:Option Addr) (cap:Nat),v= I A S.length cap∧S.Perm l∧eI (S.map Itm.z)∧Items w' A S∧(A=none→cap=0))∧Go.RowKit.Below base w w':=by
 obtain ⟨A,cap,rfl,hA,hrow,hcap,hlt,hfz⟩:=ai.full bD hown
 by_cases h0:l=[]
 ·subst h0
  have hcon:=AnyF.slices_SortFunc_none Tryz.sortItm A cap (.func (.func fid) #[] #[]) w
  change Calls Z 180 _ _ _ at hcon
  refine hcon.mono ?_
  rintro e w' ⟨hee,rfl⟩
  exact ⟨hee,⟨[],A,cap,rfl,List.Perm.refl _,List.Pairwise.nil,⟨oL rfl,fun x hx=>absurd hx (by simp)⟩,hA⟩,bR _ _⟩
 ·have hpos:0<l.length:=List.length_pos_iff.2 h0
  obtain ⟨b,off,hAe,hbb,_⟩:=hrow.at hpos
  subst hAe
  have h5:=hlt _ rfl
  obtain rfl:off=0:=h5.2.2.1
  refine (zE fid #[] eg hcmp b cap l w h0 hrow (hfz _ rfl) hbb (fun x hx=> ?_) hsz).mono ?_
  ·have h6:=he x hx
   refine ⟨h6.1,h6.2.1,h6.2.2.1,fun a ha hr=> ?_⟩
   have h7:=h6.2.2.2 a ha hr
   have h8:base≤b:=h5.1
   omega
  ·rintro e w' ⟨he,⟨S,hp,hs,hit⟩,hbel⟩
   exact ⟨he,⟨S,_,cap,by rw[hp.length_eq],hp,hs,hit,hA⟩,hbel base h5.1 hb⟩


theorem eu (w:World) {ops:Array Oper} {rest:List Oper} {o:Oper} {a:Act} {Q:Exit→Act→World→Prop} (hgd:o.guard=none) (s x:Operand)
  (ho:o.op= .call { callee:= .builtin .append,args:= #[s,x],argTypes:= #[53,53] })
  (base:Nat) (v:Value) (l m:List Itm) (A:Option Addr) (cap:Nat) (hs:a.eval s=v) (hx:a.eval x= I A m.length cap) (hown:ai aM 2 58 w base v l) (hr:ay aM 2 w A m) (hA:A=none→cap=0)
  (hml:l.length+m.length≤maxLen) (hb:(l.length+m.length)*32≤140737488355328) (hbase:base≤w.heap.size)
  (h:∀v' w',ai aM 2 58 w' base v' (l++m)→w.grownBy w' v.ownBlock→wpList Z ops Q rest (a.put o.dst v') w'):wpList Z ops Q (o::rest) a w :=
 wpList_plain hgd fun _ hK=>eG bD fw (by omega) 53 Tryz.underlying53 (X #[I none 0 0,J O 0]) 32 Tryz.infoT rfl w s x ho base v l m A cap hs hx hown hr hA hml hb hbase fun v' w' h2 h3=>hK _ _ (h v' w' h2 h3)
theorem uL (n:Nat) (w:World) (hn:n≤100000) :
  Calls Z 203 #[I none 0 0,J O n] w fun e w'=>∃v,e= H v∧ai aM 2 58 w' w.heap.size v []∧Below w.heap.size w w':=by
 obtain ⟨i0,hi,hz0,hz1,hz2⟩:=info_parts Tryz.infoT
 by_cases h0:n=0
 ·subst h0
  go_enter Tryz.func203,Tryz.ntmps203
  go_wp2
  go_ret
  exact ⟨_,rfl,ai.nil _ _ _ _ _,bR _ _⟩
 ·have hpos:(0:Int)<(n:Int):=by omega
  go_enter Tryz.func203,Tryz.ntmps203
  have hrun:=fun ty=>Lib.run_append_nil_zeros (P:=Z) w 53 3 ty 58 i0 _ O O Tryz.underlying53 Tryz.underlying3 hi hz0 n (by omega) (by omega) (by omega) (by rw[hz2];omega)
  have hfin:Hid (ai aM 2 58 (w.drew.alloc (V (Builtin.zeroCells (Value.agg #[I none 0 0,J O 0]).cells n++Builtin.zeroCells (Value.agg #[I none 0 0,J O 0]).cells (grownCap w n 0 58-n)) 58)) w.heap.size (I (some ⟨w.heap.size,0,none⟩) 0 (grownCap w n 0 58)) []∧Below w.heap.size w (w.drew.alloc (V (Builtin.zeroCells (Value.agg #[I none 0 0,J O 0]).cells n++Builtin.zeroCells (Value.agg #[I none 0 0,J O 0]).cells (grownCap w n 0 58-n)) 58))):=by
   refine ⟨⟨by simp[aI],.inr ⟨w.heap.size,_,_,rfl,nR _,heap_alloc_new w.drew _,nZ _,grownCap_le_maxLen _ _ _ _ (by unfold maxLen;omega),?_,by simp[aI]⟩⟩,((gR w).drew.alloc _).below⟩
   have h1:=grownCap_ge w n 0 58
   have e1:(Value.agg #[I none 0 0,J O 0]).cells.size=2:=rfl
   rw[Array.size_append,size_zeroCells,size_zeroCells,e1];omega
  have hle:Hid (n≤grownCap w n 0 58∧grownCap w n 0 58≤9223372036854775807):=⟨grownCap_ge _ _ _ _,grownCap_le_maxLen _ _ _ _ (by unfold maxLen;omega)⟩
  go_wp2_with (at_builtin;refine Lib.wpList_append_run _ rfl _ _ _ _ rfl _ _ rfl rfl _ _ (hrun _) ?_)
  go_ret
  exact ⟨_,rfl,hfin.out.1,hfin.out.2⟩

structure Sl where
 A:Option Addr
 cap:Nat
 l:List Itm
def eD (x:Sl):List Value:=[I x.A x.l.length x.cap]
theorem oM {ss:List Sl} (h:ss.length≤2) (hl:∀s∈ss,s.l.length≤400):(ss.flatMap (·.l)).length≤800:=by
 match ss,h with
 | [],_=>simp
 | [a],_=>have:=hl a (by simp);simp;omega
 | [a,b],_=>have h1:=hl a (by simp);have h2:=hl b (by simp);simp;omega
theorem mI {ss:List Sl} {k:Nat} (hk:k<ss.length):(ss.take (k+1)).flatMap (·.l)=(ss.take k).flatMap (·.l)++ss[k].l:=by
 rw[List.take_succ_eq_append_getElem hk,List.flatMap_append,List.flatMap_cons,List.flatMap_nil,List.append_nil]
theorem rE {ss:List Sl} (k:Nat):((ss.take k).flatMap (·.l)).length≤(ss.flatMap (·.l)).length:=by
 conv=>rhs;rw[←List.take_append_drop k ss,List.flatMap_append,List.length_append]
 omega

theorem qd (ss:List Sl) (B:Option Addr) (cb:Nat) (w:World) (hrow:ay eD 1 w B ss) (hlen:ss.length≤2) (hss:∀s∈ss,ay aM 2 w s.A s.l∧(s.A=none→s.cap=0)∧s.l.length≤400) :
  Calls Z 179 #[I B ss.length cb] w fun e w'=>∃v,e= H v∧ai aM 2 58 w' w.heap.size v (ss.flatMap (·.l))∧Below w.heap.size w w':=by
 have hall:Hid ((ss.flatMap (·.l)).length≤800):=oM hlen fun s hs=>(hss s hs).2.2
 have hrH:Hid (ay eD 1 w B ss∧∀s∈ss,ay aM 2 w s.A s.l∧(s.A=none→s.cap=0)∧s.l.length≤400):=⟨hrow,hss⟩
 clear hrow hss
 go_enter Tryz.func179,Tryz.ntmps179
 go_wp2
 go_loopw [3,11] (fun n i wr=>∃k:Nat,k≤ss.length∧i= J O k∧n= J O (((ss.take k).flatMap (·.l)).length:Nat)∧wr=w) (fun _ i _=>ss.length-(intOf i).toNat)
 case atStart=>exact ⟨0,nZ _,rfl,by simp,rfl⟩
 case round =>
  obtain ⟨k,hk,rfl,rfl,rfl⟩:=hrel
  by_cases hlt:k<ss.length
  ·have hltz:(k:Int)<(ss.length:Int):=by omega
   obtain ⟨b,off,rfl,hb,hcs⟩:=hrH.out.1.at hlt
   have e0:=hcs k hlt 0 (by omega)
   obtain ⟨s,hs⟩:∃s,ss[k]=s:=⟨_,rfl⟩
   rw[hs] at e0
   have e1:wr.cell? ⟨b,off+k,none⟩=some (I s.A s.l.length s.cap):=by simpa[eD] using e0
   have hst:Hid (((ss.take (k+1)).flatMap (·.l)).length=((ss.take k).flatMap (·.l)).length+s.l.length):=by show _=_;rw[mI hlt,hs,List.length_append]
   have hle:((ss.take (k+1)).flatMap (·.l)).length≤800:=nT (rE _) hall.out
   rw[hst.out] at hle
   obtain ⟨m,hm⟩:∃m,((ss.take k).flatMap (·.l)).length=m:=⟨_,rfl⟩
   rw[hm] at hle ⊢
   have hmH:Hid (((ss.take k).flatMap (·.l)).length=m):=hm
   clear hcs e0 hs hm
   have hw1:IntKind.i64.wrap ((m:Int)+(s.l.length:Int))=(m:Int)+(s.l.length:Int):=by rw[IntKind.wrap_i64];omega
   have hge:¬((m:Int)+(s.l.length:Int))<0:=by omega
   go_wp2
   go_roundw
   case rel =>
    refine ⟨k+1,by omega,by go_num,?_,by trivial⟩
    rw[hst.out,hmH.out];go_num
   case measure=>simp[intOf];omega
  ·have hltz:¬(k:Int)<(ss.length:Int):=by omega
   have hke:ss.take k=ss:=List.take_of_length_le (by omega)
   rw[hke]
   have hgw:=uL (ss.flatMap (·.l)).length wr (by have:=hall.out;omega)
   have hgwH:Hid _:=hgw
   clear hgw hke hlt hk
   obtain ⟨N,hN⟩:∃N,(ss.flatMap (·.l)).length=N:=⟨_,rfl⟩
   rw[hN] at hgwH ⊢
   clear hN
   go_wp2_with fail
   refine cM (show Calls _ _ _ _ _ from hgwH.out) ?_
   rintro e w1 ⟨v0,rfl,hown0,hb0⟩
   clear hgwH
   go_wp2
   go_loopw [6,27] (fun v i w2=>∃k:Nat,k≤ss.length∧i= J O k∧ai aM 2 58 w2 wr.heap.size v ((ss.take k).flatMap (·.l))∧Below wr.heap.size wr w2) (fun _ i _=>ss.length-(intOf i).toNat)
   case atStart=>exact ⟨0,nZ _,rfl,by simpa using hown0,hb0⟩
   case round =>
    rename World=>w2
    obtain ⟨k,hk,rfl,hown,hbel⟩:=hrel
    by_cases hlt:k<ss.length
    ·have hltz:(k:Int)<(ss.length:Int):=by omega
     obtain ⟨b,off,rfl,hb,hcs⟩:=hrH.out.1.at hlt
     have e0:=hcs k hlt 0 (by omega)
     obtain ⟨s,hs⟩:∃s,ss[k]=s:=⟨_,rfl⟩
     rw[hs] at e0
     have e1:w2.cell? ⟨b,off+k,none⟩=some (I s.A s.l.length s.cap):=(hbel.cell (p:=⟨b,off+k,none⟩) hb).trans (by simpa[eD] using e0)
     have hst:Hid ((ss.take (k+1)).flatMap (·.l)=(ss.take k).flatMap (·.l)++s.l):=by show _=_;rw[mI hlt,hs]
     have hle:((ss.take (k+1)).flatMap (·.l)).length≤800:=nT (rE _) hall.out
     rw[hst.out,List.length_append] at hle
     have hsf:=hrH.out.2 s (by rw[←hs];exact gM hlt)
     obtain ⟨M,hM⟩:∃M,(ss.take k).flatMap (·.l)=M:=⟨_,rfl⟩
     rw[hM] at hown hst hle
     have hsH:Hid (ay aM 2 w2 s.A s.l∧(s.A=none→s.cap=0)∧ai aM 2 58 w2 wr.heap.size u6 M∧M.length+s.l.length≤maxLen∧(M.length+s.l.length)*32≤140737488355328∧wr.heap.size≤w2.heap.size):=⟨hsf.1.below hbel,hsf.2.1,hown,by unfold maxLen;omega,by omega,hbel.size⟩
     have hbelH:Hid (Below wr.heap.size wr w2):=hbel
     clear hcs e0 hs hle hsf hM hown hbel
     go_wp2_with (at_builtin;refine eu _ rfl (.tmp 31) (.tmp 32) rfl wr.heap.size u6 M s.l s.A s.cap rfl rfl hsH.out.2.2.1 hsH.out.1 hsH.out.2.1 hsH.out.2.2.2.1 hsH.out.2.2.2.2.1 hsH.out.2.2.2.2.2 ?_;intro v3 w3 hown3 hg3)
     have hfin:Hid (Go.RowKit.Below wr.heap.size wr w3):=hbelH.out.trans (ai.grown_below hsH.out.2.2.1 hg3 hsH.out.2.2.2.2.2)
     go_roundw
     case rel=>exact ⟨k+1,by omega,by go_num,by rw[hst.out];exact hown3,hfin.out⟩
     case measure=>simp[intOf];omega
    ·have hltz:¬(k:Int)<(ss.length:Int):=by omega
     have hke:ss.take k=ss:=List.take_of_length_le (by omega)
     rw[hke] at hown
     have hfin:Hid (ai aM 2 58 w2 wr.heap.size u6 (ss.flatMap (·.l))∧Below wr.heap.size wr w2):=⟨hown,hbel⟩
     clear hown hbel hke
     go_wp2
     go_ret
     exact ⟨u6,rfl,hfin.out.1,hfin.out.2⟩


theorem xf {l:List Itm} {k:Nat} (h:k<l.length):(l.map Itm.z).getD k ([],0)=l[k].z:=by
 rw[List.getD_eq_getElem?_getD,List.getElem?_map,List.getElem?_eq_getElem h];rfl
def okI (l:List Itm) (k:Nat):Bool:=okZ ((l.map Itm.z).getD k ([],0)) && ji (l.map Itm.z) k
theorem po {l:List Itm} {x:Itm} (h:0<l.length) (hx:l[0]=x):okI l 0=okZ x.z:=by
 unfold okI ji
 rw[xf h,hx];simp
theorem lF {l:List Itm} {m:Nat} {x y:Itm} (h:m+1<l.length) (hx:l[m+1]=x) (hy:l[m]=y):okI l (m+1)=(okZ x.z && decide (aB y.r x.r<0)):=by
 unfold okI ji
 rw[xf h,Nat.add_sub_cancel,xf (show m<l.length by omega),hx,hy]
 simp[Itm.z]
 rfl
theorem mE {l:List Itm} {k:Nat} (h4:¬ 400<l.length) (hk:k<l.length) (h:okI l k=false):aw (l.map Itm.z)=5:=by
 unfold aw
 rw[if_neg (by simpa using h4),if_pos ⟨k,by simpa using hk,h⟩]
theorem wW {l:List Itm} (h4:¬ 400<l.length) (h:∀k,k<l.length→okI l k=true):aw (l.map Itm.z)=0:=by
 unfold aw
 rw[if_neg (by simpa using h4),if_neg]
 rintro ⟨k,hk,hf⟩
 have:=h k (by simpa using hk)
 unfold okI at this
 rw[hf] at this;cases this
theorem pt {a b:List Int} {A B:Option Addr} {ca cb:Nat} {r:Int} (h:aB a b=r) (w:World) (hal:a.length≤maxLen) (hra:ar w A a) (hrb:ar w B b) :
  Calls Z 164 #[I A a.length ca,I B b.length cb] w fun e w'=>e= H (J O r)∧∃q os',w'=grow (w.drewN q) os':=by
 rw[←h];exact eV a b A B ca cb w hal hra hrb

theorem fR (l:List Itm) (A:Option Addr) (cap:Nat) (w:World) (hl:l.length≤maxLen) (hr:Items w A l) :
  Calls Z 131 #[I A l.length cap] w fun e w'=>e= H (J O (aw (l.map Itm.z)))∧Gr w w':=by
 have mixed:Tryz.prog.follows .mixedOrders=true:=by kernel_rfl
 unfold maxLen at hl
 have hrH:Hid (Items w A l):=hr
 clear hr
 by_cases h4:400<l.length
 ·have e:aw (l.map Itm.z)=2:=by unfold aw;rw[if_pos (by simpa using h4)]
  rw[e];clear e
  have h4z:(400:Int)<(l.length:Int):=by omega
  go_enter Tryz.func131,Tryz.ntmps131
  go_wp2
  go_ret
  exact ⟨rfl,gR _⟩
 ·have h4z:¬(400:Int)<(l.length:Int):=by omega
  go_enter Tryz.func131,Tryz.ntmps131
  go_wp2
  go_loopw [10] (fun i wr=>∃k:Nat,k≤l.length∧i= J O k∧Hid (∀j,j<k→okI l j=true)∧Gr w wr) (fun i _=>l.length-(intOf i).toNat)
  case atStart=>exact ⟨0,by omega,rfl,fun j h=>by omega,gR _⟩
  case round =>
   rename World=>wr0
   obtain ⟨k,hk,rfl,hall,hgr⟩:=hrel
   by_cases hlt:k<l.length
   ·have hltz:(k:Int)<(l.length:Int):=by omega
    have hrR:Hid (Items wr0 A l):=hrH.out.gr hgr
    obtain ⟨b,off,rfl,hb,hcs⟩:=hrR.out.at hlt
    obtain ⟨x,hx⟩:∃x,l[k]=x:=⟨_,rfl⟩
    obtain ⟨e0,e1⟩:=hcs k hlt
    rw[hx] at e0 e1
    have hcsH:Hid (∀j (h:j<l.length),_):=hcs
    have hxH:Hid (l[k]=x):=hx
    have hxr:Hid (ar wr0 x.p x.r∧x.r.length≤maxLen):=⟨(hrR.out.each x (by rw[←hx];exact gM hlt)).1,(hrR.out.each x (by rw[←hx];exact gM hlt)).2.1⟩
    clear hcs hx
    have hgX:Gr wr0 (wr0.alloc (V #[I x.p x.r.length x.c,J O x.n] 58)):=(gR _).alloc _
    have x0:(wr0.alloc (V #[I x.p x.r.length x.c,J O x.n] 58)).cell? ⟨wr0.heap.size,0,none⟩=some (I x.p x.r.length x.c):=ab (gR _) rfl
    have x1:(wr0.alloc (V #[I x.p x.r.length x.c,J O x.n] 58)).cell? ⟨wr0.heap.size,1,none⟩=some (J O x.n):=ab (gR _) rfl
    have hrow:=mO x.r x.p x.c (wr0.alloc (V #[I x.p x.r.length x.c,J O x.n] 58)) hxr.out.2 (hxr.out.1.gr hgX)
    have hrowH:Hid _:=hrow
    clear hrow
    go_wp2_with fail
    refine cM (show Calls _ _ _ _ _ from hrowH.out) ?_
    rintro e w2 ⟨rfl,hg2⟩
    clear hrowH x0 x1
    have hgw2:Gr w w2:=(hgr.trans hgX).trans hg2
    have x0:w2.cell? ⟨wr0.heap.size,0,none⟩=some (I x.p x.r.length x.c):=ab hg2 rfl
    have x1:w2.cell? ⟨wr0.heap.size,1,none⟩=some (J O x.n):=ab hg2 rfl
    have hbadH:Hid (okZ x.z=false→aw (l.map Itm.z)=5):=fun h=>by
     refine mE h4 hlt ?_
     cases k with
     | zero=>rw[po hlt hxH.out,h]
     | succ m=>rw[lF hlt hxH.out rfl,h];rfl
    cases hrb:okR x.r
    ·have hfin:Hid (aw (l.map Itm.z)=5):=hbadH.out (by simp[okZ,Itm.z,hrb])
     go_wp2
     go_ret
     exact ⟨by rw[hfin.out];rfl,hgw2⟩
    ·have hwt:=fY x.n w2
     cases hwb:okW x.n
     ·have hfin:Hid (aw (l.map Itm.z)=5):=hbadH.out (by simp[okZ,Itm.z,hwb])
      rw[hwb] at hwt
      have hwtH:Hid _:=hwt
      clear hwt
      go_wp2_with (go_at_call 163;(refine cM (show Calls _ _ _ _ _ from hwtH.out) ?_);rintro e w' ⟨rfl,rfl⟩)
      go_ret
      exact ⟨by rw[hfin.out];rfl,hgw2⟩
     ·rw[hwb] at hwt
      have hwtH:Hid _:=hwt
      clear hwt
      cases hn0:(x.n==0)
      ·have hokH:Hid (okZ x.z=true):=by
        have:x.n≠0:=by simpa using hn0
        simp[okZ,Itm.z,hrb,hwb,this,Hid]
       cases k with
       | zero =>
        have hoka:Hid (okI l 0=true):=by show okI l 0=true;rw[po hlt hxH.out];exact hokH.out
        go_wp2_with (first|(go_at_call 163;(refine cM (show Calls _ _ _ _ _ from hwtH.out) ?_);rintro e w' ⟨rfl,rfl⟩)|fail)
        refine wp_region_quiet_grown mixed (by kernel_rfl) ?_
        repeat (go_big_quiet_step (fail))
        refine wpQuiet_nil ?_
        rintro _ ⟨⟨nq2,osq2⟩,rfl⟩
        go_wp2
        go_roundw
        case rel =>
         refine ⟨_,hlt,by go_num,?_,hgw2.trans ⟨nq2,osq2,rfl⟩⟩
         intro j hj
         by_cases e:j=0
         ·rw[e];exact hoka.out
         ·exact hall j (by omega)
        case measure=>simp[intOf];omega
       | succ m =>
        obtain ⟨y,hy⟩:∃y,l[m]=y:=⟨_,rfl⟩
        obtain ⟨f0,f1⟩:=hcsH.out m (by omega)
        rw[hy] at f0 f1
        have hyH:Hid (l[m]=y):=hy
        have hyr:Hid (ar wr0 y.p y.r∧y.r.length≤maxLen):=⟨(hrR.out.each y (by rw[←hy];exact gM (by omega))).1,(hrR.out.each y (by rw[←hy];exact gM (by omega))).2.1⟩
        clear hy
        have hg02:Gr wr0 w2:=hgX.trans hg2
        have q0:=hg02.cellG (a:=⟨b,off+m*2,none⟩) hb f0
        have xlt:wr0.heap.size<w2.heap.size:=World.block_lt_of_cell? w2 ⟨wr0.heap.size,0,none⟩ x0
        have p0:=(gR w2).cellG (a:=⟨wr0.heap.size,0,none⟩) xlt x0
        have hRY:Hid (∀n os,ar (grow (w2.drewN n) os) y.p y.r):=fun n os=>hyr.out.1.gr (hg02.trans ⟨n,os,rfl⟩)
        have hRX:Hid (∀n os,ar (grow (w2.drewN n) os) x.p x.r):=fun n os=>hxr.out.1.gr (hg02.trans ⟨n,os,rfl⟩)
        clear f0 f1
        obtain ⟨r,hrr⟩:∃r,aB y.r x.r=r:=⟨_,rfl⟩
        have hrrH:Hid (aB y.r x.r=r):=hrr
        clear hrr
        by_cases hbe:r<0
        ·have hbz:¬(0:Int)≤r:=by omega
         have hoka:Hid (okI l (m+1)=true):=by
          show okI l (m+1)=true
          rw[lF hlt hxH.out hyH.out,hokH.out,hrrH.out];simp[hbe]
         go_wp2_with (first|(go_at_call 163;(refine cM (show Calls _ _ _ _ _ from hwtH.out) ?_);rintro e w' ⟨rfl,rfl⟩)|fail)
         refine wp_region_quiet_grown mixed (by kernel_rfl) ?_
         repeat (go_big_quiet_step ((go_at_call 164;refine Calls.grown_of (pt hrrH.out _ hyr.out.2 (hRY.out _ _) (hRX.out _ _)))))
         refine wpQuiet_nil ?_
         rintro _ ⟨⟨nq2,osq2⟩,rfl⟩
         go_wp2
         go_roundw
         case rel =>
          refine ⟨_,hlt,by go_num,?_,hgw2.trans ⟨nq2,osq2,rfl⟩⟩
          intro j hj
          by_cases e:j=m+1
          ·rw[e];exact hoka.out
          ·exact hall j (by omega)
         case measure=>simp[intOf];omega
        ·have hbz:(0:Int)≤r:=by omega
         have hfin:Hid (aw (l.map Itm.z)=5):=mE h4 hlt (by rw[lF hlt hxH.out hyH.out,hrrH.out];simp[hbe])
         go_wp2_with (first|(go_at_call 163;(refine cM (show Calls _ _ _ _ _ from hwtH.out) ?_);rintro e w' ⟨rfl,rfl⟩)|fail)
         refine wp_region_quiet_grown mixed (by kernel_rfl) ?_
         repeat (go_big_quiet_step ((go_at_call 164;refine Calls.grown_of (pt hrrH.out _ hyr.out.2 (hRY.out _ _) (hRX.out _ _)))))
         refine wpQuiet_nil ?_
         rintro _ ⟨⟨nq2,osq2⟩,rfl⟩
         go_wp2
         go_ret
         exact ⟨by rw[hfin.out];rfl,hgw2.trans ⟨nq2,osq2,rfl⟩⟩
      ·have hfin:Hid (aw (l.map Itm.z)=5):=hbadH.out (by have:x.n=0:=(by simpa using hn0);simp[okZ,Itm.z,this])
       go_wp2_with (go_at_call 163;(refine cM (show Calls _ _ _ _ _ from hwtH.out) ?_);rintro e w' ⟨rfl,rfl⟩)
       go_ret
       exact ⟨by rw[hfin.out];rfl,hgw2⟩
   ·have hltz:¬(k:Int)<(l.length:Int):=by omega
    have hfin:Hid (aw (l.map Itm.z)=0):=wW h4 fun j hj=>hall j (by omega)
    go_wp2
    go_ret
    exact ⟨by rw[hfin.out];rfl,hgr⟩


theorem k6 (l:List Int) (A:Option Addr) (cap:Nat) (w:World) (hl:l.length*8≤140737488355328) (hA:A=none→cap=0) (hr:ar w A l) :
  Calls Z 132 #[I A l.length cap] w fun e w'=>∃C c,e= H (I C l.length c)∧ar w' C l∧(C=none→c=0)∧(∀a,C=some a→w.heap.size≤a.block∧a.block<w'.heap.size)∧Below w.heap.size w w'∧(eK w' C c∧l.length≤c):=by
 have hlm:Hid (0+l.length≤maxLen∧(0+l.length)*8≤140737488355328):=by show _∧_;unfold maxLen;omega
 have hrH:Hid (ar w A l∧(A=none→cap=0)):=⟨hr,hA⟩
 clear hr hA
 go_enter Tryz.func132,Tryz.ntmps132
 go_wp2_with (at_builtin;refine aW _ rfl _ _ rfl w.heap.size (I none 0 0) [] l A cap rfl rfl (ai.nil _ _ _ _ _) hrH.out.1 hrH.out.2 hlm.out.1 hlm.out.2 (nR _) ?_)
 intro v1 w3 hown1 hgr1
 have hb3:Hid (Below w.heap.size w w3):=dC hgr1
 obtain ⟨C,c,rfl,hC,hrow,hlc,hlt0,_⟩:=ai.full bP hown1
 have hlt:∀a,C=some a→w.heap.size≤a.block∧a.block<w3.heap.size:=fun a ha=>⟨(hlt0 a ha).1,(hlt0 a ha).2.1⟩
 have hroom:Hid (eK w3 C c∧l.length≤c):=⟨hown1.roomI,by simpa using hlc⟩
 have hfin:Hid (ar w3 C l∧(C=none→c=0)∧(∀a,C=some a→w.heap.size≤a.block∧a.block<w3.heap.size)):=⟨by simpa using hrow,hC,hlt⟩
 clear hown1 hgr1 hC hrow hlt hlt0 hlc
 go_wp2
 go_ret
 exact ⟨C,c,by simp,hfin.out.1,hfin.out.2.1,hfin.out.2.2,hb3.out,hroom.out⟩


theorem kZ {l:List Zit} (h:aw l=0):l.length≤400∧∀k,k<l.length→okZ (l.getD k ([],0))=true∧ji l k=true:=by
 unfold aw at h
 by_cases h4:400<l.length
 ·rw[if_pos h4] at h;cases h
 ·rw[if_neg h4] at h
  refine ⟨by omega,fun k hk=> ?_⟩
  by_cases h5:∃k,k<l.length∧(okZ (l.getD k ([],0)) && ji l k)=false
  ·rw[if_pos h5] at h;cases h
  ·have:(okZ (l.getD k ([],0)) && ji l k)=true:=by
    cases e:(okZ (l.getD k ([],0)) && ji l k)
    ·exact absurd ⟨k,hk,e⟩ h5
    ·rfl
   simpa using this
theorem sz {l:List Itm} (h:aw (l.map Itm.z)=0) {k:Nat} (hk:k<l.length):l[k].r.length≤8∧okW l[k].n=true∧l[k].n≠0:=by
 have:=((kZ h).2 k (by simpa using hk)).1
 rw[xf hk] at this
 unfold okZ okR Itm.z at this
 simp at this
 exact ⟨this.1.1.1,this.1.2,this.2⟩
def gx (l:List Zit):List Zit:=if aw l=0 then l.map (fun x=>(x.1,-x.2)) else []

theorem d9 {W:World} {n:Nat} (hn:W.heap.size=n) (x:Itm) (T:TypeId):ay aM 2 (W.alloc (V #[I x.p x.r.length x.c,J O x.n] T)) (some ⟨n,0,none⟩) [x]:=by
 subst hn
 refine oR ⟨W.heap.size,0,rfl,by simp,fun j hj i hi=> ?_⟩
 obtain rfl:j=0:=by simp at hj;omega
 have hi':i=0∨i=1:=by omega
 rcases hi' with rfl|rfl
 ·exact ab (w:=W) (gR _) (j:=0) rfl
 ·exact ab (w:=W) (gR _) (j:=1) rfl

theorem eL.snoc {w w':World} {L:List Itm} {x:Itm} (h:eL w L) (q:Below w.heap.size w w') (hx:eK w' x.p x.c∧x.r.length≤x.c):eL w' (L++[x]):=fun z hz=>by
 rcases List.mem_append.1 hz with hz|hz
 ·exact (h.below q) z hz
 ·rw[List.mem_singleton.1 hz];exact hx
theorem xo (l:List Itm) (A:Option Addr) (cap:Nat) (w:World) (hl:l.length≤maxLen) (hr:Items w A l) :
  Calls Z 103 #[I A l.length cap] w fun e w'=>∃(L:List Itm) (C:Option Addr) (c:Nat),e= H (Y #[I C L.length c,J O (aw (l.map Itm.z))])∧L.map Itm.z=gx (l.map Itm.z)∧Items w' C L∧du C L.length c∧Below w.heap.size w w'∧NwT w' c w.heap.size C L:=by
 have hck:=fR l A cap w hl hr
 unfold maxLen at hl
 have hrH:Hid (Items w A l):=hr
 have hckH:Hid _:=hck
 clear hck hr
 go_enter Tryz.func103,Tryz.ntmps103
 go_wp2_with fail
 refine cM (show Calls _ _ _ _ _ from hckH.out) ?_
 rintro e w1 ⟨rfl,hg1⟩
 clear hckH
 obtain ⟨E,hE⟩:∃E,aw (l.map Itm.z)=E:=⟨_,rfl⟩
 have hEH:Hid (aw (l.map Itm.z)=E):=hE
 rw[hE]
 clear hE
 cases hq:(E != 0)
 ·have hE0:E=0:=by simpa using hq
  have h0H:Hid (aw (l.map Itm.z)=0):=by show _=_;rw[hEH.out,hE0]
  subst hE0
  go_wp2
  go_loopw [5,15] (fun v i wr=>∃(k:Nat) (L:List Itm),k≤l.length∧i= J O k∧Hid (L.length=k)∧Hid (L.map Itm.z=(l.take k).map (fun x=>(x.r,-x.n)))∧OwnT wr w1.heap.size v L∧Below w1.heap.size w1 wr∧Hid (eL wr L)) (fun _ i _=>l.length-(intOf i).toNat)
  case atStart=>exact ⟨0,[],by omega,rfl,rfl,by simp[Hid],OwnT.nil _ _,bR _ _,fun x hx=>by cases hx⟩
  case round =>
   obtain ⟨k,L,hk,rfl,hLk,hLz,hov,hbel,hrm⟩:=hrel
   have hovH:Hid (OwnT wr w1.heap.size u5 L∧Below w1.heap.size w1 wr):=⟨hov,hbel⟩
   by_cases hlt:k<l.length
   ·have hltz:(k:Int)<(l.length:Int):=by omega
    have hI:Hid (Items wr A l):=(hrH.out.gr hg1).below hbel
    obtain ⟨bb,off,rfl,hb,hcs⟩:=hI.out.at hlt
    obtain ⟨x,hx⟩:∃x,l[k]=x:=⟨_,rfl⟩
    obtain ⟨e0,e1⟩:=hcs k hlt
    rw[hx] at e0 e1
    have hxE:=hI.out.each x (by rw[←hx];exact gM hlt)
    have hxI:=sz h0H.out hlt
    rw[hx] at hxI
    have hxr:Hid (ar wr x.p x.r∧(x.p=none→x.c=0)∧x.r.length≤8∧okW x.n=true):=⟨hxE.1,hxE.2.2,hxI.1,hxI.2.1⟩
    have hst:Hid ((l.take (k+1)).map (fun x=>(x.r,-x.n))=(l.take k).map (fun x=>(x.r,-x.n))++[(x.r,-x.n)]):=by show _=_;rw[List.take_succ_eq_append_getElem hlt,hx];simp
    have hwr:IntKind.i64.wrap (-x.n)= -x.n:=by
     have h:=hxI.2.1
     simp only[okW,inB,Bool.and_eq_true,decide_eq_true_eq] at h
     rw[IntKind.wrap_i64];omega
    have hl4:Hid (l.length≤400):=by show _≤_;have:=(kZ h0H.out).1;simpa using this
    clear hcs hx hxE hxI hov hbel
    have hgX:Hid (Gr wr (wr.alloc (V #[I x.p x.r.length x.c,J O x.n] 58))):=(gR _).alloc _
    have x0:(wr.alloc (V #[I x.p x.r.length x.c,J O x.n] 58)).cell? ⟨wr.heap.size,0,none⟩=some (I x.p x.r.length x.c):=ab (gR _) rfl
    have x1:(wr.alloc (V #[I x.p x.r.length x.c,J O x.n] 58)).cell? ⟨wr.heap.size,1,none⟩=some (J O x.n):=ab (gR _) rfl
    have hcp0:=k6 x.r x.p x.c (wr.alloc (V #[I x.p x.r.length x.c,J O x.n] 58)).drew (by have:=hxr.out.2.2.1;omega) hxr.out.2.1 ((hxr.out.1.gr hgX.out).gr (gR _).drew)
    have hcp:Hid _:=hcp0
    clear hcp0
    go_upto_region 8 with fail
    have hKeep:Hid (∀w':World,Below (wr.alloc (V #[I x.p x.r.length x.c,J O x.n] 58)).heap.size (wr.alloc (V #[I x.p x.r.length x.c,J O x.n] 58)) w'→(fun w'=>w'.cell? ⟨wr.heap.size,0,none⟩=some (I x.p x.r.length x.c)∧w'.cell? ⟨wr.heap.size,1,none⟩=some (J O x.n)) w'):=fun w' hb=>⟨(hb.cell (p:=⟨wr.heap.size,0,none⟩) (by simp)).trans x0,(hb.cell (p:=⟨wr.heap.size,1,none⟩) (by simp)).trans x1⟩
    have hbd:Below (wr.alloc (V #[I x.p x.r.length x.c,J O x.n] 58)).heap.size (wr.alloc (V #[I x.p x.r.length x.c,J O x.n] 58)) (wr.alloc (V #[I x.p x.r.length x.c,J O x.n] 58)).drew:=(bR _ _).drew
    have hszX:Hid (w1.heap.size≤wr.heap.size∧(wr.alloc (V #[I x.p x.r.length x.c,J O x.n] 58)).heap.size=wr.heap.size+1):=⟨hovH.out.2.size,by simp⟩
    have hsd:(wr.alloc (V #[I x.p x.r.length x.c,J O x.n] 58)).drew.heap.size=wr.heap.size+1:=by simp[World.drew]
    have hob:Hid (∀j,u5.ownBlock=some j→j<wr.heap.size):=fun j hj=>(World.ownsRow.lt hovH.out.1.own j hj).2
    have hmkX:Hid (∀(y1:World) (C:Option Addr) (c:Nat),Below (wr.alloc (V #[I x.p x.r.length x.c,J O x.n] 58)).heap.size (wr.alloc (V #[I x.p x.r.length x.c,J O x.n] 58)) y1→(ar y1 C x.r∧(C=none→c=0)∧(∀a,C=some a→wr.heap.size+1≤a.block∧a.block<y1.heap.size))→OwnT (y1.alloc (V #[I C x.r.length c,J O (-x.n)] 58)) w1.heap.size u5 L∧Apart (y1.alloc (V #[I C x.r.length c,J O (-x.n)] 58)) w1.heap.size u5.ownBlock ⟨C,c,x.r,-x.n⟩∧(L.length+1≤maxLen∧(L.length+1)*32≤140737488355328)∧w1.heap.size≤(y1.alloc (V #[I C x.r.length c,J O (-x.n)] 58)).heap.size):=by
     intro y1 C c hb1 hC
     have hbY:Below wr.heap.size wr (y1.alloc (V #[I C x.r.length c,J O (-x.n)] 58)):=hgX.out.below.trans ((hb1.alloc hb1.size _).mono hgX.out.size)
     refine ⟨hovH.out.1.below hbY,⟨hC.1.gr ((gR _).alloc _),nT hxr.out.2.2.1 (by decide),hC.2.1,fun a ha=>⟨?_,?_,?_⟩⟩,⟨?_,?_⟩,nT hszX.out.1 hbY.size⟩
     ·have h1:=(hC.2.2 a ha).1
      have h2:=hszX.out.1
      omega
     ·have h1:=(hC.2.2 a ha).2
      simp;omega
     ·intro e
      have h1:=hob.out a.block e
      have h2:=(hC.2.2 a ha).1
      omega
     ·have h1:=hLk.out
      have h2:=hl4.out
      unfold maxLen;omega
     ·have h1:=hLk.out
      have h2:=hl4.out
      omega
    have hmk3:Hid (∀(y1:World) (C:Option Addr) (c:Nat) (w3:World),Below (wr.alloc (V #[I x.p x.r.length x.c,J O x.n] 58)).heap.size (wr.alloc (V #[I x.p x.r.length x.c,J O x.n] 58)) (y1.alloc (V #[I C x.r.length c,J O (-x.n)] 58))→(y1.alloc (V #[I C x.r.length c,J O (-x.n)] 58)).grownBy w3 u5.ownBlock→w3.cell? ⟨wr.heap.size,0,none⟩=some (I x.p x.r.length x.c)∧w3.cell? ⟨wr.heap.size,1,none⟩=some (J O x.n)):=by
     intro y1 C c w3 hb2 hg3
     have hlt:wr.heap.size<(y1.alloc (V #[I C x.r.length c,J O (-x.n)] 58)).heap.size:=nL (by simp) hb2.size
     have hne:some wr.heap.size≠u5.ownBlock:=fun e=>by have:=hob.out _ e.symm;omega
     have hk:=hKeep.out _ hb2
     exact ⟨(World.cell?_of_block (a:=⟨wr.heap.size,0,none⟩) (hg3.block _ hlt hne)).trans hk.1,(World.cell?_of_block (a:=⟨wr.heap.size,1,none⟩) (hg3.block _ hlt hne)).trans hk.2⟩
    refine wp_region_noPanic ?_
    refine wp_region_held_drew (S:=fun w'=>w'.cell? ⟨wr.heap.size,0,none⟩=some (I x.p x.r.length x.c)∧w'.cell? ⟨wr.heap.size,1,none⟩=some (J O x.n)) (by kernel_rfl) (hKeep.out _ hbd) (fun hHeld=> ?_)
    refine tks [0,1,2,4,5,6] (by assumption) ?_
    iterate 6 (refine tk (v:= ?_) (by rfl) (by kernel_rfl) ?_ ?_;rotate_left;· (refine oL ⟨by rfl,?_⟩;intro w hSw;(try dsimp only at hSw);go_simp<;>with_reducible rfl);try simp only[Act.put,yA,aE,yS])
    refine tk0 ?_
    refine wpAnyH_ready (rs:=[3]) (by kernel_rfl) (by simp) ?_
    refine AllReadyH.cons (o:= ?oi7) ?hop7 (fun K hK=> ?step7) ?more7
    case hop7=>(simp only[zA,z0',zS];rfl)
    case more7=>exact AllReadyH.nil
    go_simp
    (go_at_call 132;(refine cM (show Calls _ _ _ _ _ from hcp.out) ?_);rintro e y1 ⟨C,c,rfl,hrw,hnl,hnw,hbl,hri⟩;have hb1:Hid (Below (wr.alloc (V #[I x.p x.r.length x.c,J O x.n] 58)).heap.size (wr.alloc (V #[I x.p x.r.length x.c,J O x.n] 58)) y1):=hbd.trans (hbl.mono hbd.size);have hb2:Hid (Below (wr.alloc (V #[I x.p x.r.length x.c,J O x.n] 58)).heap.size (wr.alloc (V #[I x.p x.r.length x.c,J O x.n] 58)) (y1.alloc (V #[I C x.r.length c,J O (-x.n)] 58))):=hb1.out.alloc hb1.out.size _;have hrmY:Hid (eL y1 (L++[⟨C,c,x.r,-x.n⟩])):=(hrm.out.below hgX.out.below).snoc hb1.out hri;clear hri;have hC:Hid (ar y1 C x.r∧(C=none→c=0)∧(∀a,C=some a→wr.heap.size+1≤a.block∧a.block<y1.heap.size)):=⟨hrw,hnl,fun a ha=>⟨nT (Nat.le_of_eq hsd.symm) (hnw a ha).1,(hnw a ha).2⟩⟩;have hoX:Hid (OwnT (y1.alloc (V #[I C x.r.length c,J O (-x.n)] 58)) w1.heap.size u5 L∧Apart (y1.alloc (V #[I C x.r.length c,J O (-x.n)] 58)) w1.heap.size u5.ownBlock ⟨C,c,x.r,-x.n⟩∧(L.length+1≤maxLen∧(L.length+1)*32≤140737488355328)∧w1.heap.size≤(y1.alloc (V #[I C x.r.length c,J O (-x.n)] 58)).heap.size):=hmkX.out y1 C c hb1.out hC.out;clear hrw hnl hnw hbl)
    first|(go_wp2_with fail)|skip
    refine hK.out _ _ ?_ (fun hHeld=> ?_)
    ·(try dsimp only);(first|with_reducible exact hKeep.out _ hbd|with_reducible exact hKeep.out _ hb1.out|with_reducible exact hKeep.out _ hb2.out|with_reducible exact hk3.out)
    clear hK K
    try simp only[Act.put,yA,aE,yS]
    refine tks [7] (by assumption) ?_
    iterate 1 (refine tk (v:= ?_) (by rfl) (by kernel_rfl) ?_ ?_;rotate_left;· (refine oL ⟨by rfl,?_⟩;intro w hSw;(try dsimp only at hSw);go_simp<;>with_reducible rfl);try simp only[Act.put,yA,aE,yS])
    refine tk0 ?_
    refine wpAnyH_ready (rs:=[8]) (by kernel_rfl) (by simp) ?_
    refine AllReadyH.cons (o:= ?oi9) ?hop9 (fun K hK=> ?step9) ?more9
    case hop9=>(simp only[zA,z0',zS];rfl)
    case more9=>exact AllReadyH.nil
    go_simp
    refine hK.out _ _ ?_ (fun hHeld=> ?_)
    ·(try dsimp only);(first|with_reducible exact hKeep.out _ hbd|with_reducible exact hKeep.out _ hb1.out|with_reducible exact hKeep.out _ hb2.out|with_reducible exact hk3.out)
    clear hK K
    try simp only[Act.put,yA,aE,yS]
    refine wpAnyH_ready (rs:=[9]) (by kernel_rfl) (by simp) ?_
    refine AllReadyH.cons (o:= ?oi10) ?hop10 (fun K hK=> ?step10) ?more10
    case hop10=>(simp only[zA,z0',zS];rfl)
    case more10=>exact AllReadyH.nil
    (refine iA _ rfl (.tmp 19) (.tmp 27) rfl w1.heap.size u5 L ⟨C,c,x.r,-x.n⟩ ⟨y1.heap.size,0,none⟩ 1 rfl rfl hoX.out.1 (d9 rfl ⟨C,c,x.r,-x.n⟩ 58) hoX.out.2.1 hoX.out.2.2.1.1 hoX.out.2.2.1.2 hoX.out.2.2.2 ?_;intro v2 w3 hown3 hb3 hgb3;have hk3:Hid (w3.cell? ⟨wr.heap.size,0,none⟩=some (I x.p x.r.length x.c)∧w3.cell? ⟨wr.heap.size,1,none⟩=some (J O x.n)):=hmk3.out y1 C c w3 hb2.out hgb3;have hownF:Hid (OwnT w3 w1.heap.size v2 (L++[⟨C,c,x.r,-x.n⟩])∧Below w1.heap.size w1 w3):=⟨hown3,hovH.out.2.trans ((hgX.out.below.trans (hb2.out.mono hgX.out.size)).mono hszX.out.1 |>.trans hb3)⟩;have hrmF:Hid (eL w3 (L++[⟨C,c,x.r,-x.n⟩])):=(hrmY.out.below ((gR y1).alloc _).below).grown hgb3 (hoX.out.1.own.typed (by decide));clear hown3 hb3 hgb3)
    refine hK.out _ _ ?_ (fun hHeld=> ?_)
    ·(try dsimp only);(first|with_reducible exact hKeep.out _ hbd|with_reducible exact hKeep.out _ hb1.out|with_reducible exact hKeep.out _ hb2.out|with_reducible exact hk3.out)
    clear hK K
    try simp only[Act.put,yA,aE,yS]
    refine tks [10] (by assumption) ?_
    iterate 1 (refine tk (v:= ?_) (by rfl) (by kernel_rfl) ?_ ?_;rotate_left;· (refine oL ⟨by rfl,?_⟩;intro w hSw;(try dsimp only at hSw);go_simp<;>with_reducible rfl);try simp only[Act.put,yA,aE,yS])
    refine tk0 ?_
    refine wpAnyH_done (by kernel_rfl) ?_ _
    refine NoPanic.normal ?_
    go_wp2
    go_roundw
    case rel =>
     refine ⟨k+1,L++[⟨C,c,x.r,-x.n⟩],by omega,by go_num,?_,?_,hownF.out.1,hownF.out.2,hrmF⟩
     ·show _=_;simp[hLk.out]
     ·show _=_;rw[hst.out,List.map_append,hLz.out];rfl
    case measure=>simp[intOf];omega
   ·have hltz:¬(k:Int)<(l.length:Int):=by omega
    have hke:l.take k=l:=List.take_of_length_le (by omega)
    have hfin:Hid (L.map Itm.z=gx (l.map Itm.z)):=by
     show _=_
     unfold gx
     rw[hLz.out,hke,if_pos h0H.out,List.map_map]
     rfl
    obtain ⟨A2,cap2,hv2,hn2,hit,hnw2⟩:=hov.items
    have hNw:Hid (NwT wr cap2 w.heap.size A2 L):=⟨⟨fun a ha=>nT hg1.size (hnw2 a ha).1,fun x hx a ha=>nT hg1.size ((hov.each x hx).own a ha).1⟩,by have:=hov.own;rw[hv2] at this;exact this.roomA,hrm.out⟩
    have hfin2:Hid (Items wr A2 L∧du A2 L.length cap2∧Below w.heap.size w wr):=⟨hit,hn2,hg1.below.trans (hbel.mono hg1.size)⟩
    subst hv2
    clear hke hit hn2 hov hbel hnw2
    go_wp2
    go_ret2
    exact ⟨L,A2,cap2,by rw[h0H.out];rfl,hfin.out,hfin2.out.1,hfin2.out.2.1,hfin2.out.2.2,hNw.out⟩
 ·have hfin:Hid (gx (l.map Itm.z)=[]):=by
   have:E≠0:=by simpa using hq
   show _=_
   unfold gx;rw[hEH.out,if_neg this]
  go_wp2
  go_ret2
  exact ⟨[],none,0,by rw[hEH.out];rfl,by rw[hfin.out];rfl,⟨oL rfl,fun x hx=>by cases hx⟩,fun _=>rfl,hg1.below,NwT.none _ _⟩

theorem xn (l:List Itm) (A:Option Addr) (cap:Nat) (w:World) (hl:l.length≤maxLen) (hr:Items w A l) :
  Calls Z 103 #[I A l.length cap] w fun e w'=>∃(L:List Itm) (C:Option Addr) (c:Nat),e= H (Y #[I C L.length c,J O (aw (l.map Itm.z))])∧L.map Itm.z=gx (l.map Itm.z)∧Items w' C L∧du C L.length c∧Below w.heap.size w w' :=
 (xo l A cap w hl hr).mono fun _ _ ⟨L,C,c,h1,h2,h3,h4,h5,_⟩=>⟨L,C,c,h1,h2,h3,h4,h5⟩

end Go.Proofs.YtkefkplnamkicabGreatDoor

namespace Go.Proofs.YtkefkplnamkicabGreatDoor

def fX (x:Zit):List Zit→List Zit
 | []=>if x.2=0 then [] else [x]
 | y::t=>if aB x.1 y.1<0 then (if x.2=0 then y::t else x::y::t) else if aB x.1 y.1=0 then (if x.2+y.2=0 then t else (y.1,x.2+y.2)::t) else y::fX x t
def cU:List Zit→List Zit
 | []=>[]
 | x::t=>fX x (cU t)
theorem oX {x:Zit}:∀ {S:List Zit} {z:Zit},z∈fX x S→z.1=x.1∨∃y∈S,z.1=y.1
 | [],z,h=>by
  unfold fX at h
  by_cases e:x.2=0
  ·rw[if_pos e] at h;cases h
  ·rw[if_neg e] at h;exact oL (by rw[List.mem_singleton.1 h])
 | y::t,z,h=>by
  unfold fX at h
  by_cases h1:aB x.1 y.1<0
  ·rw[if_pos h1] at h
   by_cases e:x.2=0
   ·rw[if_pos e] at h;exact oR ⟨z,h,rfl⟩
   ·rw[if_neg e] at h
    rcases List.mem_cons.1 h with k|k
    ·exact oL (by rw[k])
    ·exact oR ⟨z,k,rfl⟩
  ·rw[if_neg h1] at h
   by_cases h2:aB x.1 y.1=0
   ·rw[if_pos h2] at h
    by_cases e:x.2+y.2=0
    ·rw[if_pos e] at h;exact oR ⟨z,mC _ h,rfl⟩
    ·rw[if_neg e] at h
     rcases List.mem_cons.1 h with k|k
     ·exact oR ⟨y,mS ..,by rw[k]⟩
     ·exact oR ⟨z,mC _ k,rfl⟩
   ·rw[if_neg h2] at h
    rcases List.mem_cons.1 h with k|k
    ·exact oR ⟨y,mS ..,by rw[k]⟩
    ·rcases oX k with k|⟨u,hu,k⟩
     ·exact oL k
     ·exact oR ⟨u,mC _ hu,k⟩
theorem mN {x:Zit}:∀ {S:List Zit},eB S→eB (fX x S)
 | [],_=>by
  unfold fX
  by_cases e:x.2=0
  ·rw[if_pos e];exact List.Pairwise.nil
  ·rw[if_neg e];exact List.pairwise_singleton _ _
 | y::t,h=>by
  have h':=List.pairwise_cons.1 h
  unfold fX
  by_cases h1:aB x.1 y.1<0
  ·rw[if_pos h1]
   by_cases e:x.2=0
   ·rw[if_pos e];exact h
   ·rw[if_neg e]
    refine List.pairwise_cons.2 ⟨fun z hz=> ?_,h⟩
    rcases List.mem_cons.1 hz with k|k
    ·rw[k];exact h1
    ·exact cG h1 (h'.1 z k)
  ·rw[if_neg h1]
   by_cases h2:aB x.1 y.1=0
   ·rw[if_pos h2]
    by_cases e:x.2+y.2=0
    ·rw[if_pos e];exact h'.2
    ·rw[if_neg e];exact List.pairwise_cons.2 ⟨fun z hz=>h'.1 z hz,h'.2⟩
   ·rw[if_neg h2]
    refine List.pairwise_cons.2 ⟨fun z hz=> ?_,mN h'.2⟩
    rcases oX hz with k|⟨u,hu,k⟩
    ·rw[k];have:=dK x.1 y.1;omega
    ·rw[k];exact h'.1 u hu
theorem oY {x:Zit}:∀ {S:List Zit},NoZ S→NoZ (fX x S)
 | [],_=>by
  unfold fX
  by_cases e:x.2=0
  ·rw[if_pos e];exact fun z hz=>absurd hz (by simp)
  ·rw[if_neg e];intro z hz;rw[List.mem_singleton.1 hz];exact e
 | y::t,h=>by
  have ht:NoZ t:=fun z hz=>h z (mC _ hz)
  unfold fX
  by_cases h1:aB x.1 y.1<0
  ·rw[if_pos h1]
   by_cases e:x.2=0
   ·rw[if_pos e];exact h
   ·rw[if_neg e]
    intro z hz
    rcases List.mem_cons.1 hz with k|k
    ·rw[k];exact e
    ·exact h z k
  ·rw[if_neg h1]
   by_cases h2:aB x.1 y.1=0
   ·rw[if_pos h2]
    by_cases e:x.2+y.2=0
    ·rw[if_pos e];exact ht
    ·rw[if_neg e]
     intro z hz
     rcases List.mem_cons.1 hz with k|k
     ·rw[k];exact e
     ·exact ht z k
   ·rw[if_neg h2]
    intro z hz
    rcases List.mem_cons.1 hz with k|k
    ·rw[k];exact h y (mS ..)
    ·exact oY ht z k
theorem rI {x:Zit} (r:List Int):∀ {S:List Zit},wt (fX x S) r=(if x.1=r then x.2 else 0)+wt S r
 | []=>by
  unfold fX
  by_cases e:x.2=0
  ·rw[if_pos e,e];simp[wt]
  ·rw[if_neg e];simp only[wt]
 | y::t=>by
  unfold fX
  by_cases h1:aB x.1 y.1<0
  ·rw[if_pos h1]
   by_cases e:x.2=0
   ·rw[if_pos e,e];simp
   ·rw[if_neg e];simp only[wt]
  ·rw[if_neg h1]
   by_cases h2:aB x.1 y.1=0
   ·rw[if_pos h2]
    have e1:=jc _ _ h2
    by_cases e:x.2+y.2=0
    ·rw[if_pos e]
     simp only[wt]
     rw[e1]
     by_cases k:y.1=r
     ·rw[if_pos k,if_pos k];omega
     ·rw[if_neg k,if_neg k];omega
    ·rw[if_neg e]
     simp only[wt]
     rw[e1]
     by_cases k:y.1=r
     ·rw[if_pos k,if_pos k,if_pos k];omega
     ·rw[if_neg k,if_neg k,if_neg k];omega
   ·rw[if_neg h2]
    simp only[wt]
    rw[rI r];omega
theorem bi:∀l:List Zit,IsTot l (cU l)
 | []=>⟨List.Pairwise.nil,fun z hz=>absurd hz (by simp[cU]),fun r=>rfl⟩
 | x::t=>by
  have h:=bi t
  exact ⟨mN h.rise,oY h.noz,fun r=>by show wt (fX x (cU t)) r=wt (x::t) r;rw[rI,h.same];rfl⟩
theorem IsTot.eq {l S:List Zit} (h:IsTot l S):S=cU l:=h.uniq (bi l) fun _=>rfl
def dc (l:List Zit):Int:=if (cU l).all (fun x=>okW x.2) then 0 else 5
def lT (l:List Zit):List Zit:=if dc l=0 then cU l else []
theorem vY {l:List Zit} (h:dc l=5):lT l=[]:=by unfold lT;rw[h];rfl
theorem rY {l:List Zit} (h:dc l=0):lT l=cU l:=by unfold lT;rw[if_pos h]
theorem lS (l:List Zit):dc l=5↔nI l:=by
 unfold dc
 constructor
 ·intro h
  by_cases e:(cU l).all (fun x=>okW x.2)=true
  ·rw[if_pos e] at h;cases h
  ·simp only[List.all_eq_true,Classical.not_forall] at e
   obtain ⟨x,hx,hw⟩:=e
   exact ⟨x.1,by rw[←(bi l).same,(bi l).rise.wt hx];simpa using hw⟩
 ·rintro ⟨r,hr⟩
  rw[if_neg]
  intro h
  have h0:wt l r≠0:=fun e=>by rw[e] at hr;exact absurd hr (by decide)
  rw[←(bi l).same] at h0 hr
  obtain ⟨x,hx,rfl⟩:=og h0
  rw[(bi l).rise.wt hx] at hr
  have:=List.all_eq_true.1 h x hx
  rw[hr] at this;cases this
theorem xK {l:List Zit} (h:¬nI l):dc l=0:=by
 by_cases e:dc l=5
 ·exact absurd ((lS l).1 e) h
 ·unfold dc at e ⊢
  by_cases k:(cU l).all (fun x=>okW x.2)=true
  ·rw[if_pos k]
  ·rw[if_neg k] at e;exact absurd rfl e
theorem nF {l:List Zit} (h:dc l=0):¬nI l:=fun k=>by rw[(lS l).2 k] at h;cases h
def bZ (l:List Zit):Int:=if 400<l.length then 2 else if l.all (fun x=>okR x.1 && okW x.2) then dc l else 5
def dh (l:List Zit):List Zit:=if bZ l=0 then cU l else []
def aR (a b:List Zit):Int:=if aw a=0 then (if aw b=0 then (if dc (a++b)=0 then (if 400<(cU (a++b)).length then 2 else 0) else dc (a++b)) else aw b) else aw a
def aP (a b:List Zit):List Zit:=if aR a b=0 then cU (a++b) else []
theorem fL {l m:List Zit} (h:∀r,wt l r=wt m r):cU l=cU m:=(bi l).uniq (bi m) h
theorem tJ {l m:List Zit} (h:∀r,wt l r=wt m r):dc l=dc m:=by unfold dc;rw[fL h]

end Go.Proofs.YtkefkplnamkicabGreatDoor

namespace Go.Proofs.YtkefkplnamkicabGreatDoor
open Go.RowKit Go.Sort

theorem fC {S:List Itm} {k:Nat} (h:k<S.length):(S.map Itm.z)[k]'(by simpa using h)=S[k].z:=by simp

theorem nG (ss:List Sl) (B:Option Addr) (cb:Nat) (w:World) (hrow:ay eD 1 w B ss) (hlen:ss.length≤2)
  (hss:∀s∈ss,Items w s.A s.l∧(s.A=none→s.cap=0)∧s.l.length≤400∧∀x∈s.l,okW x.n=true∧x.r.length≤8) :
  Calls Z 149 #[I B ss.length cb] w fun e w'=>∃(L:List Itm) (C:Option Addr) (c:Nat),e= H (Y #[I C L.length c,J O (dc ((ss.flatMap (·.l)).map Itm.z))])∧L.map Itm.z=lT ((ss.flatMap (·.l)).map Itm.z)∧Items w' C L∧du C L.length c∧Below w.heap.size w w'∧NwT w' c w.heap.size C L:=by
 have mixed:Tryz.prog.follows .mixedOrders=true:=by kernel_rfl
 have hcon:=qd ss B cb w hrow hlen (fun s hs=>⟨(hss s hs).1.row,(hss s hs).2.1,(hss s hs).2.2.1⟩)
 have hconH:Hid _:=hcon
 clear hcon
 have heach:Hid (∀x∈ss.flatMap (·.l),ar w x.p x.r∧x.r.length≤maxLen∧(x.p=none→x.c=0)∧okW x.n=true∧x.r.length≤8):=fun x hx=>by
  obtain ⟨s,hs,hx⟩:=List.mem_flatMap.1 hx
  have h:=(hss s hs).1.each x hx
  exact ⟨h.1,h.2.1,h.2.2,(hss s hs).2.2.2 x hx⟩
 have hlenA:Hid ((ss.flatMap (·.l)).length≤800):=oM hlen fun s hs=>(hss s hs).2.2.1
 obtain ⟨all,hall⟩:∃all,ss.flatMap (·.l)=all:=⟨_,rfl⟩
 rw[hall] at hconH heach hlenA ⊢
 clear hall hrow hss hlen
 go_enter Tryz.func149,Tryz.ntmps149
 go_wp2_with fail
 refine cM (show Calls _ _ _ _ _ from hconH.out) ?_
 rintro e w1 ⟨v,rfl,hown,hb1⟩
 clear hconH
 have hso:=vN 181 (enters_of Tryz.func181 (by kernel_rfl) rfl) um w.heap.size v all w1 hown hb1.size (fun x hx=>by
  have h:=heach.out x hx
  exact ⟨h.1.below hb1,h.2.1,h.2.2.1,fun a ha hr=>h.1.lt a ha hr⟩) (by have:=hlenA.out;omega)
 have hsoH:Hid _:=hso
 clear hso
 go_wp2_with fail
 refine cM (show Calls _ _ _ _ _ from hsoH.out) ?_
 rintro e w2 ⟨rfl,⟨S,A,cap,hv,hperm,hsort,hit,hA⟩,hb2⟩
 subst hv
 clear hsoH hown
 have hSH:Hid (Items w2 A S∧(A=none→cap=0)∧S.Perm all∧eI (S.map Itm.z)∧(∀x∈S.map Itm.z,okW x.2=true∧x.1.length≤8)∧Below w.heap.size w w2):=⟨hit,hA,hperm,hsort,fun x hx=>by
  obtain ⟨y,hy,rfl⟩:=List.mem_map.1 hx
  exact (heach.out y (hperm.mem_iff.1 hy)).2.2.2,hb1.trans hb2⟩
 have hSl:S.length≤800:=by rw[hperm.length_eq];exact hlenA.out
 clear hit hA hperm hsort hb1 hb2 heach hlenA
 go_wp2
 go_loopw [5,6] (fun v i wr=>∃(k:Nat) (L:List Itm),k≤S.length∧i= J O k∧Hid (Upto (S.map Itm.z) k (L.map Itm.z))∧Hid (OwnT wr w2.heap.size v L∧Below w2.heap.size w2 wr)∧Hid (eL wr L)) (fun _ i _=>S.length-(intOf i).toNat)
 case atStart=>exact ⟨0,[],by omega,rfl,Upto.zero _,⟨OwnT.nil _ _,bR _ _⟩,fun x hx=>by cases hx⟩
 case round =>
  rename World=>w3
  obtain ⟨k,L,hk,rfl,hup,hov,hrm⟩:=hrel
  by_cases hlt:k<S.length
  ·have hltz:(k:Int)<(S.length:Int):=by omega
   have hI:Hid (Items w3 A S):=hSH.out.1.below hov.out.2
   obtain ⟨bb,off,rfl,hb,hcs⟩:=hI.out.at hlt
   obtain ⟨x,hx⟩:∃x,S[k]=x:=⟨_,rfl⟩
   obtain ⟨e0,e1⟩:=hcs k hlt
   rw[hx] at e0 e1
   have hcsH:Hid (∀j (h:j<S.length),_):=hcs
   have hkz:Hid (∃h:k<(S.map Itm.z).length,((S.map Itm.z)[k]).1=x.r):=⟨by simpa using hlt,by rw[fC hlt,hx];rfl⟩
   have hxr:Hid (ar w3 x.p x.r∧x.r.length≤maxLen∧(x.p=none→x.c=0)):=hI.out.each x (by rw[←hx];exact gM hlt)
   have hx8:Hid (x.r.length≤8):=(hSH.out.2.2.2.2.1 x.z (List.mem_map.2 ⟨x,by rw[←hx];exact gM hlt,rfl⟩)).2
   have h0:Hid (wt ((S.map Itm.z).take k) x.r=0):=by
    show _=_
    have:=hup.out.first (show k<(S.map Itm.z).length by simpa using hlt)
    rw[fC hlt,hx] at this
    exact this
   clear hcs hx
   go_wp2
   go_loopw [6,8] (fun i n wr=>∃j:Nat,k≤j∧j≤S.length∧i= J O j∧n= J O (wt ((S.map Itm.z).take j) x.r)∧Hid (Run (S.map Itm.z) x.r k j)∧Gr w3 wr) (fun i _ _=>S.length-(intOf i).toNat)
   case atStart=>exact ⟨k,nR _,hk,rfl,by rw[h0.out],fun m _ h1 h2=>by omega,gR _⟩
   case round =>
    rename World=>w4
    obtain ⟨j,hkj,hjS,rfl,rfl,hrun,hgr⟩:=hrel
    have hrunH:Hid (Run (S.map Itm.z) x.r k j):=hrun
    obtain ⟨N,hN⟩:∃N,wt ((S.map Itm.z).take j) x.r=N:=⟨_,rfl⟩
    rw[hN]
    have hNH:Hid (wt ((S.map Itm.z).take j) x.r=N):=hN
    have hNb: -838860800≤N∧N≤838860800:=by
     have h1:=wv (l:=(S.map Itm.z).take j) (fun y hy=>(hSH.out.2.2.2.2.1 y (List.mem_of_mem_take hy)).1) x.r
     rw[hN] at h1
     have h2:((S.map Itm.z).take j).length≤800:=by simp;omega
     omega
    clear hrun hN
    by_cases hgo:∃h:j<S.length,aB x.r S[j].r=0
    ·obtain ⟨hlt2,hc⟩:=hgo
     have hlt2z:(j:Int)<(S.length:Int):=by omega
     obtain ⟨y,hy⟩:∃y,S[j]=y:=⟨_,rfl⟩
     obtain ⟨f0,f1⟩:=hcsH.out j hlt2
     rw[hy] at f0 f1 hc
     have g0:w4.cell? ⟨bb,off+j*2,none⟩=some (I y.p y.r.length y.c):=(hgr.below.cell (p:=⟨bb,off+j*2,none⟩) hb).trans f0
     have g1:w4.cell? ⟨bb,off+j*2+1,none⟩=some (J O y.n):=(hgr.below.cell (p:=⟨bb,off+j*2+1,none⟩) hb).trans f1
     have hyr:=hI.out.each y (by rw[←hy];exact gM hlt2)
     have hod:=eV x.r y.r x.p y.p x.c y.c w4 hxr.out.2.1 (hxr.out.1.gr hgr) (hyr.1.gr hgr)
     rw[hc] at hod
     have hodH:Hid _:=hod
     have hyw:Hid (okW y.n=true):=(hSH.out.2.2.2.2.1 y.z (List.mem_map.2 ⟨y,by rw[←hy];exact gM hlt2,rfl⟩)).1
     have hst:Hid (wt ((S.map Itm.z).take (j+1)) x.r=N+y.n∧Run (S.map Itm.z) x.r k (j+1)):=by
      have hjz:j<(S.map Itm.z).length:=by simpa using hlt2
      have hyx:y.r=x.r:=(jc _ _ hc).symm
      refine ⟨?_,fun m hm h1 h2=> ?_⟩
      ·rw[oh hjz,hNH.out,fC hlt2,hy]
       show N+(if y.r=x.r then y.n else 0)=_
       rw[if_pos hyx]
      ·by_cases e:m=j
       ·subst e;rw[fC hlt2,hy];exact hyx
       ·exact hrunH.out m hm h1 (by omega)
     have hwr:IntKind.i64.wrap (N+y.n)=N+y.n:=by
      have h:=hyw.out
      simp only[okW,inB,Bool.and_eq_true,decide_eq_true_eq] at h
      rw[IntKind.wrap_i64];omega
     clear hod f0 f1 hy hyr hc
     go_wp2_with fail
     refine cM (show Calls _ _ _ _ _ from hodH.out) ?_
     rintro e w5 ⟨rfl,hg5⟩
     have q1:w5.cell? ⟨bb,off+j*2+1,none⟩=some (J O y.n):=(hg5.below.cell (p:=⟨bb,off+j*2+1,none⟩) (nL hb hgr.size)).trans g1
     clear hodH g0 g1
     go_wp2
     go_roundw
     case rel=>exact ⟨j+1,by omega,by omega,by go_num,by rw[hst.out.1],hst.out.2,hgr.trans hg5⟩
     case measure=>simp[intOf];omega
    ·have hex:Hid (∀h:j<(S.map Itm.z).length,aB x.r ((S.map Itm.z)[j]).1≠0):=fun h e=>hgo ⟨by simpa using h,by rw[fC (by simpa using h)] at e;exact e⟩
     have hkj':k<j:=by
      by_cases e:k=j
      ·subst e
       obtain ⟨h1,h2⟩:=hkz.out
       exact absurd (by rw[h2,gX]) (hex.out h1)
      ·omega
     clear hgo
     have hjz:k<(S.map Itm.z).length:=by simpa using hlt
     have hnext:Hid ((okW N=false→dc (all.map Itm.z)=5)∧(N=0→Upto (S.map Itm.z) j (L.map Itm.z))∧(okW N=true→N≠0→Upto (S.map Itm.z) j (L.map Itm.z++[(x.r,N)]))):=by
      obtain ⟨h1,h2⟩:=hkz.out
      have hr:=hrunH.out
      have he:=hex.out
      have hn:=hNH.out
      rw[←h2] at hr he hn
      refine ⟨fun hw=> ?_,fun hw=> ?_,fun hw hz=> ?_⟩
      ·exact (lS _).2 ((eI.perm_bad (hSH.out.2.2.1.map Itm.z)).1 (xC hSH.out.2.2.2.1 h1 hkj' he (by rw[hn];exact hw)))
      ·exact vK hSH.out.2.2.2.1 hup.out h1 hkj' hr he (by rw[hn];exact hw)
      ·have:=vJ hSH.out.2.2.2.1 hup.out h1 hkj' hr he (by rw[hn];exact hw) (by rw[hn];exact hz)
       rw[hn,h2] at this
       exact this
     clear hjz hNb
     by_cases hlt2:j<S.length
     rotate_left
     focus
      have hlt2z:¬(j:Int)<(S.length:Int):=by omega
      have hgr5:Hid (Gr w3 w4):=hgr
      obtain ⟨w5,rfl⟩:∃W,W=w4:=⟨_,rfl⟩
      clear hgr
      go_wp2_with fail
     rotate_left
     focus
      have hlt2z:(j:Int)<(S.length:Int):=by omega
      obtain ⟨y,hy⟩:∃y,S[j]=y:=⟨_,rfl⟩
      obtain ⟨f0,f1⟩:=hcsH.out j hlt2
      rw[hy] at f0 f1
      have g0:w4.cell? ⟨bb,off+j*2,none⟩=some (I y.p y.r.length y.c):=(hgr.below.cell (p:=⟨bb,off+j*2,none⟩) hb).trans f0
      have hyr:=hI.out.each y (by rw[←hy];exact gM hlt2)
      obtain ⟨c,hc⟩:∃c,aB x.r y.r=c:=⟨_,rfl⟩
      have hc0:¬c=0:=fun e=>by
       have:=hex.out (by simpa using hlt2)
       rw[fC hlt2,hy] at this
       exact this (by rw[←e,←hc];rfl)
      have hod:=eV x.r y.r x.p y.p x.c y.c w4 hxr.out.2.1 (hxr.out.1.gr hgr) (hyr.1.gr hgr)
      rw[hc] at hod
      have hodH:Hid _:=hod
      clear hod f0 f1 hy hyr hc
      go_wp2_with fail
      refine cM (show Calls _ _ _ _ _ from hodH.out) ?_
      rintro e w5 ⟨rfl,hg5⟩
      have hgr5:Hid (Gr w3 w5):=hgr.trans hg5
      clear hodH g0 hgr hg5
      go_wp2_with fail
     all_goals
      refine cM (fY N w5) ?_
      rintro e w6 ⟨rfl,rfl⟩
      cases hwb:okW N
      ·have hbad:Hid (dc (all.map Itm.z)=5):=hnext.out.1 hwb
       have hbw:Hid (Below w.heap.size w w6):=hSH.out.2.2.2.2.2.trans ((hov.out.2.trans (hgr5.out.below.mono hov.out.2.size)).mono hSH.out.2.2.2.2.2.size)
       go_wp2
       go_ret2
       exact ⟨[],none,0,by rw[hbad.out];rfl,by rw[vY hbad.out];rfl,⟨oL rfl,fun x hx=>by cases hx⟩,fun _=>rfl,hbw.out,NwT.none _ _⟩
      ·cases hn0:(N != 0)
       ·have hup2:Hid (Upto (S.map Itm.z) j (L.map Itm.z)):=hnext.out.2.1 (by simpa using hn0)
        have hov2:Hid (OwnT w6 w2.heap.size u5 L∧Below w2.heap.size w2 w6):=⟨hov.out.1.gr hgr5.out,hov.out.2.trans (hgr5.out.below.mono hov.out.2.size)⟩
        go_wp2
        go_roundw
        case rel=>exact ⟨j,L,by omega,rfl,hup2,hov2,hrm.out.below hgr5.out.below⟩
        case measure=>simp[intOf];omega
       ·have hup2:Hid (Upto (S.map Itm.z) j (L.map Itm.z++[(x.r,N)])):=hnext.out.2.2 hwb (by simpa using hn0)
        have hov2:Hid (OwnT w6 w2.heap.size u5 L∧Below w2.heap.size w2 w6):=⟨hov.out.1.gr hgr5.out,hov.out.2.trans (hgr5.out.below.mono hov.out.2.size)⟩
        have hcp:=k6 x.r x.p x.c w6 (by have:=hx8.out;omega) hxr.out.2.2 (hxr.out.1.gr hgr5.out)
        have hcpH:Hid _:=hcp
        clear hcp
        go_wp2_with fail
        refine cM (show Calls _ _ _ _ _ from hcpH.out) ?_
        rintro e w7 ⟨C,c,rfl,hrw,hnl,hnw,hbl,hri⟩
        clear hcpH
        have hwX:Below w6.heap.size w6 (w7.alloc (V #[I C x.r.length c,J O N] 58)):=hbl.alloc hbl.size _
        have hoX:Hid (OwnT (w7.alloc (V #[I C x.r.length c,J O N] 58)) w2.heap.size u5 L∧Apart (w7.alloc (V #[I C x.r.length c,J O N] 58)) w2.heap.size u5.ownBlock ⟨C,c,x.r,N⟩∧(L.length+1≤maxLen∧(L.length+1)*32≤140737488355328)∧w2.heap.size≤(w7.alloc (V #[I C x.r.length c,J O N] 58)).heap.size∧Below w2.heap.size w2 (w7.alloc (V #[I C x.r.length c,J O N] 58))):=by
         have hsz:=hov2.out.2.size
         have hLl:L.length≤k:=by have:=hup.out.len;simpa using this
         have hbX:=hov2.out.2.trans (hwX.mono hsz)
         refine ⟨hov2.out.1.below hwX,⟨hrw.gr ((gR _).alloc _),nT hx8.out (by decide),hnl,fun a ha=>⟨?_,?_,?_⟩⟩,⟨?_,?_⟩,hbX.size,hbX⟩
         ·have h1:=(hnw a ha).1;omega
         ·have h1:=(hnw a ha).2;simp;omega
         ·intro e
          have h1:=(World.ownsRow.lt hov2.out.1.own a.block e).2
          have h2:=(hnw a ha).1
          omega
         ·unfold maxLen;omega
         ·omega
        have hrmX:Hid (eL (w7.alloc (V #[I C x.r.length c,J O N] 58)) (L++[⟨C,c,x.r,N⟩])):=by
         intro z hz
         rcases List.mem_append.1 hz with hz|hz
         ·exact ((hrm.out.below hgr5.out.below).below hwX) z hz
         ·rw[List.mem_singleton.1 hz]
          exact ⟨hri.1.below ((gR _).alloc _).below,hri.2⟩
        clear hrw hnl hnw hbl hwX hri
        go_wp2_with (at_builtin;refine jY _ rfl (.tmp 50) (.tmp 55) rfl w2.heap.size u5 L ⟨C,c,x.r,N⟩ ⟨w7.heap.size,0,none⟩ 1 rfl rfl hoX.out.1 (d9 rfl ⟨C,c,x.r,N⟩ 58) hoX.out.2.1 hoX.out.2.2.1.1 hoX.out.2.2.1.2 hoX.out.2.2.2.1 ?_;intro v8 w8 hown8 hb8 hgb8)
        have hov3:Hid (OwnT w8 w2.heap.size v8 (L++[⟨C,c,x.r,N⟩])∧Below w2.heap.size w2 w8):=⟨hown8,hoX.out.2.2.2.2.trans hb8⟩
        have hrm3:Hid (eL w8 (L++[⟨C,c,x.r,N⟩])):=hrmX.out.grown hgb8 (hoX.out.1.own.typed (by decide))
        clear hown8 hb8 hgb8
        go_roundw
        case rel=>exact ⟨j,L++[⟨C,c,x.r,N⟩],by omega,rfl,by rw[List.map_append];exact hup2,hov3,hrm3⟩
        case measure=>simp[intOf];omega
  ·have hltz:¬(k:Int)<(S.length:Int):=by omega
   have hfin:Hid (dc (all.map Itm.z)=0∧L.map Itm.z=lT (all.map Itm.z)):=by
    have h1:=hup.out.done (by simp;omega)
    have hp:=hSH.out.2.2.1.map Itm.z
    have h2:=xK (fun h=>h1.2 ((eI.perm_bad hp).2 h))
    refine ⟨h2,?_⟩
    rw[rY h2]
    exact (h1.1.perm hp).eq
   obtain ⟨A2,cap2,hv2,hn2,hit,hnw⟩:=hov.out.1.items
   have hNw0:iE w.heap.size A2 L:=⟨fun a ha=>nT hSH.out.2.2.2.2.2.size (hnw a ha).1,fun x hx a ha=>nT hSH.out.2.2.2.2.2.size ((hov.out.1.each x hx).own a ha).1⟩
   have hNw:Hid (NwT w3 cap2 w.heap.size A2 L):=⟨hNw0,by have:=hov.out.1.own;rw[hv2] at this;exact this.roomA,hrm.out⟩
   have hfin2:Hid (Items w3 A2 L∧du A2 L.length cap2∧Below w.heap.size w w3):=⟨hit,hn2,hSH.out.2.2.2.2.2.trans (hov.out.2.mono hSH.out.2.2.2.2.2.size)⟩
   subst hv2
   clear hit hn2 hov hnw hNw0
   go_wp2
   go_ret2
   exact ⟨L,A2,cap2,by rw[hfin.out.1];rfl,hfin.out.2,hfin2.out.1,hfin2.out.2.1,hfin2.out.2.2,hNw.out⟩
theorem zx {w:World} {A:Option Addr} {ca:Nat} {a:List Itm} (T:TypeId):ay eD 1 (w.alloc (V #[I A a.length ca] T)) (some ⟨w.heap.size,0,none⟩) [⟨A,ca,a⟩]:=by
 refine oR ⟨w.heap.size,0,rfl,by simp,fun j hj i hi=> ?_⟩
 obtain rfl:i=0:=by omega
 obtain rfl:j=0:=by simp at hj;omega
 exact ab (gR _) (j:=0) rfl
theorem zy {w:World} {A B:Option Addr} {ca cb:Nat} {a b:List Itm} (T:TypeId):ay eD 1 (w.alloc (V #[I A a.length ca,I B b.length cb] T)) (some ⟨w.heap.size,0,none⟩) [⟨A,ca,a⟩,⟨B,cb,b⟩]:=by
 refine oR ⟨w.heap.size,0,rfl,by simp,fun j hj i hi=> ?_⟩
 obtain rfl:i=0:=by omega
 have hj':j=0∨j=1:=by simp at hj;omega
 rcases hj' with rfl|rfl
 ·exact ab (gR _) (j:=0) rfl
 ·exact ab (gR _) (j:=1) rfl
theorem mp (a:List Itm) (A:Option Addr) (ca:Nat) (w:World) (hA:A=none→ca=0) (hI:Items w A a) (hl:a.length≤400) (hx:∀x∈a,okW x.n=true∧x.r.length≤8) :
  Calls Z 149 #[I (some ⟨w.heap.size,0,none⟩) 1 1] (w.alloc (V #[I A a.length ca] 53)) fun e w'=>∃(L:List Itm) (C:Option Addr) (c:Nat),e= H (Y #[I C L.length c,J O (dc (a.map Itm.z))])∧L.map Itm.z=lT (a.map Itm.z)∧Items w' C L∧du C L.length c∧Below w.heap.size w w'∧NwT w' c w.heap.size C L:=by
 have hg:Gr w (w.alloc (V #[I A a.length ca] 53)):=(gR _).alloc _
 have h:=nG [⟨A,ca,a⟩] (some ⟨w.heap.size,0,none⟩) 1 _ (zx 53) (by simp) (fun s hs=>by
  obtain rfl:s=_:=List.mem_singleton.1 hs
  exact ⟨hI.gr hg,hA,hl,hx⟩)
 have e1:([⟨A,ca,a⟩]:List Sl).flatMap (·.l)=a:=by simp
 rw[e1] at h
 refine h.mono ?_
 rintro e w' ⟨L,C,c,h1,h2,h3,h4,h5,h6⟩
 exact ⟨L,C,c,h1,h2,h3,h4,hg.below.trans (h5.mono hg.size),h6.mono hg.size⟩

theorem mq (a b:List Itm) (A B:Option Addr) (ca cb:Nat) (w:World) (hA:A=none→ca=0) (hB:B=none→cb=0) (hI:Items w A a) (hJ:Items w B b) (hl:a.length≤400) (hm:b.length≤400) (hx:∀x∈a,okW x.n=true∧x.r.length≤8) (hy:∀x∈b,okW x.n=true∧x.r.length≤8) :
  Calls Z 149 #[I (some ⟨w.heap.size,0,none⟩) 2 2] (w.alloc (V #[I A a.length ca,I B b.length cb] 53)) fun e w'=>∃(L:List Itm) (C:Option Addr) (c:Nat),e= H (Y #[I C L.length c,J O (dc (a.map Itm.z++b.map Itm.z))])∧L.map Itm.z=lT (a.map Itm.z++b.map Itm.z)∧Items w' C L∧du C L.length c∧Below w.heap.size w w'∧NwT w' c w.heap.size C L:=by
 have hg:Gr w (w.alloc (V #[I A a.length ca,I B b.length cb] 53)):=(gR _).alloc _
 have h:=nG [⟨A,ca,a⟩,⟨B,cb,b⟩] (some ⟨w.heap.size,0,none⟩) 2 _ (zy 53) (by simp) (fun s hs=>by
  rcases List.mem_cons.1 hs with e|e
  ·subst e;exact ⟨hI.gr hg,hA,hl,hx⟩
  ·obtain rfl:s=_:=List.mem_singleton.1 e
   exact ⟨hJ.gr hg,hB,hm,hy⟩)
 have e1:([⟨A,ca,a⟩,⟨B,cb,b⟩]:List Sl).flatMap (·.l)=a++b:=by simp
 rw[e1,List.map_append] at h
 refine h.mono ?_
 rintro e w' ⟨L,C,c,h1,h2,h3,h4,h5,h6⟩
 exact ⟨L,C,c,h1,h2,h3,h4,hg.below.trans (h5.mono hg.size),h6.mono hg.size⟩

end Go.Proofs.YtkefkplnamkicabGreatDoor
