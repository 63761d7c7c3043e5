/-
  What zset.total's loops keep: rows in order, summed up one after another.
  The library's slices.SortFunc at items: where its functions and types stand in this program.
  slices.SortFunc at items: by their rows.
-/
import Derived.Test.YtkadjjmkokhldaaGreatM08
import Derived.Shelf.SlSortCmp.NoneTotal
import Derived.Shelf.SlGeneric
import Derived.Test.YtkadjjmkokhldaaGreatProg
namespace Go.Proofs.YtkadjjmkokhldaaGreat

/-- In order by their rows. -/
def Sorted (S:List Zit):Prop:=S.Pairwise fun x y=>cmpL x.1 y.1≤0
/-- What holds when the first i items have been summed up. -/
structure Upto (S:List Zit) (i:Nat) (L:List Zit):Prop where
 tot:IsTot (S.take i) L
 len:L.length≤i
 part:∀x∈S.take i,∀y∈S.drop i,cmpL x.1 y.1<0
 good:∀r,okW (wt (S.take i) r)=true
theorem Upto.zero (S:List Zit):Upto S 0 []:=⟨⟨List.Pairwise.nil,fun x hx=>(by cases hx),fun r=>rfl⟩,by simp,fun x hx=>by simp at hx,fun r=>by simp[wt,okW,inB]⟩
theorem Upto.done {S L:List Zit} {i:Nat} (h:Upto S i L) (hi:S.length≤i):IsTot S L∧¬BadT S:=by
 have e:S.take i=S:=List.take_of_length_le hi
 refine ⟨by have:=h.tot;rwa [e] at this,?_⟩
 rintro ⟨r,hr⟩
 have:=h.good r
 rw[e,hr] at this;cases this
theorem wt_bound {l:List Zit} (h:∀x∈l,okW x.2=true) (r:List Int): -((l.length:Int)*1048576)≤wt l r∧wt l r≤(l.length:Int)*1048576:=by
 induction l with
 | nil=>simp[wt]
 | cons x l ih =>
  have h1:=ih fun y hy=>h y (List.mem_cons_of_mem _ hy)
  have h2:=h x (List.mem_cons_self ..)
  simp only[okW,inB,Bool.and_eq_true,decide_eq_true_eq] at h2
  simp only[wt,List.length_cons]
  by_cases e:x.1=r
  ·rw[if_pos e];omega
  ·rw[if_neg e];omega
theorem wt_take_succ {S:List Zit} {k:Nat} (hk:k<S.length) (r:List Int):wt (S.take (k+1)) r=wt (S.take k) r+if S[k].1=r then S[k].2 else 0:=by
 rw[List.take_succ_eq_append_getElem hk,wt_append]
 simp[wt]
/-- The rows from i to j are row. -/
def Run (S:List Zit) (row:List Int) (i j:Nat):Prop:=∀m (_:m<S.length),i≤m→m<j→S[m].1=row
theorem Run.seg {S:List Zit} {row:List Int} {i j:Nat} (h:Run S row i j):∀x∈(S.take j).drop i,x.1=row:=by
 intro x hx
 obtain ⟨k,hk,rfl⟩:=List.mem_iff_getElem.1 hx
 simp only[List.length_drop,List.length_take] at hk
 rw[List.getElem_drop,List.getElem_take]
 exact h _ (by omega) (by omega) (by omega)
theorem Run.split {S:List Zit} {i j:Nat} (hij:i≤j):S.take j=S.take i++(S.take j).drop i:=by
 conv=>lhs;rw[←List.take_append_drop i (S.take j)]
 rw[List.take_take,Nat.min_eq_left hij]
theorem Run.other {S:List Zit} {row:List Int} {i j:Nat} (h:Run S row i j) (hij:i≤j) {r:List Int} (hr:r≠row):wt (S.take j) r=wt (S.take i) r:=by
 rw[Run.split hij,wt_append,wt_none (l:=(S.take j).drop i) fun x hx e=>hr (by rw[←e];exact h.seg x hx)];omega
theorem Upto.first {S L:List Zit} {i:Nat} (h:Upto S i L) (hi:i<S.length):wt (S.take i) S[i].1=0 :=
 wt_none fun x hx e=>cmpL_ne (h.part x hx S[i] (by rw[List.drop_eq_getElem_cons hi];exact List.mem_cons_self ..)) e
theorem after {S:List Zit} {row:List Int} {j:Nat} (hs:Sorted S) (i:Nat) (hi:i<S.length) (hij:i<j) (hrow:S[i].1=row) (hj:∀(h:j<S.length),cmpL row S[j].1≠0):∀x∈S.drop j,cmpL row x.1<0:=by
 intro x hx
 obtain ⟨k,hk,rfl⟩:=List.mem_iff_getElem.1 hx
 simp only[List.length_drop] at hk
 rw[List.getElem_drop]
 have hp:=List.pairwise_iff_getElem.1 hs
 have h1:cmpL S[i].1 S[j].1≤0:=hp i j hi (by omega) hij
 rw[hrow] at h1
 have h2:=hj (by omega)
 by_cases e:k=0
 ·subst e;simp only[Nat.add_zero];omega
 ·have h3:cmpL S[j].1 S[j+k].1≤0:=hp j (j+k) (by omega) (by omega) (by omega)
  exact (cmpL_trans _ _ _ h1 h3).2 (Or.inl (by omega))
theorem run_bad {S:List Zit} {i j:Nat} (hs:Sorted S) (hi:i<S.length) (hij:i<j) (hj:∀(h:j<S.length),cmpL S[i].1 S[j].1≠0) (hb:okW (wt (S.take j) S[i].1)=false):BadT S:=by
 refine ⟨S[i].1,?_⟩
 have h1:wt S S[i].1=wt (S.take j) S[i].1:=by
  have h2:=wt_append (S.take j) (S.drop j) S[i].1
  rw[List.take_append_drop,wt_none (l:=S.drop j) fun x hx e=>cmpL_ne (after hs i hi hij rfl hj x hx) e.symm] at h2;omega
 rw[h1];exact hb
theorem run_part {S L:List Zit} {i j:Nat} (hs:Sorted S) (h:Upto S i L) (hi:i<S.length) (hij:i<j) (hr:Run S S[i].1 i j) (hj:∀(h:j<S.length),cmpL S[i].1 S[j].1≠0):∀x∈S.take j,∀y∈S.drop j,cmpL x.1 y.1<0:=by
 intro x hx y hy
 rw[Run.split (Nat.le_of_lt hij)] at hx
 have h1:=after hs i hi hij rfl hj y hy
 rcases List.mem_append.1 hx with e|e
 ·exact cmpL_lt_trans (h.part x e S[i] (by rw[List.drop_eq_getElem_cons hi];exact List.mem_cons_self ..)) h1
 ·rw[hr.seg x e];exact h1
theorem run_good {S L:List Zit} {i j:Nat} (h:Upto S i L) (hij:i<j) (row:List Int) (hr:Run S row i j) (hw:okW (wt (S.take j) row)=true):∀r,okW (wt (S.take j) r)=true:=by
 intro r
 by_cases e:r=row
 ·rw[e];exact hw
 ·rw[hr.other (Nat.le_of_lt hij) e];exact h.good r
theorem run_zero {S L:List Zit} {i j:Nat} (hs:Sorted S) (h:Upto S i L) (hi:i<S.length) (hij:i<j) (hr:Run S S[i].1 i j) (hj:∀(h:j<S.length),cmpL S[i].1 S[j].1≠0) (hw:wt (S.take j) S[i].1=0):Upto S j L:=by
 refine ⟨⟨h.tot.rise,h.tot.noz,fun r=> ?_⟩,by have:=h.len;omega,run_part hs h hi hij hr hj,run_good h hij _ hr (by rw[hw];decide)⟩
 rw[h.tot.same]
 by_cases e:r=S[i].1
 ·rw[e,hw,h.first hi]
 ·rw[hr.other (Nat.le_of_lt hij) e]
theorem run_more {S L:List Zit} {i j:Nat} (hs:Sorted S) (h:Upto S i L) (hi:i<S.length) (hij:i<j) (hr:Run S S[i].1 i j) (hj:∀(h:j<S.length),cmpL S[i].1 S[j].1≠0) (hw:okW (wt (S.take j) S[i].1)=true) (h0:wt (S.take j) S[i].1≠0):Upto S j (L++[(S[i].1,wt (S.take j) S[i].1)]):=by
 refine ⟨⟨?_,?_,fun r=> ?_⟩,by have:=h.len;simp;omega,run_part hs h hi hij hr hj,run_good h hij _ hr hw⟩
 ·unfold Rise
  rw[List.pairwise_append]
  refine ⟨h.tot.rise,List.pairwise_singleton _ _,fun x hx y hy=> ?_⟩
  obtain rfl:y=_:=by simpa using hy
  obtain ⟨z,hz,e⟩:=h.tot.row hx
  rw[←e]
  exact h.part z hz S[i] (by rw[List.drop_eq_getElem_cons hi];exact List.mem_cons_self ..)
 ·intro x hx
  rcases List.mem_append.1 hx with e|e
  ·exact h.tot.noz x e
  ·obtain rfl:x=_:=by simpa using e
   exact h0
 ·rw[wt_append,h.tot.same]
  simp only[wt]
  by_cases e:r=S[i].1
  ·rw[e,if_pos rfl,h.first hi];omega
  ·rw[if_neg fun k=>e k.symm,hr.other (Nat.le_of_lt hij) e];omega
theorem Sorted.perm_bad {l S:List Zit} (h:S.Perm l):BadT S↔BadT l:=by
 unfold BadT
 simp only[wt_perm h]
theorem IsTot.perm {l S T:List Zit} (h:S.Perm l) (k:IsTot S T):IsTot l T:=⟨k.rise,k.noz,fun r=>by rw[k.same,wt_perm h]⟩

end Go.Proofs.YtkadjjmkokhldaaGreat

namespace Go.Proofs
open Go.Shelf
def Tryz.sortItm_ren:Go.Shelf.Ren:=⟨fun|6=>112|15=>83|14=>139|28=>102|29=>103|20=>150|21=>151|22=>152|23=>153|24=>154|25=>155|26=>156|27=>157|46=>176|47=>127|48=>128|49=>177|50=>178|57=>185|n=>n,fun|22=>62|24=>90|25=>172|3=>3|39=>139|0=>0|53=>161|55=>163|4=>4|46=>155|45=>154|50=>121|5=>5|9=>9|66=>180|70=>184|76=>199|77=>200|n=>n,fun|n=>n⟩
theorem Tryz.sortItm:Go.Proofs.SlLaysF0.n6 Tryz.prog Tryz.sortItm_ren:={
 mixed:=by kernel_rfl
 f6:=⟨Tryz.f112.name,by decide,Tryz.func112.trans (congrArg some (by kernel_rfl))⟩
 f14:=⟨Tryz.f139.name,by decide,Tryz.func139.trans (congrArg some (by kernel_rfl))⟩
 f15:=Tryz.func83.trans (congrArg some (by kernel_rfl))
 f20:=⟨Tryz.f150.name,by decide,Tryz.func150.trans (congrArg some (by kernel_rfl))⟩
 f21:=⟨Tryz.f151.name,by decide,Tryz.func151.trans (congrArg some (by kernel_rfl))⟩
 f22:=⟨Tryz.f152.name,by decide,Tryz.func152.trans (congrArg some (by kernel_rfl))⟩
 f23:=⟨Tryz.f153.name,by decide,Tryz.func153.trans (congrArg some (by kernel_rfl))⟩
 f24:=⟨Tryz.f154.name,by decide,Tryz.func154.trans (congrArg some (by kernel_rfl))⟩
 f25:=⟨Tryz.f155.name,by decide,Tryz.func155.trans (congrArg some (by kernel_rfl))⟩
 f26:=⟨Tryz.f156.name,by decide,Tryz.func156.trans (congrArg some (by kernel_rfl))⟩
 f27:=⟨Tryz.f157.name,by decide,Tryz.func157.trans (congrArg some (by kernel_rfl))⟩
 f28:=Tryz.func102.trans (congrArg some (by kernel_rfl))
 f29:=Tryz.func103.trans (congrArg some (by kernel_rfl))
 f46:=⟨Tryz.f176.name,by decide,Tryz.func176.trans (congrArg some (by kernel_rfl))⟩
 f47:=Tryz.func127.trans (congrArg some (by kernel_rfl))
 f48:=Tryz.func128.trans (congrArg some (by kernel_rfl))
 f49:=⟨Tryz.f177.name,by decide,Tryz.func177.trans (congrArg some (by kernel_rfl))⟩
 f50:=⟨Tryz.f178.name,by decide,Tryz.func178.trans (congrArg some (by kernel_rfl))⟩
 f57:=⟨Tryz.f185.name,by decide,Tryz.func185.trans (congrArg some (by kernel_rfl))⟩
 t0:=Tryz.underlying0
 a0:=Tryz.isAgg0
 z0:=Tryz.sizeOf0
 v0:=Tryz.zeroValue0
 t3:=Tryz.underlying3
 a3:=Tryz.isAgg3
 z3:=Tryz.sizeOf3
 v3:=Tryz.zeroValue3
 t4:=Tryz.underlying4
 a4:=Tryz.isAgg4
 z4:=Tryz.sizeOf4
 v4:=Tryz.zeroValue4
 t5:=Tryz.underlying5
 a5:=Tryz.isAgg5
 z5:=Tryz.sizeOf5
 v5:=Tryz.zeroValue5
 t9:=Tryz.underlying9
 a9:=Tryz.isAgg9
 z9:=Tryz.sizeOf9
 v9:=Tryz.zeroValue9
 t22:=Tryz.underlying62
 a22:=Tryz.isAgg62
 z22:=Tryz.sizeOf62
 v22:=Tryz.zeroValue62
 t25:=Tryz.underlying172
 a25:=Tryz.isAgg172
 z25:=Tryz.sizeOf172
 v25:=Tryz.zeroValue172
 t39:=Tryz.underlying139
 a39:=Tryz.isAgg139
 z39:=Tryz.sizeOf139
 v39:=Tryz.zeroValue139
 t45:=Tryz.underlying154
 a45:=Tryz.isAgg154
 z45:=Tryz.sizeOf154
 v45:=Tryz.zeroValue154
 t46:=Tryz.underlying155
 a46:=Tryz.isAgg155
 z46:=Tryz.sizeOf155
 v46:=Tryz.zeroValue155
 t50:=Tryz.underlying121
 a50:=Tryz.isAgg121
 z50:=Tryz.sizeOf121
 v50:=Tryz.zeroValue121
 t53:=Tryz.underlying161
 a53:=Tryz.isAgg161
 z53:=Tryz.sizeOf161
 v53:=Tryz.zeroValue161
 t55:=Tryz.underlying163
 a55:=Tryz.isAgg163
 z55:=Tryz.sizeOf163
 v55:=Tryz.zeroValue163
 t66:=Tryz.underlying180
 a66:=Tryz.isAgg180
 z66:=Tryz.sizeOf180
 v66:=Tryz.zeroValue180
 t70:=Tryz.underlying184
 a70:=Tryz.isAgg184
 z70:=Tryz.sizeOf184
 v70:=Tryz.zeroValue184
 t76:=Tryz.underlying199
 a76:=Tryz.isAgg199
 z76:=Tryz.sizeOf199
 v76:=Tryz.zeroValue199
 t77:=Tryz.underlying200
 a77:=Tryz.isAgg200
 z77:=Tryz.sizeOf200
 v77:=Tryz.zeroValue200 }
end Go.Proofs

namespace Go.Proofs.YtkadjjmkokhldaaGreat
open Go.RowKit Go.Sort Go.Shelf Go.Lib

/-- An item of a list. -/
abbrev InT (l:List Itm):={x:Itm // x∈l}
def encIn (l:List Itm) (x:InT l):List Value:=encT x.1
def cfIn (l:List Itm) (x y:InT l):Int:=cmpL x.1.r y.1.r
theorem ltIn (l:List Itm) (x y:InT l):ltOf (cfIn l) x y=decide (cmpL x.1.r y.1.r<0):=rfl
theorem swoIn (l:List Itm):SWO (ltOf (cfIn l)) where
 irrefl x:=by rw[ltIn,cmpL_self];rfl
 trans x y z h1 h2:=by
  rw[ltIn,decide_eq_true_eq] at *
  exact cmpL_lt_trans h1 h2
 ntrans x y z h1 h2:=by
  rw[ltIn,decide_eq_false_iff_not] at *
  have e1:=cmpL_flip x.1.r y.1.r
  have e2:=cmpL_flip y.1.r z.1.r
  have e3:=cmpL_flip x.1.r z.1.r
  have:=(cmpL_trans z.1.r y.1.r x.1.r (by omega) (by omega)).1
  omega

theorem sortW_block {α : Type} [Inhabited α] {enc: α → List Value} {w:World} {g n b:Nat} {os:Array Obj} {d:Array α} (hb:b<w.heap.size) (hne:b≠g):(sortWorldK enc 2 w g 0 n d os).heap[b]? = w.heap[b]? := by
 show ((putRowK enc 2 (Sort.ahead w n) g 0 d).heap++os)[b]? = _
 rw[Array.getElem?_append_left (by simp[putRowK];exact hb)]
 show ((Sort.ahead w n).heap.modify g _)[b]? = _
 rw[Array.getElem?_modify,if_neg (by omega)]
 rfl
theorem sortW_size {α : Type} [Inhabited α] {enc: α → List Value} {w:World} {g n:Nat} {os:Array Obj} {d:Array α}:w.heap.size≤(sortWorldK enc 2 w g 0 n d os).heap.size:=by simp[sortWorldK,grow,putRowK]
theorem rowI_sortW {α : Type} [Inhabited α] {enc: α → List Value} {w:World} {g n:Nat} {os:Array Obj} {d:Array α} {p:Option Addr} {r:List Int} (h:RowI w p r) (hne:∀a,p=some a→r≠[]→a.block≠g):RowI (sortWorldK enc 2 w g 0 n d os) p r:=by
 rcases h with k|⟨b,off,hp,hb,hc⟩
 ·exact Or.inl k
 by_cases hr:r=[]
 ·exact Or.inl hr
 ·refine Or.inr ⟨b,off,hp,Nat.lt_of_lt_of_le hb sortW_size,fun j hj i hi=> ?_⟩
  rw[World.cell?_of_block (a:=⟨b,off+j*1+i,none⟩) (sortW_block hb (hne ⟨b,off,none⟩ hp hr))]
  exact hc j hj i hi
theorem below_sortT {α : Type} [Inhabited α] {enc: α → List Value} {w:World} {g n base:Nat} {os:Array Obj} {d:Array α} (hb:base≤g) (hs:base≤w.heap.size):Go.RowKit.Below base w (sortWorldK enc 2 w g 0 n d os) :=
 ⟨rfl,rfl,rfl,sortW_size,fun k hk=>sortW_block (by omega) (by omega)⟩
theorem attach_val (l:List Itm):l.attach.map Subtype.val=l:=by simp
theorem holdsT {w:World} {g:Nat} {l:List Itm} [Inhabited (InT l)] (h:RowG encT 2 w (some ⟨g,0,none⟩) l) (hf:∀j,w.frozen? ⟨g,j,none⟩=false):HoldsK (encIn l) 2 w g 0 l.attach.toArray:=by
 intro t ht
 rw[size_flatK] at ht
 rw[get_flatK _ _ _ t ht]
 simp only[List.size_toArray,List.length_attach] at ht
 have hk:t / 2<l.length:=by omega
 refine ⟨?_,hf _⟩
 obtain ⟨b,off,hA,hb,hc⟩:=h.at hk
 obtain ⟨rfl,rfl⟩:g=b∧0=off:=by injection hA with hA;injection hA with h1 h2;exact ⟨h1,h2⟩
 have hk':t / 2<l.attach.toArray.size:=by simpa using hk
 have e:(l.attach.toArray[t / 2]!).1=l[t / 2]:=by rw[getElem!_pos l.attach.toArray (t / 2) hk'];simp
 have:=hc (t / 2) hk (t % 2) (Nat.mod_lt _ (by omega))
 rw[show 0+t / 2*2+t % 2=0+t from by omega] at this
 rw[this]
 unfold encIn
 rw[e]
 have hm:t % 2<2:=Nat.mod_lt _ (by omega)
 match t % 2,hm with
 | 0,_=>rfl
 | 1,_=>rfl
theorem rowKT {w:World} {g:Nat} {l:List Itm} [Inhabited (InT l)] {d:Array (InT l)} (h:HoldsK (encIn l) 2 w g 0 d) (hg:g<w.heap.size):RowG encT 2 w (some ⟨g,0,none⟩) (d.toList.map Subtype.val):=by
 refine Or.inr ⟨g,0,rfl,hg,fun j hj i hi=> ?_⟩
 have hj':j<d.size:=by simpa using hj
 have h0:=(h (j*2+i) (by rw[size_flatK];omega)).1
 rw[get_flatK _ _ _ _ (by omega)] at h0
 rw[show (j*2+i) / 2=j from by omega,show (j*2+i) % 2=i from by omega,getElem!_pos d j hj'] at h0
 rw[show 0+j*2+i=0+(j*2+i) from by omega,h0]
 simp only[List.getElem_map,Array.getElem_toList]
 unfold encIn
 match i,hi with
 | 0,_=>rfl
 | 1,_=>rfl
/-- What is asked of the order that is handed in. -/
def CmpT (fid:Nat) (cb:Array Value):Prop:=∀(x y:Itm) (w:World),RowI w x.p x.r→RowI w y.p y.r→x.r.length≤maxLen→Calls Tryz.prog fid (#[.agg (encT x).toArray,.agg (encT y).toArray]++cb) w fun e w'=>e= .returned (.int .i64 (cmpL x.r y.r))∧∃q os',w'=grow (w.drewN q) os'

theorem sortT (fid:Nat) (cb:Array Value) (eg:∀args w,(callFunc fid args).run Tryz.prog w= .ok (.enter fid args) w) (hcmp:CmpT fid cb) (g cap:Nat) (l:List Itm) (w:World) (hl0:l≠[]) (hrow:RowG encT 2 w (some ⟨g,0,none⟩) l) (hf:∀j,w.frozen? ⟨g,j,none⟩=false) (hg:g<w.heap.size) (he:∀x∈l,RowI w x.p x.r∧x.r.length≤maxLen∧(x.p=none→x.c=0)∧(∀a,x.p=some a→x.r≠[]→a.block≠g)) (hsz:l.length<4611686018427387904) :
  Calls Tryz.prog 112 #[.slice (some ⟨g,0,none⟩) l.length cap,.func (.func fid) #[] cb] w fun e w'=>e= .returned (.tuple #[])∧(∃S:List Itm,S.Perm l∧Sorted (S.map Itm.z)∧Items w' (some ⟨g,0,none⟩) S)∧∀base,base≤g→base≤w.heap.size→Go.RowKit.Below base w w':=by
 obtain ⟨x0,hx0⟩:∃x,x∈l:=List.exists_mem_of_ne_nil l hl0
 haveI:Inhabited (InT l):=⟨⟨x0,hx0⟩⟩
 have hcl:CmpLays Tryz.prog fid cb (encIn l) 2 (cfIn l) g 0 l.attach.toArray.size w:=fun m os dk _ x y =>
  hcmp x.1 y.1 _ (rowI_sortW (he _ x.2).1 (he _ x.2).2.2.2) (rowI_sortW (he _ y.2).1 (he _ y.2).2.2.2) (he _ x.2).2.1
 have hcon:=AnyQ.slices_SortFunc Tryz.sortItm 2 Tryz.isAgg90 Tryz.sizeOf90 (encIn l) (fun _=>rfl) (fun x=>encT_one x.1) (cfIn l) (swoIn l) fid cb g 0 cap l.attach.toArray w eg hcl (holdsT hrow hf) hg (by simpa using hsz)
 change Calls Tryz.prog 112 _ _ _ at hcon
 simp only[List.size_toArray,List.length_attach] at hcon
 refine hcon.mono ?_
 rintro e w' ⟨he',d',n,os,hp,hs,hw⟩
 obtain ⟨hsz',_,hperm⟩:=hp
 simp only[List.size_toArray,List.length_attach] at hsz'
 have e1:d'.extract 0 l.length=d':=by rw[←hsz'];exact Array.extract_size
 have e2:(l.attach.toArray.extract 0 l.length).toList=l.attach:=by simp only[List.extract_toArray,List.drop_zero,Nat.sub_zero,List.extract_eq_take_drop];exact List.take_of_length_le (by simp)
 rw[e1,e2] at hperm
 have hpm:(d'.toList.map Subtype.val).Perm l:=by have:=hperm.map Subtype.val;rwa [attach_val] at this
 refine ⟨he',⟨d'.toList.map Subtype.val,hpm,?_,?_,?_⟩,fun base h1 h2=>by rw[hw];exact below_sortT h1 h2⟩
 ·unfold Sorted
  rw[List.map_map,List.pairwise_map,List.pairwise_iff_getElem]
  intro i j hi hj hij
  have hi':i<d'.size:=by simpa using hi
  have hj':j<d'.size:=by simpa using hj
  have:=hs i j (Nat.zero_le _) hij (by omega)
  rw[getElem!_pos d' j hj',getElem!_pos d' i hi',ltIn,decide_eq_false_iff_not] at this
  have e3:=cmpL_flip (d'[j]'hj').1.r (d'[i]'hi').1.r
  show cmpL (d'[i]'hi').1.r (d'[j]'hj').1.r≤0
  omega
 ·have hH':HoldsK (encIn l) 2 w' g 0 d':=by
   rw[hw]
   refine holdsK_grow _ _ _ _ _ _ _ (by simp[putRowK];exact hg) ?_
   exact holdsK_putRowK _ _ _ _ _ l.attach.toArray _ (holdsK_ahead _ _ _ _ _ _ _ (holdsT hrow hf)) (by simp[hsz'])
  exact rowKT hH' (by rw[hw];exact Nat.lt_of_lt_of_le hg sortW_size)
 ·intro x hx
  have hx':=he x (hpm.mem_iff.1 hx)
  rw[hw]
  exact ⟨rowI_sortW hx'.1 hx'.2.2.2,hx'.2.1,hx'.2.2.1⟩

set_option maxHeartbeats 1000000 in
/-- The order that total hands in. -/
theorem cmpT_any:CmpT 113 #[]:=by
 intro x y w hx hy hl
 have hrH:Hid (RowI w x.p x.r∧RowI w y.p y.r∧x.r.length≤maxLen):=⟨hx,hy,hl⟩
 clear hx hy hl
 show Calls Tryz.prog 113 #[.agg #[.slice x.p x.r.length x.c,.int .i64 x.n],.agg #[.slice y.p y.r.length y.c,.int .i64 y.n]] w _
 go_enter Tryz.func113,Tryz.ntmps113
 go_wp2_with fail
 have hg:Gr w ((w.alloc (.cells #[.slice x.p x.r.length x.c,.int .i64 x.n] 90)).alloc (.cells #[.slice y.p y.r.length y.c,.int .i64 y.n] 90)):=((Gr.refl _).alloc _).alloc _
 refine (orderR_any x.r y.r x.p y.p x.c y.c _ hrH.out.2.2 (hrH.out.1.gr hg) (hrH.out.2.1.gr hg)).mono ?_
 rintro e w' ⟨rfl,hg2⟩
 have hfin:Hid (Gr w w'):=hg.trans hg2
 clear hg hg2
 go_wp2
 go_ret
 exact ⟨rfl,hfin.out⟩

theorem sortOwnT (fid:Nat) (eg:∀args w,(callFunc fid args).run Tryz.prog w= .ok (.enter fid args) w) (hcmp:CmpT fid #[]) (base:Nat) (v:Value) (l:List Itm) (w:World) (hown:OwnG encT 2 90 w base v l) (hb:base≤w.heap.size) (he:∀x∈l,RowI w x.p x.r∧x.r.length≤maxLen∧(x.p=none→x.c=0)∧(∀a,x.p=some a→x.r≠[]→a.block<base)) (hsz:l.length<4611686018427387904) :
  Calls Tryz.prog 112 #[v,.func (.func fid) #[] #[]] w fun e w'=>e= .returned (.tuple #[])∧(∃(S:List Itm) (A:Option Addr) (cap:Nat),v= .slice A S.length cap∧S.Perm l∧Sorted (S.map Itm.z)∧Items w' A S∧(A=none→cap=0))∧Go.RowKit.Below base w w':=by
 obtain ⟨A,cap,rfl,hA,hrow,hcap,hlt,hfz⟩:=OwnG.full encT_len hown
 by_cases h0:l=[]
 ·subst h0
  have hcon:=AnyF.slices_SortFunc_none Tryz.sortItm A cap (.func (.func fid) #[] #[]) w
  change Calls Tryz.prog 112 _ _ _ at hcon
  refine hcon.mono ?_
  rintro e w' ⟨hee,rfl⟩
  exact ⟨hee,⟨[],A,cap,rfl,List.Perm.refl _,List.Pairwise.nil,⟨Or.inl rfl,fun x hx=>absurd hx (by simp)⟩,hA⟩,Below.refl _ _⟩
 ·have hpos:0<l.length:=List.length_pos_iff.2 h0
  obtain ⟨b,off,hAe,hbb,_⟩:=hrow.at hpos
  subst hAe
  have h5:=hlt _ rfl
  obtain rfl:off=0:=h5.2.2.1
  refine (sortT fid #[] eg hcmp b cap l w h0 hrow (hfz _ rfl) hbb (fun x hx=> ?_) hsz).mono ?_
  ·have h6:=he x hx
   refine ⟨h6.1,h6.2.1,h6.2.2.1,fun a ha hr=> ?_⟩
   have h7:=h6.2.2.2 a ha hr
   have h8:base≤b:=h5.1
   omega
  ·rintro e w' ⟨he,⟨S,hp,hs,hit⟩,hbel⟩
   exact ⟨he,⟨S,_,cap,by rw[hp.length_eq],hp,hs,hit,hA⟩,hbel base h5.1 hb⟩

end Go.Proofs.YtkadjjmkokhldaaGreat
