import Derived.Test.YtjmmpnmgpgaagaaGreatDoorM03
import Derived.Lib.AppendZeros
import Derived.Deep.Cut
set_option maxRecDepth 100000
set_option maxHeartbeats 8000000
open Go renaming World → Y, Addr → K, Calls → D, Value → ia
open Go.Ending renaming returned → U
open Go.IntKind renaming i64 → J
open Go.Obj renaming cells → V
open Go.Proofs.Tryz renaming prog → H
open Go.RowKit renaming Hid → O, Below → X
open Go.Value renaming slice → I, int → Z, tuple → ib
namespace Go.Proofs.YtjmmpnmgpgaagaaGreatDoor

def fe (S:List Zit):Prop:=S.Pairwise fun x y=>aC x.1 y.1<=0
structure Upto (S:List Zit) (i:Nat) (L:List Zit):Prop where
 tot:IsTot (S.take i) L
 len:L.length<=i
 part:∀x∈S.take i,∀y∈S.drop i,aC x.1 y.1<0
 good:∀r,okW (wt (S.take i) r)=true
theorem Upto.zero (S:List Zit):Upto S 0 []:=⟨⟨List.Pairwise.nil,fun x f=>(by cases f),fun r=>rfl⟩,by simp,fun x f=>by simp at f,fun r=>by simp[wt,okW,inB]⟩
theorem Upto.done {S L:List Zit} {i:Nat} (h:Upto S i L) (hi:S.length<=i):IsTot S L/\¬qt S:=by
 have e:S.take i=S:=List.take_of_length_le hi
 refine ⟨by have:=h.tot;rwa [e] at this,?_⟩
 rintro ⟨r,f⟩
 have:=h.good r
 rw[e,f] at this;cases this
theorem B3 {l:List Zit} (h:∀x∈l,okW x.2=true) (r:List Int): -((l.length:Int)*1048576)<=wt l r/\wt l r<=(l.length:Int)*1048576:=by
 induction l with
 | nil=>simp[wt]
 | cons x l ih =>
  have j:=ih fun y g=>h y (mC _ g)
  have f:=h x (mS ..)
  simp only[okW,inB,Bool.and_eq_true,decide_eq_true_eq] at f
  simp only[wt,List.length_cons]
  by_cases e:x.1=r
  ·rw[if_pos e];omega
  ·rw[if_neg e];omega
theorem ri {S:List Zit} {k:Nat} (f:k<S.length) (r:List Int):wt (S.take (k+1)) r=wt (S.take k) r+if S[k].1=r then S[k].2 else 0:=by
 rw[List.take_succ_eq_append_getElem f,eh]
 simp[wt]
def Run (S:List Zit) (row:List Int) (i j:Nat):Prop:=∀m (_:m<S.length),i<=m->m<j->S[m].1=row
theorem Run.seg {S:List Zit} {row:List Int} {i j:Nat} (h:Run S row i j):∀x∈(S.take j).drop i,x.1=row:=by
 intro x g
 obtain ⟨k,f,rfl⟩:=List.mem_iff_getElem.1 g
 simp only[List.length_drop,List.length_take] at f
 rw[List.getElem_drop,List.getElem_take]
 exact h _ (by omega) (by omega) (by omega)
theorem Run.split {S:List Zit} {i j:Nat} (f:i<=j):S.take j=S.take i++(S.take j).drop i:=by
 conv=>lhs;rw[<-List.take_append_drop i (S.take j)]
 rw[List.take_take,Nat.min_eq_left f]
theorem Run.other {S:List Zit} {row:List Int} {i j:Nat} (h:Run S row i j) (f:i<=j) {r:List Int} (g:r≠row):wt (S.take j) r=wt (S.take i) r:=by
 rw[Run.split f,eh,jA (l:=(S.take j).drop i) fun x k e=>g (by rw[<-e];exact h.seg x k)];omega
theorem Upto.first {S L:List Zit} {i:Nat} (h:Upto S i L) (hi:i<S.length):wt (S.take i) S[i].1=0 :=
 jA fun x f e=>fO (h.part x f S[i] (by rw[List.drop_eq_getElem_cons hi];exact mS ..)) e
theorem after {S:List Zit} {row:List Int} {j:Nat} (F:fe S) (i:Nat) (hi:i<S.length) (g:i<j) (f:S[i].1=row) (C:∀(h:j<S.length),aC row S[j].1≠0):∀x∈S.drop j,aC row x.1<0:=by
 intro x L
 obtain ⟨k,E,rfl⟩:=List.mem_iff_getElem.1 L
 simp only[List.length_drop] at E
 rw[List.getElem_drop]
 have r:=List.pairwise_iff_getElem.1 F
 have n:aC S[i].1 S[j].1<=0:=r i j hi (by omega) g
 rw[f] at n
 have R:=C (by omega)
 by_cases e:k=0
 ·subst e;simp only[Nat.add_zero];omega
 ·have u:aC S[j].1 S[j+k].1<=0:=r j (j+k) (by omega) (by omega) (by omega)
  exact (fA _ _ _ n u).2 (oL (by omega))
theorem Cc {S:List Zit} {i j:Nat} (u:fe S) (hi:i<S.length) (f:i<j) (r:∀(h:j<S.length),aC S[i].1 S[j].1≠0) (n:okW (wt (S.take j) S[i].1)=false):qt S:=by
 refine ⟨S[i].1,?_⟩
 have g:wt S S[i].1=wt (S.take j) S[i].1:=by
  have k:=eh (S.take j) (S.drop j) S[i].1
  rw[List.take_append_drop,jA (l:=S.drop j) fun x C e=>fO (after u i hi f rfl r x C) e.symm] at k;omega
 rw[g];exact n
theorem sQ {S L:List Zit} {i j:Nat} (u:fe S) (h:Upto S i L) (hi:i<S.length) (f:i<j) (r:Run S S[i].1 i j) (n:∀(h:j<S.length),aC S[i].1 S[j].1≠0):∀x∈S.take j,∀y∈S.drop j,aC x.1 y.1<0:=by
 intro x k y C
 rw[Run.split (Nat.le_of_lt f)] at k
 have g:=after u i hi f rfl n y C
 rcases List.mem_append.1 k with e|e
 ·exact cL (h.part x e S[i] (by rw[List.drop_eq_getElem_cons hi];exact mS ..)) g
 ·rw[r.seg x e];exact g
theorem sP {S L:List Zit} {i j:Nat} (h:Upto S i L) (f:i<j) (row:List Int) (g:Run S row i j) (k:okW (wt (S.take j) row)=true):∀r,okW (wt (S.take j) r)=true:=by
 intro r
 by_cases e:r=row
 ·rw[e];exact k
 ·rw[g.other (Nat.le_of_lt f) e];exact h.good r
theorem Ay {S L:List Zit} {i j:Nat} (u:fe S) (h:Upto S i L) (hi:i<S.length) (f:i<j) (g:Run S S[i].1 i j) (n:∀(h:j<S.length),aC S[i].1 S[j].1≠0) (k:wt (S.take j) S[i].1=0):Upto S j L:=by
 refine ⟨⟨h.tot.rise,h.tot.noz,fun r=> ?_⟩,by have:=h.len;omega,sQ u h hi f g n,sP h f _ g (by rw[k];decide)⟩
 rw[h.tot.same]
 by_cases e:r=S[i].1
 ·rw[e,k,h.first hi]
 ·rw[g.other (Nat.le_of_lt f) e]
theorem Ax {S L:List Zit} {i j:Nat} (E:fe S) (h:Upto S i L) (hi:i<S.length) (f:i<j) (g:Run S S[i].1 i j) (C:∀(h:j<S.length),aC S[i].1 S[j].1≠0) (F:okW (wt (S.take j) S[i].1)=true) (u:wt (S.take j) S[i].1≠0):Upto S j (L++[(S[i].1,wt (S.take j) S[i].1)]):=by
 refine ⟨⟨?_,?_,fun r=> ?_⟩,by have:=h.len;simp;omega,sQ E h hi f g C,sP h f _ g F⟩
 ·unfold f8
  rw[List.pairwise_append]
  refine ⟨h.tot.rise,List.pairwise_singleton _ _,fun x n y R=> ?_⟩
  obtain rfl:y=_:=by simpa using R
  obtain ⟨z,hz,e⟩:=h.tot.row n
  rw[<-e]
  exact h.part z hz S[i] (by rw[List.drop_eq_getElem_cons hi];exact mS ..)
 ·intro x n
  rcases List.mem_append.1 n with e|e
  ·exact h.tot.noz x e
  ·obtain rfl:x=_:=by simpa using e
   exact u
 ·rw[eh,h.tot.same]
  simp only[wt]
  by_cases e:r=S[i].1
  ·rw[e,if_pos rfl,h.first hi];omega
  ·rw[if_neg fun k=>e k.symm,g.other (Nat.le_of_lt f) e];omega
theorem fe.perm_bad {l S:List Zit} (h:S.Perm l):qt S↔qt l:=by
 unfold qt
 simp only[vU h]
theorem IsTot.perm {l S T:List Zit} (h:S.Perm l) (k:IsTot S T):IsTot l T:=⟨k.rise,k.noz,fun r=>by rw[k.same,vU h]⟩

end Go.Proofs.YtjmmpnmgpgaagaaGreatDoor

namespace Go.Proofs
open Go.Shelf
def Tryz.sortItm_ren:Go.Shelf.Ren:=⟨fun|6=>157|15=>181|14=>184|28=>219|29=>98|20=>220|21=>221|22=>222|23=>223|24=>224|25=>225|26=>226|27=>227|46=>241|47=>237|48=>238|49=>242|50=>243|57=>258|n=>n,fun|22=>59|24=>151|25=>234|3=>3|39=>101|0=>0|53=>121|55=>125|4=>4|46=>281|45=>280|50=>88|5=>5|9=>9|66=>301|70=>224|76=>317|77=>318|n=>n,fun|n=>n⟩
theorem Tryz.sortItm:Go.Proofs.SlLaysF0.n6 H Tryz.sortItm_ren:={
 mixed:=by kernel_rfl
 f6:=⟨Tryz.f157.name,by decide,Tryz.func157.trans (congrArg some (by kernel_rfl))⟩
 f14:=⟨Tryz.f184.name,by decide,Tryz.func184.trans (congrArg some (by kernel_rfl))⟩
 f15:=Tryz.func181.trans (congrArg some (by kernel_rfl))
 f20:=⟨Tryz.f220.name,by decide,Tryz.func220.trans (congrArg some (by kernel_rfl))⟩
 f21:=⟨Tryz.f221.name,by decide,Tryz.func221.trans (congrArg some (by kernel_rfl))⟩
 f22:=⟨Tryz.f222.name,by decide,Tryz.func222.trans (congrArg some (by kernel_rfl))⟩
 f23:=⟨Tryz.f223.name,by decide,Tryz.func223.trans (congrArg some (by kernel_rfl))⟩
 f24:=⟨Tryz.f224.name,by decide,Tryz.func224.trans (congrArg some (by kernel_rfl))⟩
 f25:=⟨Tryz.f225.name,by decide,Tryz.func225.trans (congrArg some (by kernel_rfl))⟩
 f26:=⟨Tryz.f226.name,by decide,Tryz.func226.trans (congrArg some (by kernel_rfl))⟩
 f27:=⟨Tryz.f227.name,by decide,Tryz.func227.trans (congrArg some (by kernel_rfl))⟩
 f28:=Tryz.func219.trans (congrArg some (by kernel_rfl))
 f29:=Tryz.func98.trans (congrArg some (by kernel_rfl))
 f46:=⟨Tryz.f241.name,by decide,Tryz.func241.trans (congrArg some (by kernel_rfl))⟩
 f47:=Tryz.func237.trans (congrArg some (by kernel_rfl))
 f48:=Tryz.func238.trans (congrArg some (by kernel_rfl))
 f49:=⟨Tryz.f242.name,by decide,Tryz.func242.trans (congrArg some (by kernel_rfl))⟩
 f50:=⟨Tryz.f243.name,by decide,Tryz.func243.trans (congrArg some (by kernel_rfl))⟩
 f57:=⟨Tryz.f258.name,by decide,Tryz.func258.trans (congrArg some (by kernel_rfl))⟩
 t0:=Tryz.underlying0
 a0:=Tryz.isAgg0
 z0:=Tryz.sizeOf0
 v0:=Tryz.zeroValue0
 t3:=Tryz.underlying3
 a3:=Tryz.isAgg3
 z3:=Tryz.sizeOf3
 v3:=Tryz.zeroValue3
 t4:=Tryz.underlying4
 a4:=Tryz.isAgg4
 z4:=Tryz.sizeOf4
 v4:=Tryz.zeroValue4
 t5:=Tryz.underlying5
 a5:=Tryz.isAgg5
 z5:=Tryz.sizeOf5
 v5:=Tryz.zeroValue5
 t9:=Tryz.underlying9
 a9:=Tryz.isAgg9
 z9:=Tryz.sizeOf9
 v9:=Tryz.zeroValue9
 t22:=Tryz.underlying59
 a22:=Tryz.isAgg59
 z22:=Tryz.sizeOf59
 v22:=Tryz.zeroValue59
 t25:=Tryz.underlying234
 a25:=Tryz.isAgg234
 z25:=Tryz.sizeOf234
 v25:=Tryz.zeroValue234
 t39:=Tryz.underlying101
 a39:=Tryz.isAgg101
 z39:=Tryz.sizeOf101
 v39:=Tryz.zeroValue101
 t45:=Tryz.underlying280
 a45:=Tryz.isAgg280
 z45:=Tryz.sizeOf280
 v45:=Tryz.zeroValue280
 t46:=Tryz.underlying281
 a46:=Tryz.isAgg281
 z46:=Tryz.sizeOf281
 v46:=Tryz.zeroValue281
 t50:=Tryz.underlying88
 a50:=Tryz.isAgg88
 z50:=Tryz.sizeOf88
 v50:=Tryz.zeroValue88
 t53:=Tryz.underlying121
 a53:=Tryz.isAgg121
 z53:=Tryz.sizeOf121
 v53:=Tryz.zeroValue121
 t55:=Tryz.underlying125
 a55:=Tryz.isAgg125
 z55:=Tryz.sizeOf125
 v55:=Tryz.zeroValue125
 t66:=Tryz.underlying301
 a66:=Tryz.isAgg301
 z66:=Tryz.sizeOf301
 v66:=Tryz.zeroValue301
 t70:=Tryz.underlying224
 a70:=Tryz.isAgg224
 z70:=Tryz.sizeOf224
 v70:=Tryz.zeroValue224
 t76:=Tryz.underlying317
 a76:=Tryz.isAgg317
 z76:=Tryz.sizeOf317
 v76:=Tryz.zeroValue317
 t77:=Tryz.underlying318
 a77:=Tryz.isAgg318
 z77:=Tryz.sizeOf318
 v77:=Tryz.zeroValue318 }
end Go.Proofs

namespace Go.Proofs.YtjmmpnmgpgaagaaGreatDoor
open Go.RowKit Go.Sort Go.Shelf Go.Lib

abbrev InT (l:List Itm):={x:Itm // x∈l}
def jI (l:List Itm) (x:InT l):List ia:=aD x.1
def Bd (l:List Itm) (x y:InT l):Int:=aC x.1.r y.1.r
theorem BH (l:List Itm) (x y:InT l):ltOf (Bd l) x y=decide (aC x.1.r y.1.r<0):=rfl
theorem Eu (l:List Itm):SWO (ltOf (Bd l)) where
 irrefl x:=by rw[BH,jj];rfl
 trans x y z h1 h2:=by
  rw[BH,decide_eq_true_eq] at *
  exact cL h1 h2
 ntrans x y z h1 h2:=by
  rw[BH,decide_eq_false_iff_not] at *
  have f:=dD x.1.r y.1.r
  have g:=dD y.1.r z.1.r
  have h:=dD x.1.r z.1.r
  have:=(fA z.1.r y.1.r x.1.r (by omega) (by omega)).1
  omega

theorem me {α : Type} [Inhabited α] {enc: α -> List ia} {w:Y} {g n b:Nat} {os:Array Obj} {d:Array α} (hb:b<w.heap.size) (hne:b≠g):(sortWorldK enc 2 w g 0 n d os).heap[b]? = w.heap[b]? := by
 show ((putRowK enc 2 (Sort.ahead w n) g 0 d).heap++os)[b]? = _
 rw[Array.getElem?_append_left (by simp[putRowK];exact hb)]
 show ((Sort.ahead w n).heap.modify g _)[b]? = _
 rw[Array.getElem?_modify,if_neg (by omega)]
 rfl
theorem io {α : Type} [Inhabited α] {enc: α -> List ia} {w:Y} {g n:Nat} {os:Array Obj} {d:Array α}:w.heap.size<=(sortWorldK enc 2 w g 0 n d os).heap.size:=by simp[sortWorldK,grow,putRowK]
theorem eV {α : Type} [Inhabited α] {enc: α -> List ia} {w:Y} {g n:Nat} {os:Array Obj} {d:Array α} {p:Option K} {r:List Int} (h:al w p r) (hne:∀a,p=some a->r≠[]->a.block≠g):al (sortWorldK enc 2 w g 0 n d os) p r:=by
 rcases h with k|⟨b,off,hp,hb,hc⟩
 ·exact oL k
 by_cases f:r=[]
 ·exact oL f
 ·refine oR ⟨b,off,hp,nL hb io,fun j u i hi=> ?_⟩
  rw[World.cell?_of_block (a:=⟨b,off+j*1+i,none⟩) (me hb (hne ⟨b,off,none⟩ hp f))]
  exact hc j u i hi
theorem iI {α : Type} [Inhabited α] {enc: α -> List ia} {w:Y} {g n base:Nat} {os:Array Obj} {d:Array α} (hb:base<=g) (hs:base<=w.heap.size):Go.RowKit.Below base w (sortWorldK enc 2 w g 0 n d os) :=
 ⟨rfl,rfl,rfl,io,fun k f=>me (by omega) (by omega)⟩
theorem mF (l:List Itm):l.attach.map Subtype.val=l:=by simp
theorem qF {w:Y} {g:Nat} {l:List Itm} [Inhabited (InT l)] (h:az aD 2 w (some ⟨g,0,none⟩) l) (hf:∀j,w.frozen? ⟨g,j,none⟩=false):HoldsK (jI l) 2 w g 0 l.attach.toArray:=by
 intro t r
 rw[size_flatK] at r
 rw[get_flatK _ _ _ t r]
 simp only[List.size_toArray,List.length_attach] at r
 have k:t / 2<l.length:=by omega
 refine ⟨?_,hf _⟩
 obtain ⟨b,u,f,F,C⟩:=h.at k
 obtain ⟨rfl,rfl⟩:g=b/\0=u:=by injection f with f;injection f with h1 h2;exact ⟨h1,h2⟩
 have n:t / 2<l.attach.toArray.size:=by simpa using k
 have e:(l.attach.toArray[t / 2]!).1=l[t / 2]:=by rw[getElem!_pos l.attach.toArray (t / 2) n];simp
 have:=C (t / 2) k (t % 2) (Nat.mod_lt _ (by omega))
 rw[show 0+t / 2*2+t % 2=0+t from by omega] at this
 rw[this]
 unfold jI
 rw[e]
 have E:t % 2<2:=Nat.mod_lt _ (by omega)
 match t % 2,E with
 | 0,_=>rfl
 | 1,_=>rfl
theorem CC {w:Y} {g:Nat} {l:List Itm} [Inhabited (InT l)] {d:Array (InT l)} (h:HoldsK (jI l) 2 w g 0 d) (hg:g<w.heap.size):az aD 2 w (some ⟨g,0,none⟩) (d.toList.map Subtype.val):=by
 refine oR ⟨g,0,rfl,hg,fun j n i hi=> ?_⟩
 have k:j<d.size:=by simpa using n
 have f:=(h (j*2+i) (by rw[size_flatK];omega)).1
 rw[get_flatK _ _ _ _ (by omega)] at f
 rw[show (j*2+i) / 2=j from by omega,show (j*2+i) % 2=i from by omega,getElem!_pos d j k] at f
 rw[show 0+j*2+i=0+(j*2+i) from by omega,f]
 simp only[List.getElem_map,Array.getElem_toList]
 unfold jI
 match i,hi with
 | 0,_=>rfl
 | 1,_=>rfl
def CF (fid:Nat) (cb:Array ia):Prop:=∀(x y:Itm) (w:Y),al w x.p x.r->al w y.p y.r->x.r.length<=maxLen->D H fid (#[.agg (aD x).toArray,.agg (aD y).toArray]++cb) w fun e w'=>e= U (Z J (aC x.r y.r))/\∃q os',w'=grow (w.drewN q) os'

theorem Et (h:Nat) (cb:Array ia) (eg:∀F w,(callFunc h F).run H w= .ok (.enter h F) w) (ah:CF h cb) (g cap:Nat) (l:List Itm) (w:Y) (a2:l≠[]) (L:az aD 2 w (some ⟨g,0,none⟩) l) (hf:∀j,w.frozen? ⟨g,j,none⟩=false) (hg:g<w.heap.size) (he:∀x∈l,al w x.p x.r/\x.r.length<=maxLen/\(x.p=none->x.c=0)/\(∀a,x.p=some a->x.r≠[]->a.block≠g)) (a3:l.length<4611686018427387904) :
  D H 157 #[I (some ⟨g,0,none⟩) l.length cap,.func (.func h) #[] cb] w fun e w'=>e= U (ib #[])/\(∃S:List Itm,S.Perm l/\fe (S.map Itm.z)/\Items w' (some ⟨g,0,none⟩) S)/\∀f,f<=g->f<=w.heap.size->Go.RowKit.Below f w w':=by
 obtain ⟨x0,a4⟩:∃x,x∈l:=List.exists_mem_of_ne_nil l a2
 haveI:Inhabited (InT l):=⟨⟨x0,a4⟩⟩
 have ap:CmpLays H h cb (jI l) 2 (Bd l) g 0 l.attach.toArray.size w:=fun m os dk _ x y =>
  ah x.1 y.1 _ (eV (he _ x.2).1 (he _ x.2).2.2.2) (eV (he _ y.2).1 (he _ y.2).2.2.2) (he _ x.2).2.1
 have k:=AnyQ.slices_SortFunc Tryz.sortItm 2 Tryz.isAgg151 Tryz.sizeOf151 (jI l) (fun _=>rfl) (fun x=>fC x.1) (Bd l) (Eu l) h cb g 0 cap l.attach.toArray w eg ap (qF L hf) hg (by simpa using a3)
 change D H 157 _ _ _ at k
 simp only[List.size_toArray,List.length_attach] at k
 refine k.mono ?_
 rintro e w' ⟨a0,d',n,os,hp,hs,hw⟩
 obtain ⟨C,_,u⟩:=hp
 simp only[List.size_toArray,List.length_attach] at C
 have e1:d'.extract 0 l.length=d':=by rw[<-C];exact Array.extract_size
 have e2:(l.attach.toArray.extract 0 l.length).toList=l.attach:=by simp only[List.extract_toArray,List.drop_zero,Nat.sub_zero,List.extract_eq_take_drop];exact List.take_of_length_le (by simp)
 rw[e1,e2] at u
 have an:(d'.toList.map Subtype.val).Perm l:=by have:=u.map Subtype.val;rwa [mF] at this
 refine ⟨a0,⟨d'.toList.map Subtype.val,an,?_,?_,?_⟩,fun f h1 h2=>by rw[hw];exact iI h1 h2⟩
 ·unfold fe
  rw[List.map_map,List.pairwise_map,List.pairwise_iff_getElem]
  intro i j hi hj a1
  have R:i<d'.size:=by simpa using hi
  have ad:j<d'.size:=by simpa using hj
  have:=hs i j (nZ _) a1 (by omega)
  rw[getElem!_pos d' j ad,getElem!_pos d' i R,BH,decide_eq_false_iff_not] at this
  have e3:=dD (d'[j]'ad).1.r (d'[i]'R).1.r
  show aC (d'[i]'R).1.r (d'[j]'ad).1.r<=0
  omega
 ·have ao:HoldsK (jI l) 2 w' g 0 d':=by
   rw[hw]
   refine holdsK_grow _ _ _ _ _ _ _ (by simp[putRowK];exact hg) ?_
   exact holdsK_putRowK _ _ _ _ _ l.attach.toArray _ (holdsK_ahead _ _ _ _ _ _ _ (qF L hf)) (by simp[C])
  exact CC ao (by rw[hw];exact nL hg io)
 ·intro x hx
  have E:=he x (an.mem_iff.1 hx)
  rw[hw]
  exact ⟨eV E.1 E.2.2.2,E.2.1,E.2.2.1⟩

theorem yV:CF 256 #[]:=by
 intro x y w u C k
 have f:=ja3 u C k
 clear u C k
 show D H 256 #[.agg #[I x.p x.r.length x.c,Z J x.n],.agg #[I y.p y.r.length y.c,Z J y.n]] w _
 go_enter Tryz.func256,Tryz.ntmps256
 go_wp2_with fail
 have j:Gr w ((w.alloc (V #[I x.p x.r.length x.c,Z J x.n] 151)).alloc (V #[I y.p y.r.length y.c,Z J y.n] 151)):=((gR _).alloc _).alloc _
 refine (eU x.r y.r x.p y.p x.c y.c _ f.out.2.2 (f.out.1.gr j) (f.out.2.1.gr j)).mono ?_
 rintro e w' ⟨rfl,h⟩
 have g:=ja1 (j.trans h)
 clear j h
 go_wp2
 go_ret
 exact ⟨rfl,g.out⟩

theorem AB (f:Nat) (eg:∀g w,(callFunc f g).run H w= .ok (.enter f g) w) (n:CF f #[]) (base:Nat) (v:ia) (l:List Itm) (w:Y) (u:ae aD 2 151 w base v l) (hb:base<=w.heap.size) (he:∀x∈l,al w x.p x.r/\x.r.length<=maxLen/\(x.p=none->x.c=0)/\(∀a,x.p=some a->x.r≠[]->a.block<base)) (a0:l.length<4611686018427387904) :
  D H 157 #[v,.func (.func f) #[] #[]] w fun e w'=>e= U (ib #[])/\(∃(S:List Itm) (A:Option K) (cap:Nat),v= I A S.length cap/\S.Perm l/\fe (S.map Itm.z)/\Items w' A S/\(A=none->cap=0))/\Go.RowKit.Below base w w':=by
 obtain ⟨A,cap,rfl,hA,j,a2,ap,an⟩:=ae.full bz u
 by_cases F:l=[]
 ·subst F
  have h:=AnyF.slices_SortFunc_none Tryz.sortItm A cap (.func (.func f) #[] #[]) w
  change D H 157 _ _ _ at h
  refine h.mono ?_
  rintro e w' ⟨ah,rfl⟩
  exact ⟨ah,⟨[],A,cap,rfl,List.Perm.refl _,List.Pairwise.nil,⟨oL rfl,fun x hx=>absurd hx (by simp)⟩,hA⟩,bR _ _⟩
 ·have C:0<l.length:=List.length_pos_iff.2 F
  obtain ⟨b,a1,R,ad,_⟩:=j.at C
  subst R
  have L:=ap _ rfl
  obtain rfl:a1=0:=L.2.2.1
  refine (Et f #[] eg n b cap l w F j (an _ rfl) ad (fun x hx=> ?_) a0).mono ?_
  ·have E:=he x hx
   refine ⟨E.1,E.2.1,E.2.2.1,fun a ha hr=> ?_⟩
   have h7:=E.2.2.2 a ha hr
   have h8:base<=b:=L.1
   omega
  ·rintro e w' ⟨he,⟨S,hp,hs,ao⟩,k⟩
   exact ⟨he,⟨S,_,cap,by rw[hp.length_eq],hp,hs,ao,hA⟩,k base L.1 hb⟩


theorem dH (w:Y) {ops:Array Oper} {f:List Oper} {o:Oper} {a:Act} {Q:Exit->Act->Y->Prop} (n:o.guard=none) (s x:Operand)
  (R:o.op= .call { callee:= .builtin .append,args:= #[s,x],argTypes:= #[59,59] })
  (base:Nat) (v:ia) (l m:List Itm) (A:Option K) (cap:Nat) (hs:a.eval s=v) (hx:a.eval x= I A m.length cap) (j:ae aD 2 151 w base v l) (hr:az aD 2 w A m) (E:A=none->cap=0)
  (r:l.length+m.length<=maxLen) (L:(l.length+m.length)*32<=140737488355328) (g:base<=w.heap.size)
  (h:∀k w',ae aD 2 151 w' base k (l++m)->w.grownBy w' v.ownBlock->wpList H ops Q f (a.put o.dst k) w'):wpList H ops Q (o::f) a w :=
 wpList_plain n fun _ F=>cU bz fC (by omega) 59 Tryz.underlying59 (.agg #[I none 0 0,Z J 0]) 32 Tryz.infoT rfl w s x R base v l m A cap hs hx j hr E r L g fun k w' u C=>F _ _ (h k w' u C)
theorem zy (n:Nat) (w:Y) (hn:n<=100000) :
  D H 274 #[I none 0 0,Z J n] w fun e w'=>∃v,e= U v/\ae aD 2 151 w' w.heap.size v []/\X w.heap.size w w':=by
 obtain ⟨F,hi,h,E,j⟩:=info_parts Tryz.infoT
 by_cases u:n=0
 ·subst u
  go_enter Tryz.func274,Tryz.ntmps274
  go_wp2
  go_ret
  exact ⟨_,rfl,ae.nil _ _ _ _ _,bR _ _⟩
 ·have k:(0:Int)<(n:Int):=by omega
  go_enter Tryz.func274,Tryz.ntmps274
  have g:=fun L=>Lib.run_append_nil_zeros (P:=H) w 59 3 L 151 F _ J J Tryz.underlying59 Tryz.underlying3 hi h n (by omega) (by omega) (by omega) (by rw[j];omega)
  have f:O (ae aD 2 151 (w.drew.alloc (V (Builtin.zeroCells (Value.agg #[I none 0 0,Z J 0]).cells n++Builtin.zeroCells (Value.agg #[I none 0 0,Z J 0]).cells (grownCap w n 0 151-n)) 151)) w.heap.size (I (some ⟨w.heap.size,0,none⟩) 0 (grownCap w n 0 151)) []/\X w.heap.size w (w.drew.alloc (V (Builtin.zeroCells (Value.agg #[I none 0 0,Z J 0]).cells n++Builtin.zeroCells (Value.agg #[I none 0 0,Z J 0]).cells (grownCap w n 0 151-n)) 151))):=by
   refine ⟨⟨by simp[aL],.inr ⟨w.heap.size,_,_,rfl,nR _,heap_alloc_new w.drew _,nZ _,grownCap_le_maxLen _ _ _ _ (by unfold maxLen;omega),?_,by simp[aL]⟩⟩,((gR w).drew.alloc _).below⟩
   have R:=grownCap_ge w n 0 151
   have r:(Value.agg #[I none 0 0,Z J 0]).cells.size=2:=rfl
   rw[Array.size_append,size_zeroCells,size_zeroCells,r];omega
  have C:O (n<=grownCap w n 0 151/\grownCap w n 0 151<=9223372036854775807):=⟨grownCap_ge _ _ _ _,grownCap_le_maxLen _ _ _ _ (by unfold maxLen;omega)⟩
  go_wp2_with (at_builtin;refine Lib.wpList_append_run _ rfl _ _ _ _ rfl _ _ rfl rfl _ _ (g _) ?_)
  go_ret
  exact ⟨_,rfl,f.out.1,f.out.2⟩

structure Sl where
 A:Option K
 cap:Nat
 l:List Itm
def fa (x:Sl):List ia:=[I x.A x.l.length x.cap]
theorem rR {f:List Sl} (h:f.length<=2) (g:∀s∈f,s.l.length<=400):(f.flatMap (·.l)).length<=800:=by
 match f,h with
 | [],_=>simp
 | [a],_=>have:=g a (by simp);simp;omega
 | [a,b],_=>have j:=g a (by simp);have k:=g b (by simp);simp;omega
theorem pD {f:List Sl} {k:Nat} (g:k<f.length):(f.take (k+1)).flatMap (·.l)=(f.take k).flatMap (·.l)++f[k].l:=by
 rw[List.take_succ_eq_append_getElem g,List.flatMap_append,List.flatMap_cons,List.flatMap_nil,List.append_nil]
theorem vp {f:List Sl} (k:Nat):((f.take k).flatMap (·.l)).length<=(f.flatMap (·.l)).length:=by
 conv=>rhs;rw[<-List.take_append_drop k f,List.flatMap_append,List.length_append]
 omega

theorem tD (f:List Sl) (B:Option K) (cb:Nat) (w:Y) (ao:az fa 1 w B f) (a6:f.length<=2) (a4:∀s∈f,az aD 2 w s.A s.l/\(s.A=none->s.cap=0)/\s.l.length<=400) :
  D H 255 #[I B f.length cb] w fun e w'=>∃v,e= U v/\ae aD 2 151 w' w.heap.size v (f.flatMap (·.l))/\X w.heap.size w w':=by
 have F:O ((f.flatMap (·.l)).length<=800):=rR a6 fun s hs=>(a4 s hs).2.2
 have a2:=ja2 ao a4
 clear ao a4
 go_enter Tryz.func255,Tryz.ntmps255
 go_wp2
 go_loopw [3,11] (fun n i wr=>∃k:Nat,k<=f.length/\i= Z J k/\n= Z J (((f.take k).flatMap (·.l)).length:Nat)/\wr=w) (fun _ i _=>f.length-(intOf i).toNat)
 case atStart=>exact ⟨0,nZ _,rfl,by simp,rfl⟩
 case round =>
  obtain ⟨k,hk,rfl,rfl,rfl⟩:=hrel
  by_cases j:k<f.length
  ·have ah:(k:Int)<(f.length:Int):=by omega
   obtain ⟨b,an,rfl,hb,L⟩:=a2.out.1.at j
   have e0:=L k j 0 (by omega)
   obtain ⟨s,hs⟩:∃s,f[k]=s:=⟨_,rfl⟩
   rw[hs] at e0
   have e1:wr.cell? ⟨b,an+k,none⟩=some (I s.A s.l.length s.cap):=by simpa[fa] using e0
   have E:O (((f.take (k+1)).flatMap (·.l)).length=((f.take k).flatMap (·.l)).length+s.l.length):=by show _=_;rw[pD j,hs,List.length_append]
   have C:((f.take (k+1)).flatMap (·.l)).length<=800:=nT (vp _) F.out
   rw[E.out] at C
   obtain ⟨m,hm⟩:∃m,((f.take k).flatMap (·.l)).length=m:=⟨_,rfl⟩
   rw[hm] at C ⊢
   have a9:=ja1 hm
   clear L e0 hs hm
   have bb:IntKind.i64.wrap ((m:Int)+(s.l.length:Int))=(m:Int)+(s.l.length:Int):=by rw[IntKind.wrap_i64];omega
   have ba:¬((m:Int)+(s.l.length:Int))<0:=by omega
   go_wp2
   go_roundw
   case rel =>
    refine ⟨k+1,by omega,by go_num,?_,by trivial⟩
    rw[E.out,a9.out];go_num
   case measure=>simp[intOf];omega
  ·have ah:¬(k:Int)<(f.length:Int):=by omega
   have ad:f.take k=f:=List.take_of_length_le (by omega)
   rw[ad]
   have a5:=zy (f.flatMap (·.l)).length wr (by have:=F.out;omega)
   have R:O _:=a5
   clear a5 ad j hk
   obtain ⟨N,hN⟩:∃N,(f.flatMap (·.l)).length=N:=⟨_,rfl⟩
   rw[hN] at R ⊢
   clear hN
   go_wp2_with fail
   refine ja0 R ?_
   rintro e w1 ⟨v0,rfl,a0,a7⟩
   clear R
   go_wp2
   go_loopw [6,27] (fun v i w2=>∃k:Nat,k<=f.length/\i= Z J k/\ae aD 2 151 w2 wr.heap.size v ((f.take k).flatMap (·.l))/\X wr.heap.size wr w2) (fun _ i _=>f.length-(intOf i).toNat)
   case atStart=>exact ⟨0,nZ _,rfl,by simpa using a0,a7⟩
   case round =>
    rename Y=>w2
    obtain ⟨k,hk,rfl,h,g⟩:=hrel
    by_cases j:k<f.length
    ·have ah:(k:Int)<(f.length:Int):=by omega
     obtain ⟨b,an,rfl,hb,L⟩:=a2.out.1.at j
     have e0:=L k j 0 (by omega)
     obtain ⟨s,hs⟩:∃s,f[k]=s:=⟨_,rfl⟩
     rw[hs] at e0
     have e1:w2.cell? ⟨b,an+k,none⟩=some (I s.A s.l.length s.cap):=(g.cell (p:=⟨b,an+k,none⟩) hb).trans (by simpa[fa] using e0)
     have E:O ((f.take (k+1)).flatMap (·.l)=(f.take k).flatMap (·.l)++s.l):=by show _=_;rw[pD j,hs]
     have C:((f.take (k+1)).flatMap (·.l)).length<=800:=nT (vp _) F.out
     rw[E.out,List.length_append] at C
     have a3:=a2.out.2 s (by rw[<-hs];exact gM j)
     obtain ⟨M,hM⟩:∃M,(f.take k).flatMap (·.l)=M:=⟨_,rfl⟩
     rw[hM] at h E C
     have r:O (az aD 2 w2 s.A s.l/\(s.A=none->s.cap=0)/\ae aD 2 151 w2 wr.heap.size u6 M/\M.length+s.l.length<=maxLen/\(M.length+s.l.length)*32<=140737488355328/\wr.heap.size<=w2.heap.size):=⟨a3.1.below g,a3.2.1,h,by unfold maxLen;omega,by omega,g.size⟩
     have ap:=ja1 g
     clear L e0 hs C a3 hM h g
     go_wp2_with (at_builtin;refine dH _ rfl (.tmp 31) (.tmp 32) rfl wr.heap.size u6 M s.l s.A s.cap rfl rfl r.out.2.2.1 r.out.1 r.out.2.1 r.out.2.2.2.1 r.out.2.2.2.2.1 r.out.2.2.2.2.2 ?_;intro v3 w3 a1 a8)
     have u:=ja1 (ap.out.trans (ae.grown_below r.out.2.2.1 a8 r.out.2.2.2.2.2))
     go_roundw
     case rel=>exact ⟨k+1,by omega,by go_num,by rw[E.out];exact a1,u.out⟩
     case measure=>simp[intOf];omega
    ·have ah:¬(k:Int)<(f.length:Int):=by omega
     have ad:f.take k=f:=List.take_of_length_le (by omega)
     rw[ad] at h
     have u:=ja2 h g
     clear h g ad
     go_wp2
     go_ret
     exact ⟨u6,rfl,u.out.1,u.out.2⟩


theorem BA {l:List Itm} {k:Nat} (h:k<l.length):(l.map Itm.z).getD k ([],0)=l[k].z:=by
 rw[List.getD_eq_getElem?_getD,List.getElem?_map,List.getElem?_eq_getElem h];rfl
def okI (l:List Itm) (k:Nat):Bool:=okZ ((l.map Itm.z).getD k ([],0)) && kF (l.map Itm.z) k
theorem sB {l:List Itm} {x:Itm} (h:0<l.length) (f:l[0]=x):okI l 0=okZ x.z:=by
 unfold okI kF
 rw[BA h,f];simp
theorem nO {l:List Itm} {m:Nat} {x y:Itm} (h:m+1<l.length) (f:l[m+1]=x) (g:l[m]=y):okI l (m+1)=(okZ x.z && decide (aC y.r x.r<0)):=by
 unfold okI kF
 rw[BA h,Nat.add_sub_cancel,BA (show m<l.length by omega),f,g]
 simp[Itm.z]
 rfl
theorem py {l:List Itm} {k:Nat} (f:¬ 400<l.length) (g:k<l.length) (h:okI l k=false):aq (l.map Itm.z)=5:=by
 unfold aq
 rw[if_neg (by simpa using f),if_pos ⟨k,by simpa using g,h⟩]
theorem Bt {l:List Itm} (f:¬ 400<l.length) (h:∀k,k<l.length->okI l k=true):aq (l.map Itm.z)=0:=by
 unfold aq
 rw[if_neg (by simpa using f),if_neg]
 rintro ⟨k,j,g⟩
 have:=h k (by simpa using j)
 unfold okI at this
 rw[g] at this;cases this
theorem sH {a b:List Int} {A B:Option K} {ca cb:Nat} {r:Int} (h:aC a b=r) (w:Y) (f:a.length<=maxLen) (g:al w A a) (j:al w B b) :
  D H 159 #[I A a.length ca,I B b.length cb] w fun e w'=>e= U (Z J r)/\∃q k,w'=grow (w.drewN q) k:=by
 rw[<-h];exact eU a b A B ca cb w f g j

theorem fy (l:List Itm) (A:Option K) (cap:Nat) (w:Y) (hl:l.length<=maxLen) (hr:Items w A l) :
  D H 156 #[I A l.length cap] w fun e w'=>e= U (Z J (aq (l.map Itm.z)))/\Gr w w':=by
 have R:Tryz.prog.follows .mixedOrders=true:=by kernel_rfl
 unfold maxLen at hl
 have bN:=ja1 hr
 clear hr
 by_cases h4:400<l.length
 ·have e:aq (l.map Itm.z)=2:=by unfold aq;rw[if_pos (by simpa using h4)]
  rw[e];clear e
  have bC:(400:Int)<(l.length:Int):=by omega
  go_enter Tryz.func156,Tryz.ntmps156
  go_wp2
  go_ret
  exact ⟨rfl,gR _⟩
 ·have bC:¬(400:Int)<(l.length:Int):=by omega
  go_enter Tryz.func156,Tryz.ntmps156
  go_wp2
  go_loopw [10] (fun i wr=>∃k:Nat,k<=l.length/\i= Z J k/\O (∀j,j<k->okI l j=true)/\Gr w wr) (fun i _=>l.length-(intOf i).toNat)
  case atStart=>exact ⟨0,by omega,rfl,fun j h=>by omega,gR _⟩
  case round =>
   rename Y=>f
   obtain ⟨k,hk,rfl,an,ba⟩:=hrel
   by_cases u:k<l.length
   ·have bn:(k:Int)<(l.length:Int):=by omega
    have a0:=ja1 (bN.out.gr ba)
    obtain ⟨b,b0,rfl,hb,a8⟩:=a0.out.at u
    obtain ⟨x,hx⟩:∃x,l[k]=x:=⟨_,rfl⟩
    obtain ⟨e0,e1⟩:=a8 k u
    rw[hx] at e0 e1
    have bl:=ja1 a8
    have a2:=ja1 hx
    have bb:O (al f x.p x.r/\x.r.length<=maxLen):=⟨(a0.out.each x (by rw[<-hx];exact gM u)).1,(a0.out.each x (by rw[<-hx];exact gM u)).2.1⟩
    clear a8 hx
    have a9:Gr f (f.alloc (V #[I x.p x.r.length x.c,Z J x.n] 151)):=(gR _).alloc _
    have x0:(f.alloc (V #[I x.p x.r.length x.c,Z J x.n] 151)).cell? ⟨f.heap.size,0,none⟩=some (I x.p x.r.length x.c):=aa (gR _) rfl
    have x1:(f.alloc (V #[I x.p x.r.length x.c,Z J x.n] 151)).cell? ⟨f.heap.size,1,none⟩=some (Z J x.n):=aa (gR _) rfl
    have a7:=pJ x.r x.p x.c (f.alloc (V #[I x.p x.r.length x.c,Z J x.n] 151)) bb.out.2 (bb.out.1.gr a9)
    have a1:O _:=a7
    clear a7
    go_wp2_with fail
    refine ja0 a1 ?_
    rintro e w2 ⟨rfl,a4⟩
    clear a1 x0 x1
    have C:Gr w w2:=(ba.trans a9).trans a4
    have x0:w2.cell? ⟨f.heap.size,0,none⟩=some (I x.p x.r.length x.c):=aa a4 rfl
    have x1:w2.cell? ⟨f.heap.size,1,none⟩=some (Z J x.n):=aa a4 rfl
    have L:O (okZ x.z=false->aq (l.map Itm.z)=5):=fun h=>by
     refine py h4 u ?_
     cases k with
     | zero=>rw[sB u a2.out,h]
     | succ m=>rw[nO u a2.out rfl,h];rfl
    cases bp:okR x.r
    ·have g:O (aq (l.map Itm.z)=5):=L.out (by simp[okZ,Itm.z,bp])
     go_wp2
     go_ret
     exact ⟨by rw[g.out];rfl,C⟩
    ·have ah:=gY x.n w2
     cases a5:okW x.n
     ·have g:O (aq (l.map Itm.z)=5):=L.out (by simp[okZ,Itm.z,a5])
      rw[a5] at ah
      have E:O _:=ah
      clear ah
      go_wp2_with (go_at_call 183;(refine ja0 E ?_);rintro e w' ⟨rfl,rfl⟩)
      go_ret
      exact ⟨by rw[g.out];rfl,C⟩
     ·rw[a5] at ah
      have E:O _:=ah
      clear ah
      cases bo:(x.n==0)
      ·have a6:O (okZ x.z=true):=by
        have:x.n≠0:=by simpa using bo
        simp[okZ,Itm.z,bp,a5,this,O]
       cases k with
       | zero =>
        have ap:O (okI l 0=true):=by show okI l 0=true;rw[sB u a2.out];exact a6.out
        go_wp2_with (first|(go_at_call 183;(refine ja0 E ?_);rintro e w' ⟨rfl,rfl⟩)|fail)
        refine wp_region_quiet_grown R (by kernel_rfl) ?_
        repeat (go_big_quiet_step (fail))
        refine wpQuiet_nil ?_
        rintro _ ⟨⟨a3,F⟩,rfl⟩
        go_wp2
        go_roundw
        case rel =>
         refine ⟨_,u,by go_num,?_,C.trans ⟨a3,F,rfl⟩⟩
         intro j hj
         by_cases e:j=0
         ·rw[e];exact ap.out
         ·exact an j (by omega)
        case measure=>simp[intOf];omega
       | succ m =>
        obtain ⟨y,hy⟩:∃y,l[m]=y:=⟨_,rfl⟩
        obtain ⟨f0,f1⟩:=bl.out m (by omega)
        rw[hy] at f0 f1
        have bt:=ja1 hy
        have bc:O (al f y.p y.r/\y.r.length<=maxLen):=⟨(a0.out.each y (by rw[<-hy];exact gM (by omega))).1,(a0.out.each y (by rw[<-hy];exact gM (by omega))).2.1⟩
        clear hy
        have ao:Gr f w2:=a9.trans a4
        have q0:=ao.cellG (a:=⟨b,b0+m*2,none⟩) hb f0
        have b1:f.heap.size<w2.heap.size:=World.block_lt_of_cell? w2 ⟨f.heap.size,0,none⟩ x0
        have p0:=(gR w2).cellG (a:=⟨f.heap.size,0,none⟩) b1 x0
        have be:O (∀n os,al (grow (w2.drewN n) os) y.p y.r):=fun n os=>bc.out.1.gr (ao.trans ⟨n,os,rfl⟩)
        have bd:O (∀n os,al (grow (w2.drewN n) os) x.p x.r):=fun n os=>bb.out.1.gr (ao.trans ⟨n,os,rfl⟩)
        clear f0 f1
        obtain ⟨r,bs⟩:∃r,aC y.r x.r=r:=⟨_,rfl⟩
        have ad:=ja1 bs
        clear bs
        by_cases bh:r<0
        ·have bG:¬(0:Int)<=r:=by omega
         have ap:O (okI l (m+1)=true):=by
          show okI l (m+1)=true
          rw[nO u a2.out bt.out,a6.out,ad.out];simp[bh]
         go_wp2_with (first|(go_at_call 183;(refine ja0 E ?_);rintro e w' ⟨rfl,rfl⟩)|fail)
         refine wp_region_quiet_grown R (by kernel_rfl) ?_
         repeat (go_big_quiet_step ((go_at_call 159;refine Calls.grown_of (sH ad.out _ bc.out.2 (be.out _ _) (bd.out _ _)))))
         refine wpQuiet_nil ?_
         rintro _ ⟨⟨a3,F⟩,rfl⟩
         go_wp2
         go_roundw
         case rel =>
          refine ⟨_,u,by go_num,?_,C.trans ⟨a3,F,rfl⟩⟩
          intro j hj
          by_cases e:j=m+1
          ·rw[e];exact ap.out
          ·exact an j (by omega)
         case measure=>simp[intOf];omega
        ·have bG:(0:Int)<=r:=by omega
         have g:O (aq (l.map Itm.z)=5):=py h4 u (by rw[nO u a2.out bt.out,ad.out];simp[bh])
         go_wp2_with (first|(go_at_call 183;(refine ja0 E ?_);rintro e w' ⟨rfl,rfl⟩)|fail)
         refine wp_region_quiet_grown R (by kernel_rfl) ?_
         repeat (go_big_quiet_step ((go_at_call 159;refine Calls.grown_of (sH ad.out _ bc.out.2 (be.out _ _) (bd.out _ _)))))
         refine wpQuiet_nil ?_
         rintro _ ⟨⟨a3,F⟩,rfl⟩
         go_wp2
         go_ret
         exact ⟨by rw[g.out];rfl,C.trans ⟨a3,F,rfl⟩⟩
      ·have g:O (aq (l.map Itm.z)=5):=L.out (by have:x.n=0:=(by simpa using bo);simp[okZ,Itm.z,this])
       go_wp2_with (go_at_call 183;(refine ja0 E ?_);rintro e w' ⟨rfl,rfl⟩)
       go_ret
       exact ⟨by rw[g.out];rfl,C⟩
   ·have bn:¬(k:Int)<(l.length:Int):=by omega
    have g:O (aq (l.map Itm.z)=0):=Bt h4 fun j hj=>an j (by omega)
    go_wp2
    go_ret
    exact ⟨by rw[g.out];rfl,ba⟩


theorem lS (l:List Int) (A:Option K) (cap:Nat) (w:Y) (hl:l.length*8<=140737488355328) (hA:A=none->cap=0) (hr:al w A l) :
  D H 232 #[I A l.length cap] w fun e w'=>∃C c,e= U (I C l.length c)/\al w' C l/\(C=none->c=0)/\(∀a,C=some a->w.heap.size<=a.block/\a.block<w'.heap.size)/\X w.heap.size w w'/\(fl w' C c/\l.length<=c):=by
 have u:O (0+l.length<=maxLen/\(0+l.length)*8<=140737488355328):=by show _/\_;unfold maxLen;omega
 have F:=ja2 hr hA
 clear hr hA
 go_enter Tryz.func232,Tryz.ntmps232
 go_wp2_with (at_builtin;refine aJ _ rfl _ _ rfl w.heap.size (I none 0 0) [] l A cap rfl rfl (ae.nil _ _ _ _ _) F.out.1 F.out.2 u.out.1 u.out.2 (nR _) ?_)
 intro v1 L f j
 have R:=ja1 (cW j)
 obtain ⟨C,c,rfl,hC,k,r,h,_⟩:=ae.full bS f
 have E:∀a,C=some a->w.heap.size<=a.block/\a.block<L.heap.size:=fun a ha=>⟨(h a ha).1,(h a ha).2.1⟩
 have n:O (fl L C c/\l.length<=c):=⟨f.roomI,by simpa using r⟩
 have g:O (al L C l/\(C=none->c=0)/\(∀a,C=some a->w.heap.size<=a.block/\a.block<L.heap.size)):=⟨by simpa using k,hC,E⟩
 clear f j hC k E h r
 go_wp2
 go_ret
 exact ⟨C,c,by simp,g.out.1,g.out.2.1,g.out.2.2,R.out,n.out⟩


theorem mZ {l:List Zit} (h:aq l=0):l.length<=400/\∀k,k<l.length->okZ (l.getD k ([],0))=true/\kF l k=true:=by
 unfold aq at h
 by_cases f:400<l.length
 ·rw[if_pos f] at h;cases h
 ·rw[if_neg f] at h
  refine ⟨by omega,fun k j=> ?_⟩
  by_cases g:∃k,k<l.length/\(okZ (l.getD k ([],0)) && kF l k)=false
  ·rw[if_pos g] at h;cases h
  ·have:(okZ (l.getD k ([],0)) && kF l k)=true:=by
    cases e:(okZ (l.getD k ([],0)) && kF l k)
    ·exact absurd ⟨k,j,e⟩ g
    ·rfl
   simpa using this
theorem wT {l:List Itm} (h:aq (l.map Itm.z)=0) {k:Nat} (f:k<l.length):l[k].r.length<=8/\okW l[k].n=true/\l[k].n≠0:=by
 have:=((mZ h).2 k (by simpa using f)).1
 rw[BA f] at this
 unfold okZ okR Itm.z at this
 simp at this
 exact ⟨this.1.1.1,this.1.2,this.2⟩
def iG (l:List Zit):List Zit:=if aq l=0 then l.map (fun x=>(x.1,-x.2)) else []

theorem dj {W:Y} {n:Nat} (h:W.heap.size=n) (x:Itm) (T:TypeId):az aD 2 (W.alloc (V #[I x.p x.r.length x.c,Z J x.n] T)) (some ⟨n,0,none⟩) [x]:=by
 subst h
 refine oR ⟨W.heap.size,0,rfl,by simp,fun j g i hi=> ?_⟩
 obtain rfl:j=0:=by simp at g;omega
 have f:i=0\/i=1:=by omega
 rcases f with rfl|rfl
 ·exact aa (w:=W) (gR _) (j:=0) rfl
 ·exact aa (w:=W) (gR _) (j:=1) rfl

theorem fm.snoc {w w':Y} {L:List Itm} {x:Itm} (h:fm w L) (q:X w.heap.size w w') (g:fl w' x.p x.c/\x.r.length<=x.c):fm w' (L++[x]):=fun z f=>by
 rcases List.mem_append.1 f with f|f
 ·exact (h.below q) z f
 ·rw[List.mem_singleton.1 f];exact g
theorem BK (l:List Itm) (A:Option K) (cap:Nat) (w:Y) (hl:l.length<=maxLen) (hr:Items w A l) :
  D H 195 #[I A l.length cap] w fun e w'=>∃(L:List Itm) (C:Option K) (c:Nat),e= U (ib #[I C L.length c,Z J (aq (l.map Itm.z))])/\L.map Itm.z=iG (l.map Itm.z)/\Items w' C L/\cV C L.length c/\X w.heap.size w w'/\NwT w' c w.heap.size C L:=by
 have b2:=fy l A cap w hl hr
 unfold maxLen at hl
 have cv:=ja1 hr
 have be:O _:=b2
 clear b2 hr
 go_enter Tryz.func195,Tryz.ntmps195
 go_wp2_with fail
 refine ja0 be ?_
 rintro e w1 ⟨rfl,ap⟩
 clear be
 obtain ⟨E,hE⟩:∃E,aq (l.map Itm.z)=E:=⟨_,rfl⟩
 have bn:=ja1 hE
 rw[hE]
 clear hE
 cases hq:(E != 0)
 ·have bC:E=0:=by simpa using hq
  have ba:O (aq (l.map Itm.z)=0):=by show _=_;rw[bn.out,bC]
  subst bC
  go_wp2
  go_loopw [5,15] (fun v i wr=>∃(k:Nat) (L:List Itm),k<=l.length/\i= Z J k/\O (L.length=k)/\O (L.map Itm.z=(l.take k).map (fun x=>(x.r,-x.n)))/\OwnT wr w1.heap.size v L/\X w1.heap.size w1 wr/\O (fm wr L)) (fun _ i _=>l.length-(intOf i).toNat)
  case atStart=>exact ⟨0,[],by omega,rfl,rfl,by simp[O],OwnT.nil _ _,bR _ _,fun x hx=>by cases hx⟩
  case round =>
   obtain ⟨k,L,hk,rfl,bo,bG,a2,R,cl⟩:=hrel
   have an:=ja2 a2 R
   by_cases ad:k<l.length
   ·have b8:(k:Int)<(l.length:Int):=by omega
    have hI:=ja1 ((cv.out.gr ap).below R)
    obtain ⟨bb,c1,rfl,hb,b3⟩:=hI.out.at ad
    obtain ⟨x,hx⟩:∃x,l[k]=x:=⟨_,rfl⟩
    obtain ⟨e0,e1⟩:=b3 k ad
    rw[hx] at e0 e1
    have bt:=hI.out.each x (by rw[<-hx];exact gM ad)
    have a9:=wT ba.out ad
    rw[hx] at a9
    have bc:=ja4 bt.1 bt.2.2 a9.1 a9.2.1
    have cB:O ((l.take (k+1)).map (fun x=>(x.r,-x.n))=(l.take k).map (fun x=>(x.r,-x.n))++[(x.r,-x.n)]):=by show _=_;rw[List.take_succ_eq_append_getElem ad,hx];simp
    have c0:IntKind.i64.wrap (-x.n)= -x.n:=by
     have h:=a9.2.1
     simp only[okW,inB,Bool.and_eq_true,decide_eq_true_eq] at h
     rw[IntKind.wrap_i64];omega
    have b7:O (l.length<=400):=by show _<=_;have:=(mZ ba.out).1;simpa using this
    clear b3 hx bt a9 a2 R
    have a0:O (Gr wr (wr.alloc (V #[I x.p x.r.length x.c,Z J x.n] 151))):=(gR _).alloc _
    have x0:(wr.alloc (V #[I x.p x.r.length x.c,Z J x.n] 151)).cell? ⟨wr.heap.size,0,none⟩=some (I x.p x.r.length x.c):=aa (gR _) rfl
    have x1:(wr.alloc (V #[I x.p x.r.length x.c,Z J x.n] 151)).cell? ⟨wr.heap.size,1,none⟩=some (Z J x.n):=aa (gR _) rfl
    have bh:=lS x.r x.p x.c (wr.alloc (V #[I x.p x.r.length x.c,Z J x.n] 151)).drew (by have:=bc.out.2.2.1;omega) bc.out.2.1 ((bc.out.1.gr a0.out).gr (gR _).drew)
    have cu:O _:=bh
    clear bh
    go_upto_region 8 with fail
    have f:O (∀w':Y,X (wr.alloc (V #[I x.p x.r.length x.c,Z J x.n] 151)).heap.size (wr.alloc (V #[I x.p x.r.length x.c,Z J x.n] 151)) w'->(fun w'=>w'.cell? ⟨wr.heap.size,0,none⟩=some (I x.p x.r.length x.c)/\w'.cell? ⟨wr.heap.size,1,none⟩=some (Z J x.n)) w'):=fun w' hb=>⟨(hb.cell (p:=⟨wr.heap.size,0,none⟩) (by simp)).trans x0,(hb.cell (p:=⟨wr.heap.size,1,none⟩) (by simp)).trans x1⟩
    have ao:X (wr.alloc (V #[I x.p x.r.length x.c,Z J x.n] 151)).heap.size (wr.alloc (V #[I x.p x.r.length x.c,Z J x.n] 151)) (wr.alloc (V #[I x.p x.r.length x.c,Z J x.n] 151)).drew:=(bR _ _).drew
    have a8:O (w1.heap.size<=wr.heap.size/\(wr.alloc (V #[I x.p x.r.length x.c,Z J x.n] 151)).heap.size=wr.heap.size+1):=⟨an.out.2.size,by simp⟩
    have cA:(wr.alloc (V #[I x.p x.r.length x.c,Z J x.n] 151)).drew.heap.size=wr.heap.size+1:=by simp[World.drew]
    have cj:O (∀j,u5.ownBlock=some j->j<wr.heap.size):=fun j hj=>(World.ownsRow.lt an.out.1.own j hj).2
    have cc:O (∀(g:Y) (C:Option K) (c:Nat),X (wr.alloc (V #[I x.p x.r.length x.c,Z J x.n] 151)).heap.size (wr.alloc (V #[I x.p x.r.length x.c,Z J x.n] 151)) g->(al g C x.r/\(C=none->c=0)/\(∀a,C=some a->wr.heap.size+1<=a.block/\a.block<g.heap.size))->OwnT (g.alloc (V #[I C x.r.length c,Z J (-x.n)] 151)) w1.heap.size u5 L/\Apart (g.alloc (V #[I C x.r.length c,Z J (-x.n)] 151)) w1.heap.size u5.ownBlock ⟨C,c,x.r,-x.n⟩/\(L.length+1<=maxLen/\(L.length+1)*32<=140737488355328)/\w1.heap.size<=(g.alloc (V #[I C x.r.length c,Z J (-x.n)] 151)).heap.size):=by
     intro g C c u hC
     have b0:X wr.heap.size wr (g.alloc (V #[I C x.r.length c,Z J (-x.n)] 151)):=a0.out.below.trans ((u.alloc u.size _).mono a0.out.size)
     refine ⟨an.out.1.below b0,⟨hC.1.gr ((gR _).alloc _),nT bc.out.2.2.1 (by decide),hC.2.1,fun a ha=>⟨?_,?_,?_⟩⟩,⟨?_,?_⟩,nT a8.out.1 b0.size⟩
     ·have h1:=(hC.2.2 a ha).1
      have h2:=a8.out.1
      omega
     ·have h1:=(hC.2.2 a ha).2
      simp;omega
     ·intro e
      have h1:=cj.out a.block e
      have h2:=(hC.2.2 a ha).1
      omega
     ·have h1:=bo.out
      have h2:=b7.out
      unfold maxLen;omega
     ·have h1:=bo.out
      have h2:=b7.out
      omega
    have b9:O (∀(g:Y) (C:Option K) (c:Nat) (w3:Y),X (wr.alloc (V #[I x.p x.r.length x.c,Z J x.n] 151)).heap.size (wr.alloc (V #[I x.p x.r.length x.c,Z J x.n] 151)) (g.alloc (V #[I C x.r.length c,Z J (-x.n)] 151))->(g.alloc (V #[I C x.r.length c,Z J (-x.n)] 151)).grownBy w3 u5.ownBlock->w3.cell? ⟨wr.heap.size,0,none⟩=some (I x.p x.r.length x.c)/\w3.cell? ⟨wr.heap.size,1,none⟩=some (Z J x.n)):=by
     intro g C c w3 F b4
     have ad:wr.heap.size<(g.alloc (V #[I C x.r.length c,Z J (-x.n)] 151)).heap.size:=nL (by simp) F.size
     have ce:some wr.heap.size≠u5.ownBlock:=fun e=>by have:=cj.out _ e.symm;omega
     have hk:=f.out _ F
     exact ⟨(World.cell?_of_block (a:=⟨wr.heap.size,0,none⟩) (b4.block _ ad ce)).trans hk.1,(World.cell?_of_block (a:=⟨wr.heap.size,1,none⟩) (b4.block _ ad ce)).trans hk.2⟩
    refine wp_region_noPanic ?_
    refine wp_region_held_drew (S:=fun w'=>w'.cell? ⟨wr.heap.size,0,none⟩=some (I x.p x.r.length x.c)/\w'.cell? ⟨wr.heap.size,1,none⟩=some (Z J x.n)) (by kernel_rfl) (f.out _ ao) (fun hHeld=> ?_)
    refine tks [0,1,2,4,5,6] (by assumption) ?_
    iterate 6 (refine tk (v:= ?_) (by rfl) (by kernel_rfl) ?_ ?_;rotate_left;· (refine oL ⟨by rfl,?_⟩;intro w a3;(try dsimp only at a3);go_simp<;>with_reducible rfl);try simp only[Act.put,yA,aB,yS])
    refine tk0 ?_
    refine wpAnyH_ready (rs:=[3]) (by kernel_rfl) (by simp) ?_
    refine AllReadyH.cons (o:= ?oi7) ?hop7 (fun c2 hK=> ?step7) ?more7
    case hop7=>(simp only[zA,z0',zS];rfl)
    case more7=>exact AllReadyH.nil
    go_simp
    (go_at_call 232;(refine ja0 cu ?_);rintro e g ⟨C,c,rfl,cp,cf,bs,b1,ck⟩;have u:O (X (wr.alloc (V #[I x.p x.r.length x.c,Z J x.n] 151)).heap.size (wr.alloc (V #[I x.p x.r.length x.c,Z J x.n] 151)) g):=ao.trans (b1.mono ao.size);have F:O (X (wr.alloc (V #[I x.p x.r.length x.c,Z J x.n] 151)).heap.size (wr.alloc (V #[I x.p x.r.length x.c,Z J x.n] 151)) (g.alloc (V #[I C x.r.length c,Z J (-x.n)] 151))):=u.out.alloc u.out.size _;have cn:O (fm g (L++[⟨C,c,x.r,-x.n⟩])):=(cl.out.below a0.out.below).snoc u.out ck;clear ck;have hC:O (al g C x.r/\(C=none->c=0)/\(∀a,C=some a->wr.heap.size+1<=a.block/\a.block<g.heap.size)):=⟨cp,cf,fun a ha=>⟨nT (Nat.le_of_eq cA.symm) (bs a ha).1,(bs a ha).2⟩⟩;have a1:O (OwnT (g.alloc (V #[I C x.r.length c,Z J (-x.n)] 151)) w1.heap.size u5 L/\Apart (g.alloc (V #[I C x.r.length c,Z J (-x.n)] 151)) w1.heap.size u5.ownBlock ⟨C,c,x.r,-x.n⟩/\(L.length+1<=maxLen/\(L.length+1)*32<=140737488355328)/\w1.heap.size<=(g.alloc (V #[I C x.r.length c,Z J (-x.n)] 151)).heap.size):=cc.out g C c u.out hC.out;clear cp cf bs b1)
    first|(go_wp2_with fail)|skip
    refine hK.out _ _ ?_ (fun hHeld=> ?_)
    ·(try dsimp only);(first|with_reducible exact f.out _ ao|with_reducible exact f.out _ u.out|with_reducible exact f.out _ F.out|with_reducible exact bp.out)
    clear hK c2
    try simp only[Act.put,yA,aB,yS]
    refine tks [7] (by assumption) ?_
    iterate 1 (refine tk (v:= ?_) (by rfl) (by kernel_rfl) ?_ ?_;rotate_left;· (refine oL ⟨by rfl,?_⟩;intro w a3;(try dsimp only at a3);go_simp<;>with_reducible rfl);try simp only[Act.put,yA,aB,yS])
    refine tk0 ?_
    refine wpAnyH_ready (rs:=[8]) (by kernel_rfl) (by simp) ?_
    refine AllReadyH.cons (o:= ?oi9) ?hop9 (fun c2 hK=> ?step9) ?more9
    case hop9=>(simp only[zA,z0',zS];rfl)
    case more9=>exact AllReadyH.nil
    go_simp
    refine hK.out _ _ ?_ (fun hHeld=> ?_)
    ·(try dsimp only);(first|with_reducible exact f.out _ ao|with_reducible exact f.out _ u.out|with_reducible exact f.out _ F.out|with_reducible exact bp.out)
    clear hK c2
    try simp only[Act.put,yA,aB,yS]
    refine wpAnyH_ready (rs:=[9]) (by kernel_rfl) (by simp) ?_
    refine AllReadyH.cons (o:= ?oi10) ?hop10 (fun c2 hK=> ?step10) ?more10
    case hop10=>(simp only[zA,z0',zS];rfl)
    case more10=>exact AllReadyH.nil
    (refine jN _ rfl (.tmp 19) (.tmp 27) rfl w1.heap.size u5 L ⟨C,c,x.r,-x.n⟩ ⟨g.heap.size,0,none⟩ 1 rfl rfl a1.out.1 (dj rfl ⟨C,c,x.r,-x.n⟩ 151) a1.out.2.1 a1.out.2.2.1.1 a1.out.2.2.1.2 a1.out.2.2.2 ?_;intro v2 w3 a6 bN a5;have bp:O (w3.cell? ⟨wr.heap.size,0,none⟩=some (I x.p x.r.length x.c)/\w3.cell? ⟨wr.heap.size,1,none⟩=some (Z J x.n)):=b9.out g C c w3 F.out a5;have a7:O (OwnT w3 w1.heap.size v2 (L++[⟨C,c,x.r,-x.n⟩])/\X w1.heap.size w1 w3):=⟨a6,an.out.2.trans ((a0.out.below.trans (F.out.mono a0.out.size)).mono a8.out.1 |>.trans bN)⟩;have cm:O (fm w3 (L++[⟨C,c,x.r,-x.n⟩])):=(cn.out.below ((gR g).alloc _).below).grown a5 (a1.out.1.own.typed (by decide));clear a6 bN a5)
    refine hK.out _ _ ?_ (fun hHeld=> ?_)
    ·(try dsimp only);(first|with_reducible exact f.out _ ao|with_reducible exact f.out _ u.out|with_reducible exact f.out _ F.out|with_reducible exact bp.out)
    clear hK c2
    try simp only[Act.put,yA,aB,yS]
    refine tks [10] (by assumption) ?_
    iterate 1 (refine tk (v:= ?_) (by rfl) (by kernel_rfl) ?_ ?_;rotate_left;· (refine oL ⟨by rfl,?_⟩;intro w a3;(try dsimp only at a3);go_simp<;>with_reducible rfl);try simp only[Act.put,yA,aB,yS])
    refine tk0 ?_
    refine wpAnyH_done (by kernel_rfl) ?_ _
    refine NoPanic.normal ?_
    go_wp2
    go_roundw
    case rel =>
     refine ⟨k+1,L++[⟨C,c,x.r,-x.n⟩],by omega,by go_num,?_,?_,a7.out.1,a7.out.2,cm⟩
     ·show _=_;simp[bo.out]
     ·show _=_;rw[cB.out,List.map_append,bG.out];rfl
    case measure=>simp[intOf];omega
   ·have b8:¬(k:Int)<(l.length:Int):=by omega
    have b6:l.take k=l:=List.take_of_length_le (by omega)
    have a4:O (L.map Itm.z=iG (l.map Itm.z)):=by
     show _=_
     unfold iG
     rw[bG.out,b6,if_pos ba.out,List.map_map]
     rfl
    obtain ⟨A2,bd,cr,cd,b5,bl⟩:=a2.items
    have cs:O (NwT wr bd w.heap.size A2 L):=⟨⟨fun a ha=>nT ap.size (bl a ha).1,fun x hx a ha=>nT ap.size ((a2.each x hx).own a ha).1⟩,by have:=a2.own;rw[cr] at this;exact this.roomA,cl.out⟩
    have ah:=ja3 b5 cd (ap.below.trans (R.mono ap.size))
    subst cr
    clear b6 b5 cd a2 R bl
    go_wp2
    go_ret2
    exact ⟨L,A2,bd,by rw[ba.out];rfl,a4.out,ah.out.1,ah.out.2.1,ah.out.2.2,cs.out⟩
 ·have a4:O (iG (l.map Itm.z)=[]):=by
   have:E≠0:=by simpa using hq
   show _=_
   unfold iG;rw[bn.out,if_neg this]
  go_wp2
  go_ret2
  exact ⟨[],none,0,by rw[bn.out];rfl,by rw[a4.out];rfl,⟨oL rfl,fun x hx=>by cases hx⟩,fun _=>rfl,ap.below,NwT.none _ _⟩

theorem BJ (l:List Itm) (A:Option K) (cap:Nat) (w:Y) (n:l.length<=maxLen) (r:Items w A l) :
  D H 195 #[I A l.length cap] w fun e w'=>∃(L:List Itm) (C:Option K) (c:Nat),e= U (ib #[I C L.length c,Z J (aq (l.map Itm.z))])/\L.map Itm.z=iG (l.map Itm.z)/\Items w' C L/\cV C L.length c/\X w.heap.size w w' :=
 (BK l A cap w n r).mono fun _ _ ⟨L,C,c,f,g,h,j,k,_⟩=>⟨L,C,c,f,g,h,j,k⟩

end Go.Proofs.YtjmmpnmgpgaagaaGreatDoor

namespace Go.Proofs.YtjmmpnmgpgaagaaGreatDoor

def gX (x:Zit):List Zit->List Zit
 | []=>if x.2=0 then [] else [x]
 | y::t=>if aC x.1 y.1<0 then (if x.2=0 then y::t else x::y::t) else if aC x.1 y.1=0 then (if x.2+y.2=0 then t else (y.1,x.2+y.2)::t) else y::gX x t
def dh:List Zit->List Zit
 | []=>[]
 | x::t=>gX x (dh t)
theorem sg {x:Zit}:∀ {S:List Zit} {z:Zit},z∈gX x S->z.1=x.1\/∃y∈S,z.1=y.1
 | [],z,h=>by
  unfold gX at h
  by_cases e:x.2=0
  ·rw[if_pos e] at h;cases h
  ·rw[if_neg e] at h;exact oL (by rw[List.mem_singleton.1 h])
 | y::t,z,h=>by
  unfold gX at h
  by_cases f:aC x.1 y.1<0
  ·rw[if_pos f] at h
   by_cases e:x.2=0
   ·rw[if_pos e] at h;exact oR ⟨z,h,rfl⟩
   ·rw[if_neg e] at h
    rcases List.mem_cons.1 h with k|k
    ·exact oL (by rw[k])
    ·exact oR ⟨z,k,rfl⟩
  ·rw[if_neg f] at h
   by_cases g:aC x.1 y.1=0
   ·rw[if_pos g] at h
    by_cases e:x.2+y.2=0
    ·rw[if_pos e] at h;exact oR ⟨z,mC _ h,rfl⟩
    ·rw[if_neg e] at h
     rcases List.mem_cons.1 h with k|k
     ·exact oR ⟨y,mS ..,by rw[k]⟩
     ·exact oR ⟨z,mC _ k,rfl⟩
   ·rw[if_neg g] at h
    rcases List.mem_cons.1 h with k|k
    ·exact oR ⟨y,mS ..,by rw[k]⟩
    ·rcases sg k with k|⟨u,hu,k⟩
     ·exact oL k
     ·exact oR ⟨u,mC _ hu,k⟩
theorem pI {x:Zit}:∀ {S:List Zit},f8 S->f8 (gX x S)
 | [],_=>by
  unfold gX
  by_cases e:x.2=0
  ·rw[if_pos e];exact List.Pairwise.nil
  ·rw[if_neg e];exact List.pairwise_singleton _ _
 | y::t,h=>by
  have f:=List.pairwise_cons.1 h
  unfold gX
  by_cases j:aC x.1 y.1<0
  ·rw[if_pos j]
   by_cases e:x.2=0
   ·rw[if_pos e];exact h
   ·rw[if_neg e]
    refine List.pairwise_cons.2 ⟨fun z g=> ?_,h⟩
    rcases List.mem_cons.1 g with k|k
    ·rw[k];exact j
    ·exact cL j (f.1 z k)
  ·rw[if_neg j]
   by_cases n:aC x.1 y.1=0
   ·rw[if_pos n]
    by_cases e:x.2+y.2=0
    ·rw[if_pos e];exact f.2
    ·rw[if_neg e];exact List.pairwise_cons.2 ⟨fun z g=>f.1 z g,f.2⟩
   ·rw[if_neg n]
    refine List.pairwise_cons.2 ⟨fun z g=> ?_,pI f.2⟩
    rcases sg g with k|⟨u,hu,k⟩
    ·rw[k];have:=dD x.1 y.1;omega
    ·rw[k];exact f.1 u hu
theorem si {x:Zit}:∀ {S:List Zit},NoZ S->NoZ (gX x S)
 | [],_=>by
  unfold gX
  by_cases e:x.2=0
  ·rw[if_pos e];exact fun z f=>absurd f (by simp)
  ·rw[if_neg e];intro z f;rw[List.mem_singleton.1 f];exact e
 | y::t,h=>by
  have g:NoZ t:=fun z f=>h z (mC _ f)
  unfold gX
  by_cases j:aC x.1 y.1<0
  ·rw[if_pos j]
   by_cases e:x.2=0
   ·rw[if_pos e];exact h
   ·rw[if_neg e]
    intro z f
    rcases List.mem_cons.1 f with k|k
    ·rw[k];exact e
    ·exact h z k
  ·rw[if_neg j]
   by_cases n:aC x.1 y.1=0
   ·rw[if_pos n]
    by_cases e:x.2+y.2=0
    ·rw[if_pos e];exact g
    ·rw[if_neg e]
     intro z f
     rcases List.mem_cons.1 f with k|k
     ·rw[k];exact e
     ·exact g z k
   ·rw[if_neg n]
    intro z f
    rcases List.mem_cons.1 f with k|k
    ·rw[k];exact h y (mS ..)
    ·exact si g z k
theorem vu {x:Zit} (r:List Int):∀ {S:List Zit},wt (gX x S) r=(if x.1=r then x.2 else 0)+wt S r
 | []=>by
  unfold gX
  by_cases e:x.2=0
  ·rw[if_pos e,e];simp[wt]
  ·rw[if_neg e];simp only[wt]
 | y::t=>by
  unfold gX
  by_cases h:aC x.1 y.1<0
  ·rw[if_pos h]
   by_cases e:x.2=0
   ·rw[if_pos e,e];simp
   ·rw[if_neg e];simp only[wt]
  ·rw[if_neg h]
   by_cases f:aC x.1 y.1=0
   ·rw[if_pos f]
    have g:=ji _ _ f
    by_cases e:x.2+y.2=0
    ·rw[if_pos e]
     simp only[wt]
     rw[g]
     by_cases k:y.1=r
     ·rw[if_pos k,if_pos k];omega
     ·rw[if_neg k,if_neg k];omega
    ·rw[if_neg e]
     simp only[wt]
     rw[g]
     by_cases k:y.1=r
     ·rw[if_pos k,if_pos k,if_pos k];omega
     ·rw[if_neg k,if_neg k,if_neg k];omega
   ·rw[if_neg f]
    simp only[wt]
    rw[vu r];omega
theorem bB:∀l:List Zit,IsTot l (dh l)
 | []=>⟨List.Pairwise.nil,fun z f=>absurd f (by simp[dh]),fun r=>rfl⟩
 | x::t=>by
  have h:=bB t
  exact ⟨pI h.rise,si h.noz,fun r=>by show wt (gX x (dh t)) r=wt (x::t) r;rw[vu,h.same];rfl⟩
theorem IsTot.eq {l S:List Zit} (h:IsTot l S):S=dh l:=h.uniq (bB l) fun _=>rfl
def dq (l:List Zit):Int:=if (dh l).all (fun x=>okW x.2) then 0 else 5
def ol (l:List Zit):List Zit:=if dq l=0 then dh l else []
theorem AR {l:List Zit} (h:dq l=5):ol l=[]:=by unfold ol;rw[h];rfl
theorem vQ {l:List Zit} (h:dq l=0):ol l=dh l:=by unfold ol;rw[if_pos h]
theorem oj (l:List Zit):dq l=5↔qt l:=by
 unfold dq
 constructor
 ·intro h
  by_cases e:(dh l).all (fun x=>okW x.2)=true
  ·rw[if_pos e] at h;cases h
  ·simp only[List.all_eq_true,Classical.not_forall] at e
   obtain ⟨x,g,k⟩:=e
   exact ⟨x.1,by rw[<-(bB l).same,(bB l).rise.wt g];simpa using k⟩
 ·rintro ⟨r,f⟩
  rw[if_neg]
  intro h
  have j:wt l r≠0:=fun e=>by rw[e] at f;exact absurd f (by decide)
  rw[<-(bB l).same] at j f
  obtain ⟨x,g,rfl⟩:=rh j
  rw[(bB l).rise.wt g] at f
  have:=List.all_eq_true.1 h x g
  rw[f] at this;cases this
theorem Cp {l:List Zit} (h:¬qt l):dq l=0:=by
 by_cases e:dq l=5
 ·exact absurd ((oj l).1 e) h
 ·unfold dq at e ⊢
  by_cases k:(dh l).all (fun x=>okW x.2)=true
  ·rw[if_pos k]
  ·rw[if_neg k] at e;exact absurd rfl e
theorem ql {l:List Zit} (h:dq l=0):¬qt l:=fun k=>by rw[(oj l).2 k] at h;cases h
def bY (l:List Zit):Int:=if 400<l.length then 2 else if l.all (fun x=>okR x.1 && okW x.2) then dq l else 5
def dA (l:List Zit):List Zit:=if bY l=0 then dh l else []
def aY (a b:List Zit):Int:=if aq a=0 then (if aq b=0 then (if dq (a++b)=0 then (if 400<(dh (a++b)).length then 2 else 0) else dq (a++b)) else aq b) else aq a
def bw (a b:List Zit):List Zit:=if aY a b=0 then dh (a++b) else []
theorem jx {l m:List Zit} (h:∀r,wt l r=wt m r):dh l=dh m:=(bB l).uniq (bB m) h
theorem yk {l m:List Zit} (h:∀r,wt l r=wt m r):dq l=dq m:=by unfold dq;rw[jx h]

end Go.Proofs.YtjmmpnmgpgaagaaGreatDoor

namespace Go.Proofs.YtjmmpnmgpgaagaaGreatDoor
open Go.RowKit Go.Sort

theorem gy {S:List Itm} {k:Nat} (h:k<S.length):(S.map Itm.z)[k]'(by simpa using h)=S[k].z:=by simp

theorem qm (ss:List Sl) (B:Option K) (cb:Nat) (w:Y) (b9:az fa 1 w B ss) (be:ss.length<=2)
  (a8:∀s∈ss,Items w s.A s.l/\(s.A=none->s.cap=0)/\s.l.length<=400/\∀x∈s.l,okW x.n=true/\x.r.length<=8) :
  D H 234 #[I B ss.length cb] w fun e w'=>∃(L:List Itm) (C:Option K) (c:Nat),e= U (ib #[I C L.length c,Z J (dq ((ss.flatMap (·.l)).map Itm.z))])/\L.map Itm.z=ol ((ss.flatMap (·.l)).map Itm.z)/\Items w' C L/\cV C L.length c/\X w.heap.size w w'/\NwT w' c w.heap.size C L:=by
 have d5:Tryz.prog.follows .mixedOrders=true:=by kernel_rfl
 have b3:=tD ss B cb w b9 be (fun s hs=>⟨(a8 s hs).1.row,(a8 s hs).2.1,(a8 s hs).2.2.1⟩)
 have a2:O _:=b3
 clear b3
 have ah:O (∀x∈ss.flatMap (·.l),al w x.p x.r/\x.r.length<=maxLen/\(x.p=none->x.c=0)/\okW x.n=true/\x.r.length<=8):=fun x R=>by
  obtain ⟨s,hs,R⟩:=List.mem_flatMap.1 R
  have h:=(a8 s hs).1.each x R
  exact ⟨h.1,h.2.1,h.2.2,(a8 s hs).2.2.2 x R⟩
 have an:O ((ss.flatMap (·.l)).length<=800):=rR be fun s hs=>(a8 s hs).2.2.1
 obtain ⟨all,b1⟩:∃all,ss.flatMap (·.l)=all:=⟨_,rfl⟩
 rw[b1] at a2 ah an ⊢
 clear b1 b9 a8 be
 go_enter Tryz.func234,Tryz.ntmps234
 go_wp2_with fail
 refine ja0 a2 ?_
 rintro e w1 ⟨v,rfl,b8,bC⟩
 clear a2
 have c7:=AB 256 (enters_of Tryz.func256 (by kernel_rfl) rfl) yV w.heap.size v all w1 b8 bC.size (fun x R=>by
  have h:=ah.out x R
  exact ⟨h.1.below bC,h.2.1,h.2.2.1,fun a ha hr=>h.1.lt a ha hr⟩) (by have:=an.out;omega)
 have cd:O _:=c7
 clear c7
 go_wp2_with fail
 refine ja0 cd ?_
 rintro e w2 ⟨rfl,⟨S,A,cap,hv,ap,bo,bc,hA⟩,cr⟩
 subst hv
 clear cd b8
 have g:O (Items w2 A S/\(A=none->cap=0)/\S.Perm all/\fe (S.map Itm.z)/\(∀x∈S.map Itm.z,okW x.2=true/\x.1.length<=8)/\X w.heap.size w w2):=⟨bc,hA,ap,bo,fun x R=>by
  obtain ⟨y,hy,rfl⟩:=List.mem_map.1 R
  exact (ah.out y (ap.mem_iff.1 hy)).2.2.2,bC.trans cr⟩
 have ea:S.length<=800:=by rw[ap.length_eq];exact an.out
 clear bc hA ap bo bC cr ah an
 go_wp2
 go_loopw [5,6] (fun v i wr=>∃(k:Nat) (L:List Itm),k<=S.length/\i= Z J k/\O (Upto (S.map Itm.z) k (L.map Itm.z))/\O (OwnT wr w2.heap.size v L/\X w2.heap.size w2 wr)/\O (fm wr L)) (fun _ i _=>S.length-(intOf i).toNat)
 case atStart=>exact ⟨0,[],by omega,rfl,Upto.zero _,⟨OwnT.nil _ _,bR _ _⟩,fun x R=>by cases R⟩
 case round =>
  rename Y=>w3
  obtain ⟨k,L,hk,rfl,bp,E,cn⟩:=hrel
  by_cases ao:k<S.length
  ·have cB:(k:Int)<(S.length:Int):=by omega
   have hI:=ja1 (g.out.1.below E.out.2)
   obtain ⟨bb,a1,rfl,hb,cf⟩:=hI.out.at ao
   obtain ⟨x,R⟩:∃x,S[k]=x:=⟨_,rfl⟩
   obtain ⟨e0,e1⟩:=cf k ao
   rw[R] at e0 e1
   have b5:=ja1 cf
   have cA:O (∃h:k<(S.map Itm.z).length,((S.map Itm.z)[k]).1=x.r):=⟨by simpa using ao,by rw[gy ao,R];rfl⟩
   have a9:O (al w3 x.p x.r/\x.r.length<=maxLen/\(x.p=none->x.c=0)):=hI.out.each x (by rw[<-R];exact gM ao)
   have dl:O (x.r.length<=8):=(g.out.2.2.2.2.1 x.z (List.mem_map.2 ⟨x,by rw[<-R];exact gM ao,rfl⟩)).2
   have h0:O (wt ((S.map Itm.z).take k) x.r=0):=by
    show _=_
    have:=bp.out.first (show k<(S.map Itm.z).length by simpa using ao)
    rw[gy ao,R] at this
    exact this
   clear cf R
   go_wp2
   go_loopw [6,8] (fun i n wr=>∃j:Nat,k<=j/\j<=S.length/\i= Z J j/\n= Z J (wt ((S.map Itm.z).take j) x.r)/\O (Run (S.map Itm.z) x.r k j)/\Gr w3 wr) (fun i _ _=>S.length-(intOf i).toNat)
   case atStart=>exact ⟨k,nR _,hk,rfl,by rw[h0.out],fun m _ h1 h2=>by omega,gR _⟩
   case round =>
    rename Y=>w4
    obtain ⟨j,ej,eg,rfl,rfl,cc,F⟩:=hrel
    have bn:=ja1 cc
    obtain ⟨N,hN⟩:∃N,wt ((S.map Itm.z).take j) x.r=N:=⟨_,rfl⟩
    rw[hN]
    have cp:=ja1 hN
    have ds: -838860800<=N/\N<=838860800:=by
     have h1:=B3 (l:=(S.map Itm.z).take j) (fun y hy=>(g.out.2.2.2.2.1 y (List.mem_of_mem_take hy)).1) x.r
     rw[hN] at h1
     have h2:((S.map Itm.z).take j).length<=800:=by simp;omega
     omega
    clear cc hN
    by_cases ck:∃h:j<S.length,aC x.r S[j].r=0
    ·obtain ⟨f,hc⟩:=ck
     have bh:(j:Int)<(S.length:Int):=by omega
     obtain ⟨y,hy⟩:∃y,S[j]=y:=⟨_,rfl⟩
     obtain ⟨f0,f1⟩:=b5.out j f
     rw[hy] at f0 f1 hc
     have g0:w4.cell? ⟨bb,a1+j*2,none⟩=some (I y.p y.r.length y.c):=(F.below.cell (p:=⟨bb,a1+j*2,none⟩) hb).trans f0
     have g1:w4.cell? ⟨bb,a1+j*2+1,none⟩=some (Z J y.n):=(F.below.cell (p:=⟨bb,a1+j*2+1,none⟩) hb).trans f1
     have bt:=hI.out.each y (by rw[<-hy];exact gM f)
     have a7:=eU x.r y.r x.p y.p x.c y.c w4 a9.out.2.1 (a9.out.1.gr F) (bt.1.gr F)
     rw[hc] at a7
     have a0:O _:=a7
     have d4:O (okW y.n=true):=(g.out.2.2.2.2.1 y.z (List.mem_map.2 ⟨y,by rw[<-hy];exact gM f,rfl⟩)).1
     have c8:O (wt ((S.map Itm.z).take (j+1)) x.r=N+y.n/\Run (S.map Itm.z) x.r k (j+1)):=by
      have cl:j<(S.map Itm.z).length:=by simpa using f
      have dp:y.r=x.r:=(ji _ _ hc).symm
      refine ⟨?_,fun m hm h1 h2=> ?_⟩
      ·rw[ri cl,cp.out,gy f,hy]
       show N+(if y.r=x.r then y.n else 0)=_
       rw[if_pos dp]
      ·by_cases e:m=j
       ·subst e;rw[gy f,hy];exact dp
       ·exact bn.out m hm h1 (by omega)
     have em:IntKind.i64.wrap (N+y.n)=N+y.n:=by
      have h:=d4.out
      simp only[okW,inB,Bool.and_eq_true,decide_eq_true_eq] at h
      rw[IntKind.wrap_i64];omega
     clear a7 f0 f1 hy bt hc
     go_wp2_with fail
     refine ja0 a0 ?_
     rintro e w5 ⟨rfl,ba⟩
     have q1:w5.cell? ⟨bb,a1+j*2+1,none⟩=some (Z J y.n):=(ba.below.cell (p:=⟨bb,a1+j*2+1,none⟩) (nL hb F.size)).trans g1
     clear a0 g0 g1
     go_wp2
     go_roundw
     case rel=>exact ⟨j+1,by omega,by omega,by go_num,by rw[c8.out.1],c8.out.2,F.trans ba⟩
     case measure=>simp[intOf];omega
    ·have cj:O (∀h:j<(S.map Itm.z).length,aC x.r ((S.map Itm.z)[j]).1≠0):=fun h e=>ck ⟨by simpa using h,by rw[gy (by simpa using h)] at e;exact e⟩
     have bd:k<j:=by
      by_cases e:k=j
      ·subst e
       obtain ⟨h1,h2⟩:=cA.out
       exact absurd (by rw[h2,jj]) (cj.out h1)
      ·omega
     clear ck
     have cl:k<(S.map Itm.z).length:=by simpa using ao
     have a4:O ((okW N=false->dq (all.map Itm.z)=5)/\(N=0->Upto (S.map Itm.z) j (L.map Itm.z))/\(okW N=true->N≠0->Upto (S.map Itm.z) j (L.map Itm.z++[(x.r,N)]))):=by
      obtain ⟨h1,h2⟩:=cA.out
      have hr:=bn.out
      have he:=cj.out
      have hn:=cp.out
      rw[<-h2] at hr he hn
      refine ⟨fun hw=> ?_,fun hw=> ?_,fun hw hz=> ?_⟩
      ·exact (oj _).2 ((fe.perm_bad (g.out.2.2.1.map Itm.z)).1 (Cc g.out.2.2.2.1 h1 bd he (by rw[hn];exact hw)))
      ·exact Ay g.out.2.2.2.1 bp.out h1 bd hr he (by rw[hn];exact hw)
      ·have:=Ax g.out.2.2.2.1 bp.out h1 bd hr he (by rw[hn];exact hw) (by rw[hn];exact hz)
       rw[hn,h2] at this
       exact this
     clear cl ds
     by_cases f:j<S.length
     rotate_left
     focus
      have bh:¬(j:Int)<(S.length:Int):=by omega
      have u:=ja1 F
      obtain ⟨w5,rfl⟩:∃W,W=w4:=⟨_,rfl⟩
      clear F
      go_wp2_with fail
     rotate_left
     focus
      have bh:(j:Int)<(S.length:Int):=by omega
      obtain ⟨y,hy⟩:∃y,S[j]=y:=⟨_,rfl⟩
      obtain ⟨f0,f1⟩:=b5.out j f
      rw[hy] at f0 f1
      have g0:w4.cell? ⟨bb,a1+j*2,none⟩=some (I y.p y.r.length y.c):=(F.below.cell (p:=⟨bb,a1+j*2,none⟩) hb).trans f0
      have bt:=hI.out.each y (by rw[<-hy];exact gM f)
      obtain ⟨c,hc⟩:∃c,aC x.r y.r=c:=⟨_,rfl⟩
      have eb:¬c=0:=fun e=>by
       have:=cj.out (by simpa using f)
       rw[gy f,hy] at this
       exact this (by rw[<-e,<-hc];rfl)
      have a7:=eU x.r y.r x.p y.p x.c y.c w4 a9.out.2.1 (a9.out.1.gr F) (bt.1.gr F)
      rw[hc] at a7
      have a0:O _:=a7
      clear a7 f0 f1 hy bt hc
      go_wp2_with fail
      refine ja0 a0 ?_
      rintro e w5 ⟨rfl,ba⟩
      have u:=ja1 (F.trans ba)
      clear a0 g0 F ba
      go_wp2_with fail
     all_goals
      refine cM (gY N w5) ?_
      rintro e w6 ⟨rfl,rfl⟩
      cases dk:okW N
      ·have b2:=ja1 (a4.out.1 dk)
       have dG:=ja1 (g.out.2.2.2.2.2.trans ((E.out.2.trans (u.out.below.mono E.out.2.size)).mono g.out.2.2.2.2.2.size))
       go_wp2
       go_ret2
       exact ⟨[],none,0,by rw[b2.out];rfl,by rw[AR b2.out];rfl,⟨oL rfl,fun x R=>by cases R⟩,fun _=>rfl,dG.out,NwT.none _ _⟩
      ·cases c0:(N != 0)
       ·have bs:O (Upto (S.map Itm.z) j (L.map Itm.z)):=a4.out.2.1 (by simpa using c0)
        have ad:=ja2 (E.out.1.gr u.out) (E.out.2.trans (u.out.below.mono E.out.2.size))
        go_wp2
        go_roundw
        case rel=>exact ⟨j,L,by omega,rfl,bs,ad,cn.out.below u.out.below⟩
        case measure=>simp[intOf];omega
       ·have bs:O (Upto (S.map Itm.z) j (L.map Itm.z++[(x.r,N)])):=a4.out.2.2 dk (by simpa using c0)
        have ad:=ja2 (E.out.1.gr u.out) (E.out.2.trans (u.out.below.mono E.out.2.size))
        have cv:=lS x.r x.p x.c w6 (by have:=dl.out;omega) a9.out.2.2 (a9.out.1.gr u.out)
        have b4:O _:=cv
        clear cv
        go_wp2_with fail
        refine ja0 b4 ?_
        rintro e w7 ⟨C,c,rfl,c6,c2,a5,ce,cm⟩
        clear b4
        have bG:X w6.heap.size w6 (w7.alloc (V #[I C x.r.length c,Z J N] 151)):=ce.alloc ce.size _
        have a6:O (OwnT (w7.alloc (V #[I C x.r.length c,Z J N] 151)) w2.heap.size u5 L/\Apart (w7.alloc (V #[I C x.r.length c,Z J N] 151)) w2.heap.size u5.ownBlock ⟨C,c,x.r,N⟩/\(L.length+1<=maxLen/\(L.length+1)*32<=140737488355328)/\w2.heap.size<=(w7.alloc (V #[I C x.r.length c,Z J N] 151)).heap.size/\X w2.heap.size w2 (w7.alloc (V #[I C x.r.length c,Z J N] 151))):=by
         have d0:=ad.out.2.size
         have d6:L.length<=k:=by have:=bp.out.len;simpa using this
         have cu:=ad.out.2.trans (bG.mono d0)
         refine ⟨ad.out.1.below bG,⟨c6.gr ((gR _).alloc _),nT dl.out (by decide),c2,fun a ha=>⟨?_,?_,?_⟩⟩,⟨?_,?_⟩,cu.size,cu⟩
         ·have h1:=(a5 a ha).1;omega
         ·have h1:=(a5 a ha).2;simp;omega
         ·intro e
          have h1:=(World.ownsRow.lt ad.out.1.own a.block e).2
          have h2:=(a5 a ha).1
          omega
         ·unfold maxLen;omega
         ·omega
        have c5:O (fm (w7.alloc (V #[I C x.r.length c,Z J N] 151)) (L++[⟨C,c,x.r,N⟩])):=by
         intro z hz
         rcases List.mem_append.1 hz with hz|hz
         ·exact ((cn.out.below u.out.below).below bG) z hz
         ·rw[List.mem_singleton.1 hz]
          exact ⟨cm.1.below ((gR _).alloc _).below,cm.2⟩
        clear c6 c2 a5 ce bG cm
        go_wp2_with (at_builtin;refine lP _ rfl (.tmp 50) (.tmp 55) rfl w2.heap.size u5 L ⟨C,c,x.r,N⟩ ⟨w7.heap.size,0,none⟩ 1 rfl rfl a6.out.1 (dj rfl ⟨C,c,x.r,N⟩ 151) a6.out.2.1 a6.out.2.2.1.1 a6.out.2.2.1.2 a6.out.2.2.2.1 ?_;intro v8 w8 bl cs b7)
        have c3:=ja2 bl (a6.out.2.2.2.2.trans cs)
        have c4:O (fm w8 (L++[⟨C,c,x.r,N⟩])):=c5.out.grown b7 (a6.out.1.own.typed (by decide))
        clear bl cs b7
        go_roundw
        case rel=>exact ⟨j,L++[⟨C,c,x.r,N⟩],by omega,rfl,by rw[List.map_append];exact bs,c3,c4⟩
        case measure=>simp[intOf];omega
  ·have cB:¬(k:Int)<(S.length:Int):=by omega
   have b6:O (dq (all.map Itm.z)=0/\L.map Itm.z=ol (all.map Itm.z)):=by
    have h1:=bp.out.done (by simp;omega)
    have hp:=g.out.2.2.1.map Itm.z
    have h2:=Cp (fun h=>h1.2 ((fe.perm_bad hp).2 h))
    refine ⟨h2,?_⟩
    rw[vQ h2]
    exact (h1.1.perm hp).eq
   obtain ⟨A2,bN,c9,c1,bc,a5⟩:=E.out.1.items
   have b0:jP w.heap.size A2 L:=⟨fun a ha=>nT g.out.2.2.2.2.2.size (a5 a ha).1,fun x R a ha=>nT g.out.2.2.2.2.2.size ((E.out.1.each x R).own a ha).1⟩
   have dz:O (NwT w3 bN w.heap.size A2 L):=⟨b0,by have:=E.out.1.own;rw[c9] at this;exact this.roomA,cn.out⟩
   have a3:=ja3 bc c1 (g.out.2.2.2.2.2.trans (E.out.2.mono g.out.2.2.2.2.2.size))
   subst c9
   clear bc c1 E a5 b0
   go_wp2
   go_ret2
   exact ⟨L,A2,bN,by rw[b6.out.1];rfl,b6.out.2,a3.out.1,a3.out.2.1,a3.out.2.2,dz.out⟩
theorem En {w:Y} {A:Option K} {ca:Nat} {a:List Itm} (T:TypeId):az fa 1 (w.alloc (V #[I A a.length ca] T)) (some ⟨w.heap.size,0,none⟩) [⟨A,ca,a⟩]:=by
 refine oR ⟨w.heap.size,0,rfl,by simp,fun j f i hi=> ?_⟩
 obtain rfl:i=0:=by omega
 obtain rfl:j=0:=by simp at f;omega
 exact aa (gR _) (j:=0) rfl
theorem Eo {w:Y} {A B:Option K} {ca cb:Nat} {a b:List Itm} (T:TypeId):az fa 1 (w.alloc (V #[I A a.length ca,I B b.length cb] T)) (some ⟨w.heap.size,0,none⟩) [⟨A,ca,a⟩,⟨B,cb,b⟩]:=by
 refine oR ⟨w.heap.size,0,rfl,by simp,fun j g i hi=> ?_⟩
 obtain rfl:i=0:=by omega
 have f:j=0\/j=1:=by simp at g;omega
 rcases f with rfl|rfl
 ·exact aa (gR _) (j:=0) rfl
 ·exact aa (gR _) (j:=1) rfl
theorem pd (a:List Itm) (A:Option K) (ca:Nat) (w:Y) (hA:A=none->ca=0) (hI:Items w A a) (hl:a.length<=400) (hx:∀x∈a,okW x.n=true/\x.r.length<=8) :
  D H 234 #[I (some ⟨w.heap.size,0,none⟩) 1 1] (w.alloc (V #[I A a.length ca] 59)) fun e w'=>∃(L:List Itm) (C:Option K) (c:Nat),e= U (ib #[I C L.length c,Z J (dq (a.map Itm.z))])/\L.map Itm.z=ol (a.map Itm.z)/\Items w' C L/\cV C L.length c/\X w.heap.size w w'/\NwT w' c w.heap.size C L:=by
 have f:Gr w (w.alloc (V #[I A a.length ca] 59)):=(gR _).alloc _
 have h:=qm [⟨A,ca,a⟩] (some ⟨w.heap.size,0,none⟩) 1 _ (En 59) (by simp) (fun s hs=>by
  obtain rfl:s=_:=List.mem_singleton.1 hs
  exact ⟨hI.gr f,hA,hl,hx⟩)
 have g:([⟨A,ca,a⟩]:List Sl).flatMap (·.l)=a:=by simp
 rw[g] at h
 refine h.mono ?_
 rintro e w' ⟨L,C,c,j,k,u,E,F,R⟩
 exact ⟨L,C,c,j,k,u,E,f.below.trans (F.mono f.size),R.mono f.size⟩

theorem pf (a b:List Itm) (A B:Option K) (ca cb:Nat) (w:Y) (hA:A=none->ca=0) (hB:B=none->cb=0) (hI:Items w A a) (hJ:Items w B b) (hl:a.length<=400) (hm:b.length<=400) (hx:∀x∈a,okW x.n=true/\x.r.length<=8) (hy:∀x∈b,okW x.n=true/\x.r.length<=8) :
  D H 234 #[I (some ⟨w.heap.size,0,none⟩) 2 2] (w.alloc (V #[I A a.length ca,I B b.length cb] 59)) fun e w'=>∃(L:List Itm) (C:Option K) (c:Nat),e= U (ib #[I C L.length c,Z J (dq (a.map Itm.z++b.map Itm.z))])/\L.map Itm.z=ol (a.map Itm.z++b.map Itm.z)/\Items w' C L/\cV C L.length c/\X w.heap.size w w'/\NwT w' c w.heap.size C L:=by
 have f:Gr w (w.alloc (V #[I A a.length ca,I B b.length cb] 59)):=(gR _).alloc _
 have h:=qm [⟨A,ca,a⟩,⟨B,cb,b⟩] (some ⟨w.heap.size,0,none⟩) 2 _ (Eo 59) (by simp) (fun s hs=>by
  rcases List.mem_cons.1 hs with e|e
  ·subst e;exact ⟨hI.gr f,hA,hl,hx⟩
  ·obtain rfl:s=_:=List.mem_singleton.1 e
   exact ⟨hJ.gr f,hB,hm,hy⟩)
 have g:([⟨A,ca,a⟩,⟨B,cb,b⟩]:List Sl).flatMap (·.l)=a++b:=by simp
 rw[g,List.map_append] at h
 refine h.mono ?_
 rintro e w' ⟨L,C,c,j,k,u,E,F,R⟩
 exact ⟨L,C,c,j,k,u,E,f.below.trans (F.mono f.size),R.mono f.size⟩

end Go.Proofs.YtjmmpnmgpgaagaaGreatDoor
