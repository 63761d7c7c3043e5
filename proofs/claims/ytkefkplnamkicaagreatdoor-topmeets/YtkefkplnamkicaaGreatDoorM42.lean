/-
  What all of it is for, over plain data: packets in whatever order, what was missing, who puts while others delete, what is deleted.
  What happens at first, in numbers: sorts that can be reckoned with.
  viewtop.put, del; what happens at first, over plain data.
  viewtop.said: two nodes that edited apart come together.
  What is handed in, opened: a list of happenings.
-/
import Derived.Test.YtkefkplnamkicaaGreatDoorM41
import Derived.ChangeMaps5
set_option maxRecDepth 100000
set_option maxHeartbeats 8000000
open Go.Ending renaming returned → O
open Go.IntKind renaming i64 → I
open Go.Obj renaming cells → J
open Go.Proofs.Tryz renaming prog → S
open Go.Value renaming slice → Y, agg → X
namespace Go.Proofs.YtkefkplnamkicaaGreatDoor
open Go.RowKit Go.Sort

def aR (N:NetM) (n:Nat):NetM:=match N.pk[n]? with|some p=>f9 N p.1 p.2.1 p.2.2|none=>N
def mn (pk:List (Nat×Tab×Tab)) (j:Nat) (l:List Nat):List Tab:=l.filterMap fun n=>match pk[n]? with|some p=>if p.1=j then some p.2.1 else none|none=>none
def mp (pk:List (Nat×Tab×Tab)) (j:Nat) (l:List Nat):List Tab:=l.filterMap fun n=>match pk[n]? with|some p=>if p.1=j then some p.2.2 else none|none=>none
theorem uJ (pk:List (Nat×Tab×Tab)) (j n:Nat) (l:List Nat) {p:Nat×Tab×Tab} (h:pk[n]? = some p):mn pk j (n::l)=if p.1=j then p.2.1::mn pk j l else mn pk j l:=by
 unfold mn
 rw[List.filterMap_cons,h]
 by_cases e:p.1=j
 ·simp[e]
 ·simp[e]
theorem uK (pk:List (Nat×Tab×Tab)) (j n:Nat) (l:List Nat) {p:Nat×Tab×Tab} (h:pk[n]? = some p):mp pk j (n::l)=if p.1=j then p.2.2::mp pk j l else mp pk j l:=by
 unfold mp
 rw[List.filterMap_cons,h]
 by_cases e:p.1=j
 ·simp[e]
 ·simp[e]
theorem oC (pk:List (Nat×Tab×Tab)) (j n:Nat) (l:List Nat) (h:pk[n]? = none):mn pk j (n::l)=mn pk j l∧mp pk j (n::l)=mp pk j l:=by
 unfold mn mp
 rw[List.filterMap_cons,List.filterMap_cons,h]
 exact ⟨rfl,rfl⟩
theorem jI:∀(l:List Nat) {c:Nat} {N:NetM},NInv c N→NInv c (l.foldl aR N)∧(l.foldl aR N).pk=N.pk∧∀j,(l.foldl aR N).s j=gP (N.s j) (mn N.pk j l)∧(l.foldl aR N).t j=gP (N.t j) (mp N.pk j l)
 | [],_,N,h=>⟨h,rfl,fun j=>⟨rfl,rfl⟩⟩
 | n::l,c,N,h=>by
  cases hp:N.pk[n]? with
  | none =>
   have e:aR N n=N:=by unfold aR;rw[hp]
   obtain ⟨k1,k2,k3⟩:=jI l h
   rw[List.foldl_cons,e]
   refine ⟨k1,k2,fun j=> ?_⟩
   rw[(oC N.pk j n l hp).1,(oC N.pk j n l hp).2]
   exact k3 j
  | some p =>
   have e:aR N n=f9 N p.1 p.2.1 p.2.2:=by unfold aR;rw[hp]
   obtain ⟨U,V,h1,h2,h3,h4⟩:=h.ex
   obtain ⟨ha,hb⟩:=pT h1 h2 (List.mem_of_getElem? hp)
   obtain ⟨_,es,et,l1,l2⟩:=kR h1 h2 p.1 ha hb
   have hI:NInv c (aR N n):=by rw[e];exact ⟨⟨U,V,l1,l2,h3,h4⟩,h.dst⟩
   obtain ⟨k1,k2,k3⟩:=jI l hI
   have hpk:(aR N n).pk=N.pk:=by rw[e];rfl
   rw[List.foldl_cons]
   refine ⟨k1,k2.trans hpk,fun j=> ?_⟩
   obtain ⟨m1,m2⟩:=k3 j
   rw[m1,m2,hpk,e,es,et,uJ N.pk j n l hp,uK N.pk j n l hp]
   by_cases ej:p.1=j
   ·subst ej
    rw[if_pos rfl,if_pos rfl,bB,bB]
    exact ⟨rfl,rfl⟩
   ·rw[if_neg ej,if_neg ej,dQ _ _ (fun e=>ej e.symm),dQ _ _ (fun e=>ej e.symm)]
    exact ⟨rfl,rfl⟩
theorem mo {pk:List (Nat×Tab×Tab)} {j:Nat} {l:List Nat} {x:Tab}:x∈mn pk j l↔∃n∈l,∃p,pk[n]? = some p∧p.1=j∧p.2.1=x:=by
 unfold mn
 rw[List.mem_filterMap]
 constructor
 ·rintro ⟨n,hn,e⟩
  cases hp:pk[n]? with
  | none=>rw[hp] at e;cases e
  | some p =>
   rw[hp] at e
   by_cases ej:p.1=j
   ·simp[ej] at e;exact ⟨n,hn,p,hp,ej,e⟩
   ·simp[ej] at e
 ·rintro ⟨n,hn,p,hp,ej,e⟩
  exact ⟨n,hn,by rw[hp];simp[ej,e]⟩
theorem mq {pk:List (Nat×Tab×Tab)} {j:Nat} {l:List Nat} {x:Tab}:x∈mp pk j l↔∃n∈l,∃p,pk[n]? = some p∧p.1=j∧p.2.2=x:=by
 unfold mp
 rw[List.mem_filterMap]
 constructor
 ·rintro ⟨n,hn,e⟩
  cases hp:pk[n]? with
  | none=>rw[hp] at e;cases e
  | some p =>
   rw[hp] at e
   by_cases ej:p.1=j
   ·simp[ej] at e;exact ⟨n,hn,p,hp,ej,e⟩
   ·simp[ej] at e
 ·rintro ⟨n,hn,p,hp,ej,e⟩
  exact ⟨n,hn,by rw[hp];simp[ej,e]⟩
theorem ol {c:Nat} {N:NetM} (h:NInv c N) {l m:List Nat} (e:∀n,n<N.pk.length→(n∈l↔n∈m)):∀j,(l.foldl aR N).s j=(m.foldl aR N).s j∧(l.foldl aR N).t j=(m.foldl aR N).t j:=by
 intro j
 obtain ⟨_,_,k⟩:=jI l h
 obtain ⟨_,_,k'⟩:=jI m h
 obtain ⟨U,V,h1,h2,_⟩:=h.ex
 have hs:∀l:List Nat,(∀x∈mn N.pk j l,Sub U x)∧∀x∈mp N.pk j l,Sub V x:=fun l=>by
  refine ⟨fun x hx=> ?_,fun x hx=> ?_⟩
  ·obtain ⟨n,_,p,hp,_,e⟩:=mo.1 hx
   rw[←e]
   exact (pT h1 h2 (List.mem_of_getElem? hp)).1
  ·obtain ⟨n,_,p,hp,_,e⟩:=mq.1 hx
   rw[←e]
   exact (pT h1 h2 (List.mem_of_getElem? hp)).2
 have hlt:∀ {n:Nat} {p:Nat×Tab×Tab},N.pk[n]? = some p→n<N.pk.length:=fun hp=>(List.getElem?_eq_some_iff.1 hp).1
 rw[(k j).1,(k j).2,(k' j).1,(k' j).2]
 refine ⟨nf h1.uni (h1.sub j) (hs l).1 (hs m).1 fun x=> ?_,nf h2.uni (h2.sub j) (hs l).2 (hs m).2 fun x=> ?_⟩
 ·rw[mo,mo]
  exact ⟨fun ⟨n,hn,p,hp,k⟩=>⟨n,(e n (hlt hp)).1 hn,p,hp,k⟩,fun ⟨n,hn,p,hp,k⟩=>⟨n,(e n (hlt hp)).2 hn,p,hp,k⟩⟩
 ·rw[mq,mq]
  exact ⟨fun ⟨n,hn,p,hp,k⟩=>⟨n,(e n (hlt hp)).1 hn,p,hp,k⟩,fun ⟨n,hn,p,hp,k⟩=>⟨n,(e n (hlt hp)).2 hn,p,hp,k⟩⟩
theorem ux {c:Nat} {N:NetM} (h:NInv c N) (i j:Nat) (h0:kP (N.s i) (N.t i) (N.s j).c (N.t j).c=0) :
  dW (N.s j) (N.t j) (N.s i) (N.t i)=0∧dW (N.s j) (N.t j) (aB (N.s i) (N.s j).c) (aB (N.t i) (N.t j).c)=0∧l8 (N.s j) (N.t j) (aB (N.s i) (N.s j).c) (aB (N.t i) (N.t j).c)=l8 (N.s j) (N.t j) (N.s i) (N.t i)∧oT (N.s j) (N.t j) (aB (N.s i) (N.s j).c) (aB (N.t i) (N.t j).c)=oT (N.s j) (N.t j) (N.s i) (N.t i):=by
 obtain ⟨U,V,h1,h2,_⟩:=h.ex
 have m1:=(Sub.merge h1.uni (h1.sub j) (h1.sub i)).1
 have m2:=(Sub.merge h2.uni (h2.sub j) (h2.sub i)).1
 have hs:aT (N.s i) (N.s j).c=0∧aT (N.t i) (N.t j).c=0:=by
  unfold kP at h0
  by_cases e:aT (N.s i) (N.s j).c=0
  ·rw[if_pos e] at h0;exact ⟨e,h0⟩
  ·rw[if_neg e] at h0;exact absurd h0 e
 obtain ⟨_,k1,k2⟩:=k6 m1 hs.1
 obtain ⟨_,q1,q2⟩:=k6 m2 hs.2
 have e1:dW (N.s j) (N.t j) (N.s i) (N.t i)=0:=by unfold dW;rw[m1,if_pos rfl,m2]
 have e2:dW (N.s j) (N.t j) (aB (N.s i) (N.s j).c) (aB (N.t i) (N.t j).c)=0:=by unfold dW;rw[k1,if_pos rfl,q1]
 refine ⟨e1,e2,?_,?_⟩
 ·unfold l8
  rw[if_pos e1,if_pos e2,k2]
 ·unfold oT
  rw[if_pos e1,if_pos e2,q2]
section
variable {U:List Cel} {x:Nat→Tab} {ps:List Tab}
end
section
open Go.Shelf Go.Lib
set_option linter.unusedSimpArgs false

def xg {α : Type} (le: α → α → Bool) (x: α):List α → List α
 | []=>[x]
 | y::l=>if le x y then x::y::l else y::xg le x l
def isr {α : Type} (le: α → α → Bool):List α → List α
 | []=>[]
 | x::l=>xg le x (isr le l)
theorem qT {α : Type} {le: α → α → Bool} {x: α}:∀(a b:List α),(∀y∈a,le x y=false)→(∀y∈b,le x y=true)→xg le x (a++b)=a++x::b
 | [],[],_,_=>rfl
 | [],y::b,_,h=>by simp[xg,h y (List.mem_cons_self ..)]
 | y::a,b,h,k=>by
  rw[List.cons_append,xg,if_neg (by simp[h y (List.mem_cons_self ..)]),qT a b (fun z hz=>h z (mC _ hz)) k]
  rfl
theorem pK {α : Type} {le: α → α → Bool} (tr:∀a b c,le a b=true→le b c=true→le a c=true) (tl:∀a b,(le a b || le b a)=true):∀l:List α,l.mergeSort le=isr le l
 | []=>by simp[isr]
 | x::l=>by
  obtain ⟨a,b,h1,h2,h3⟩:=List.mergeSort_cons tr tl x l
  have hs:=List.pairwise_mergeSort tr tl (x::l)
  rw[h1] at hs
  rw[isr,←pK tr tl l,h2,h1,qT a b (fun y hy=>by simpa using h3 y hy) fun y hy=> ?_]
  exact (List.pairwise_cons.1 (List.pairwise_append.1 hs).2.1).1 y hy
theorem iC (l:List (Int×Int)):srt l=isr (fun x y=> !ltOf eh y x) l:=by
 unfold srt
 refine pK (fun a b c h1 h2=> ?_) (fun a b=> ?_) l
 ·simp only[ltD,Bool.not_eq_true'] at *
  exact iP (x:=a) (y:=b) (z:=c) h1 h2
 ·simp only[ltD,Bool.or_eq_true,Bool.not_eq_true']
  exact oN a b
theorem fH (l:List Cel):gO l=isr (fun x y=> !fJ y x) l:=by
 unfold gO
 refine pK (fun a b c=> ?_) (fun a b=> ?_) l
 ·simp[fJ,bD];omega
 ·simp[fJ,bD];omega
theorem rn (l:List Int):cN l=compact (isr (fun x y=>decide (x≤y)) l):=by
 unfold cN
 rw[pK (fun a b c h1 h2=> ?_) (fun a b=> ?_) l]
 ·simp at h1 h2 ⊢;omega
 ·simp;omega
def tT0:Tab:=⟨⟨1,0,0,0,[]⟩,[((0,1),3,0,4)]⟩
def tTa:Tab:=⟨⟨0,1,0,0,[]⟩,[((1,1),3,1,5)]⟩
def tT1:Tab:=⟨⟨0,2,0,0,[]⟩,[((1,1),3,1,5),((1,2),7,0,1)]⟩
def tMM:Tab:=⟨⟨1,2,0,0,[]⟩,[((0,1),3,0,4),((1,1),3,1,5),((1,2),7,0,1)]⟩
def tD2:Tab:=⟨⟨1,2,0,0,[]⟩,[((0,1),3,0,4),((1,1),3,1,5)]⟩
def tE3:Tab:=⟨⟨1,2,0,1,[]⟩,[((0,1),3,0,4),((1,1),3,1,5),((1,2),7,0,1),((3,1),7,2,9)]⟩
def tRR:Tab:=⟨⟨1,2,0,1,[]⟩,[((0,1),3,0,4),((1,1),3,1,5),((3,1),7,2,9)]⟩
theorem sd1:doE cH 0 1 3 0 4=0∧doT cH 0 1 3 0 4=tT0:=by
 simp only[doT,doE,edE,edT,de,cR,al,ac,aC,aA,cO,dT,aE,mrg,iC,fH]
 exact ⟨by kernel_rfl,by kernel_rfl⟩
theorem sd2:doE cH 1 1 3 1 5=0∧doT cH 1 1 3 1 5=tTa:=by
 simp only[doT,doE,edE,edT,de,cR,al,ac,aC,aA,cO,dT,aE,mrg,iC,fH]
 exact ⟨by kernel_rfl,by kernel_rfl⟩
theorem sd3:doE tTa 1 1 7 0 1=0∧doT tTa 1 1 7 0 1=tT1:=by
 simp only[doT,doE,edE,edT,de,cR,al,ac,aC,aA,cO,dT,aE,mrg,iC,fH]
 exact ⟨by kernel_rfl,by kernel_rfl⟩
theorem sd4:ac (ac (ac tT0 tT1) cH) cH=tMM:=by
 simp only[al,ac,aC,aA,cO,dT,mrg,iC,fH]
 kernel_rfl
theorem sd5:doE tMM 2 2 7 0 0=0∧doT tMM 2 2 7 0 0=tD2:=by
 simp only[doT,doE,edE,edT,eQ,cJ,al,ac,aC,aA,cO,dT,aE,mrg,iC,fH]
 exact ⟨by kernel_rfl,by kernel_rfl⟩
theorem sd6:doE tMM 3 1 7 2 9=0∧doT tMM 3 1 7 2 9=tE3:=by
 simp only[doT,doE,edE,edT,de,cR,al,ac,aC,aA,cO,dT,aE,mrg,iC,fH]
 exact ⟨by kernel_rfl,by kernel_rfl⟩
theorem sd7:ac (ac (ac tMM tMM) tD2) tE3=tRR:=by
 simp only[al,ac,aC,aA,cO,dT,mrg,iC,fH]
 kernel_rfl
theorem sd8:am tRR=0∧ofR tRR=[([3,4,5,0],1),([7,0,0,9],1)]:=by
 simp only[ofR,ofL,db,rn]
 exact ⟨by kernel_rfl,by kernel_rfl⟩
end

def dF (n key col v:Int):Hap:=⟨1,n,0,0,1,0,key,col,v⟩
def mw (n key:Int):Hap:=⟨1,n,0,0,2,0,key,0,0⟩
theorem jM (n key col v:Int) (w:World):Calls S 37 #[.int I n,.int I key,.int I col,.int I v] w fun e w'=>e= O (X (bH (dF n key col v,[])).toArray)∧Gr w w':=by
 have hg:Hid (Gr w (w.alloc (J (bH (dF n key col v,[])).toArray 30))):=(gR w).alloc _
 go_enter Tryz.func37,Tryz.ntmps37
 go_wp2
 exact bodyPost_ret (v:= X (bH (dF n key col v,[])).toArray) (by simp[results,Tryz.results37,go_sem,bH,dF]) rfl ⟨rfl,hg.out⟩
theorem xe (n key:Int) (w:World):Calls S 38 #[.int I n,.int I key] w fun e w'=>e= O (X (bH (mw n key,[])).toArray)∧Gr w w':=by
 have hg:Hid (Gr w (w.alloc (J (bH (mw n key,[])).toArray 30))):=(gR w).alloc _
 go_enter Tryz.func38,Tryz.ntmps38
 go_wp2
 exact bodyPost_ret (v:= X (bH (mw n key,[])).toArray) (by simp[results,Tryz.results38,go_sem,bH,mw]) rfl ⟨rfl,hg.out⟩
theorem hed (N:NetM) (y:Hap) (i:Nat) (hk:y.k=1) (ha:y.a=i) (hi:i<4) (h2:y.e2=0):bq N y=doE (N.s i) i y.e1 y.e3 y.e4 y.e5∧aj N y=⟨upd N.s i (doT (N.s i) i y.e1 y.e3 y.e4 y.e5),N.t,N.pk⟩:=by
 have hn:isN y.a:=⟨by omega,by omega⟩
 constructor
 ·unfold bq
  rw[if_pos hk,if_pos hn,ha,Int.toNat_natCast]
  unfold ndE
  rw[if_pos h2]
 ·unfold aj
  rw[if_pos hk,if_pos hn,ha,Int.toNat_natCast]
  unfold tF ndS ndT
  rw[if_pos h2,if_neg (by omega),gp]
theorem AK:∃N1 N2 N3 N5 N6,bq aG (dF 0 3 0 4)=0∧aj aG (dF 0 3 0 4)=N1∧bq N1 (dF 1 3 1 5)=0∧aj N1 (dF 1 3 1 5)=N2∧bq N2 (dF 1 7 0 1)=0∧aj N2 (dF 1 7 0 1)=N3∧NInv 3 N3∧bq (d8 N3) (mw 2 7)=0∧aj (d8 N3) (mw 2 7)=N5∧bq N5 (dF 3 7 2 9)=0∧aj N5 (dF 3 7 2 9)=N6∧NInv 5 N6∧∀i,i<4→(d8 N6).s i=tRR:=by
 obtain ⟨e1,m1⟩:=hed aG (dF 0 3 0 4) 0 rfl rfl (by omega) rfl
 have I1:=NInv.new.hap (by omega) (dF 0 3 0 4)
 have e1:=e1.trans sd1.1
 have m1:=m1.trans (congrArg (fun t=>NetM.mk (upd aG.s 0 t) aG.t aG.pk) sd1.2)
 rw[m1] at I1
 obtain ⟨e2,m2⟩:=hed ⟨upd aG.s 0 tT0,aG.t,aG.pk⟩ (dF 1 3 1 5) 1 rfl rfl (by omega) rfl
 have I2:=I1.hap (by omega) (dF 1 3 1 5)
 have e2:=e2.trans sd2.1
 have m2:=m2.trans (congrArg (fun t=>NetM.mk (upd (upd aG.s 0 tT0) 1 t) aG.t aG.pk) sd2.2)
 rw[m2] at I2
 obtain ⟨e3,m3⟩:=hed ⟨upd (upd aG.s 0 tT0) 1 tTa,aG.t,aG.pk⟩ (dF 1 7 0 1) 1 rfl rfl (by omega) rfl
 have I3:=I2.hap (by omega) (dF 1 7 0 1)
 have e3:=e3.trans sd3.1
 have m3:=m3.trans (congrArg (fun t=>NetM.mk (upd (upd (upd aG.s 0 tT0) 1 tTa) 1 t) aG.t aG.pk) sd3.2)
 rw[m3] at I3
 obtain ⟨I4,s4,_⟩:=I3.met
 obtain ⟨N4,h4⟩:∃N,d8 ⟨upd (upd (upd aG.s 0 tT0) 1 tTa) 1 tT1,aG.t,aG.pk⟩=N:=⟨_,rfl⟩
 rw[h4] at I4 s4
 have a4:∀j,j<4→N4.s j=tMM:=fun j hj=>(s4 j hj).trans sd4
 obtain ⟨e5,m5⟩:=hed N4 (mw 2 7) 2 rfl rfl (by omega) rfl
 have I5:=I4.hap (by omega) (mw 2 7)
 rw[a4 2 (by omega)] at e5 m5
 have e5:=e5.trans sd5.1
 have m5:=m5.trans (congrArg (fun t=>NetM.mk (upd N4.s 2 t) N4.t N4.pk) sd5.2)
 rw[m5] at I5
 obtain ⟨e6,m6⟩:=hed ⟨upd N4.s 2 tD2,N4.t,N4.pk⟩ (dF 3 7 2 9) 3 rfl rfl (by omega) rfl
 have I6:=I5.hap (by omega) (dF 3 7 2 9)
 have x3:upd N4.s 2 tD2 3=tMM:=(dQ _ _ (by omega)).trans (a4 3 (by omega))
 rw[show (NetM.mk (upd N4.s 2 tD2) N4.t N4.pk).s 3=tMM from x3] at e6 m6
 have e6:=e6.trans sd6.1
 have m6:=m6.trans (congrArg (fun t=>NetM.mk (upd (upd N4.s 2 tD2) 3 t) N4.t N4.pk) sd6.2)
 rw[m6] at I6
 refine ⟨_,_,_,_,_,e1,m1,e2,m2,e3,m3,I3,by rw[h4];exact e5,by rw[h4];exact m5,e6,m6,I6,fun i hi=> ?_⟩
 obtain ⟨_,s7,_⟩:=I6.met
 rw[s7 i hi]
 show ac (ac (ac (upd (upd N4.s 2 tD2) 3 tE3 0) (upd (upd N4.s 2 tD2) 3 tE3 1)) (upd (upd N4.s 2 tD2) 3 tE3 2)) (upd (upd N4.s 2 tD2) 3 tE3 3)=tRR
 rw[show upd (upd N4.s 2 tD2) 3 tE3 0=tMM from a4 0 (by omega),show upd (upd N4.s 2 tD2) 3 tE3 1=tMM from a4 1 (by omega),show upd (upd N4.s 2 tD2) 3 tE3 2=tD2 from rfl,show upd (upd N4.s 2 tD2) 3 tE3 3=tE3 from rfl]
 exact sd7

theorem gK {α : Type} {enc: α → List Value} {k:Nat} (hk:∀x,(enc x).length=k) {W:World} {n:Nat} (hn:W.heap.size=n) (l:List α) (T:TypeId) (cs:Array Value) (hcs:cs.toList=aI enc l):au enc k (W.alloc (J cs T)) (some ⟨n,0,none⟩) l:=by
 subst hn
 refine oR ⟨W.heap.size,0,rfl,by simp,fun j hj i hi=> ?_⟩
 have hg:=iL hk l j hj i hi
 obtain ⟨v,hv⟩:∃v,(enc l[j])[i]? = some v:=⟨(enc l[j])[i]'(by rw[hk];exact hi),List.getElem?_eq_getElem _⟩
 rw[Nat.zero_add]
 refine ((Cls.new W cs T).cell (v:=v) ?_).trans hv.symm
 rw[hcs,hg]
 exact hv
theorem py.ok {x:List UInt8} {N:NetM} {y:Hap} {Q Q':Nat→List (List Stp)} {er:Int} (h:py x N y Q er Q') (hk:y.k≠5):er=bq N y∧Q'=Q:=by
 rcases h with h|h
 ·exact ⟨h.2.1,h.2.2⟩
 ·exact absurd h.1 hk
def sdH:List (Hap×List UInt8):=[(dF 0 3 0 4,[]),(dF 1 3 1 5,[]),(dF 1 7 0 1,[])]
theorem iA (w:World) (hr:Reads w):Calls S 16 #[] w fun e w'=>e= O (.bool true)∧Below w.heap.size w w':=by
 obtain ⟨N1,N2,N3,N5,N6,e1,m1,e2,m2,e3,m3,i3,e5,m5,e6,m6,i6,hR⟩:=AK
 have hN:Hid _:=eH w
 have hP1:Hid (∀W,Calls S 37 #[.int I 0,.int I 3,.int I 0,.int I 4] W fun e w'=>e= O (X #[.int I 1,.int I 0,.int I 0,.int I 0,.int I 1,.int I 0,.int I 3,.int I 0,.int I 4,.string ⟨#[]⟩])∧Gr W w'):=fun W=>jM 0 3 0 4 W
 have hP2:Hid (∀W,Calls S 37 #[.int I 1,.int I 3,.int I 1,.int I 5] W fun e w'=>e= O (X #[.int I 1,.int I 1,.int I 0,.int I 0,.int I 1,.int I 0,.int I 3,.int I 1,.int I 5,.string ⟨#[]⟩])∧Gr W w'):=fun W=>jM 1 3 1 5 W
 have hP3:Hid (∀W,Calls S 37 #[.int I 1,.int I 7,.int I 0,.int I 1] W fun e w'=>e= O (X #[.int I 1,.int I 1,.int I 0,.int I 0,.int I 1,.int I 0,.int I 7,.int I 0,.int I 1,.string ⟨#[]⟩])∧Gr W w'):=fun W=>jM 1 7 0 1 W
 have hDl:Hid (∀W,Calls S 38 #[.int I 2,.int I 7] W fun e w'=>e= O (X #[.int I 1,.int I 2,.int I 0,.int I 0,.int I 2,.int I 0,.int I 7,.int I 0,.int I 0,.string ⟨#[]⟩])∧Gr W w'):=fun W=>xe 2 7 W
 have hP4:Hid (∀W,Calls S 37 #[.int I 3,.int I 7,.int I 2,.int I 9] W fun e w'=>e= O (X #[.int I 1,.int I 3,.int I 0,.int I 0,.int I 1,.int I 0,.int I 7,.int I 2,.int I 9,.string ⟨#[]⟩])∧Gr W w'):=fun W=>jM 3 7 2 9 W
 have one:Hid (∀ {W:World} {M M':NetM} {Q:Nat→List (List Stp)} (y:Hap),y.k=1→aV w W w.heap.size M Q→bq M y=0→aj M y=M'→Calls S 11 #[.pointer (some ⟨w.heap.size,0,none⟩),X (bH (y,[])).toArray] W fun e w'=>e= O (.int I 0)∧aV w w' w.heap.size M' Q∧Wr w.heap.size 0 153 W w'):=by
  intro W M M' Q y hk hL h0 hM
  refine (doL hL hr (y,[]) (nZ _)).mono ?_
  rintro e w' ⟨er,Q',rfl,f1,f2,f3⟩
  obtain ⟨rfl,rfl⟩:=f1.ok (by show y.k≠5;omega)
  rw[←hM]
  exact ⟨by rw[show bq M (y,([]:List UInt8)).1=0 from h0],f2,f3⟩
 have hI3:Hid (NInv 3 N3):=i3
 have hI6:Hid (NInv 5 N6∧∀i,i<4→(d8 N6).s i=tRR):=⟨i6,hR⟩
 obtain ⟨sN,hs⟩:∃sN:Nat→NetM,sN 0=aG∧sN 3=N3∧∀k (hk:k<sdH.length),sdH[k].1.k=1∧sdH[k].2=[]∧bq (sN k) sdH[k].1=0∧aj (sN k) sdH[k].1=sN (k+1) :=
  ⟨fun k=>match k with|0=>aG|1=>N1|2=>N2|_=>N3,rfl,rfl,fun k hk=>match k,hk with|0,_=>⟨rfl,rfl,e1,m1⟩|1,_=>⟨rfl,rfl,e2,m2⟩|2,_=>⟨rfl,rfl,e3,m3⟩⟩
 have hE:Hid _:=hs
 have hE5:Hid (bq (d8 N3) (mw 2 7)=0∧aj (d8 N3) (mw 2 7)=N5):=⟨e5,m5⟩
 have hE6:Hid (bq N5 (dF 3 7 2 9)=0∧aj N5 (dF 3 7 2 9)=N6):=⟨e6,m6⟩
 clear hs e1 m1 e2 m2 e3 m3 i3 e5 m5 e6 m6 i6 hR hr
 go_enter Tryz.func16,Tryz.ntmps16
 go_wp2_with fail
 refine cM (show Calls _ _ _ _ _ from hN.out) ?_
 rintro e w1 ⟨rfl,f1,f2⟩
 have hI1:Hid (aV w w1 w.heap.size aG (fun _=>[])):=aV.new (bR _ _) f1 f2
 clear f1 f2 hN
 go_wp2_with fail
 refine cM (hP1.out _) ?_
 rintro e w2 ⟨rfl,g2⟩
 have hg2:Hid (Gr w1 w2):=g2
 clear g2 hP1
 go_wp2_with fail
 refine cM (hP2.out _) ?_
 rintro e w3 ⟨rfl,g3⟩
 have hg3:Hid (Gr w1 w3):=hg2.out.trans g3
 clear g3 hP2 hg2
 go_wp2_with fail
 refine cM (hP3.out _) ?_
 rintro e w4 ⟨rfl,g4⟩
 have hg4:Hid (Gr w1 w4):=hg3.out.trans g4
 clear g4 hP3 hg3
 obtain ⟨w5,hw5⟩:∃W,w4.alloc (J #[.int I 1,.int I 0,.int I 0,.int I 0,.int I 1,.int I 0,.int I 3,.int I 0,.int I 4,.string ⟨#[]⟩,.int I 1,.int I 1,.int I 0,.int I 0,.int I 1,.int I 0,.int I 3,.int I 1,.int I 5,.string ⟨#[]⟩,.int I 1,.int I 1,.int I 0,.int I 0,.int I 1,.int I 0,.int I 7,.int I 0,.int I 1,.string ⟨#[]⟩] 30)=W:=⟨_,rfl⟩
 have hI:Hid (aV w w5 w.heap.size (sN 0) (fun _=>[])∧Cls w5 w4.heap.size (aI bH sdH)∧w.heap.size<w4.heap.size):=by
  have hg:=hg4.out.below
  have hg5:Gr w4 w5:=by rw[←hw5];exact (gR w4).alloc _
  obtain ⟨⟨P,hP,_⟩,_⟩:=hI1.out
  rw[hE.out.1]
  exact ⟨(hI1.out.below hg).below hg5.below,by rw[←hw5];exact Cls.new w4 _ _,nL hP.lt hg.size⟩
 clear hg4 hI1
 go_wp2
 try rw[hw5]
 clear hw5
 go_loopw [15] (fun v15 wr=>∃k:Nat,k≤3∧v15= .int I k∧Hid (aV w wr w.heap.size (sN k) (fun _=>[])∧Cls wr w4.heap.size (aI bH sdH)∧w.heap.size<w4.heap.size)) (fun v15 _=>3-(intOf v15).toNat)
 case atStart=>exact ⟨0,by omega,rfl,hI⟩
 clear hI
 rename World=>wr
 obtain ⟨k,hk,rfl,hI⟩:=hrel
 by_cases hk3:k<3
 ·have hkz:(k:Int)<3:=by omega
  obtain ⟨h1,h2,h3,h4⟩:=hE.out.2.2 k hk3
  obtain ⟨y,hy⟩:∃y,sdH[k]'hk3=(y,[]):=⟨(sdH[k]'hk3).1,by rw[←h2]⟩
  rw[hy] at h1 h3 h4
  have hf:=iL fR sdH k hk3
  rw[hy] at hf
  have c0:=hI.out.2.1.cell (j:=k*10+0) (hf 0 (by omega))
  have c1:=hI.out.2.1.cell (j:=k*10+1) (hf 1 (by omega))
  have c2:=hI.out.2.1.cell (j:=k*10+2) (hf 2 (by omega))
  have c3:=hI.out.2.1.cell (j:=k*10+3) (hf 3 (by omega))
  have c4:=hI.out.2.1.cell (j:=k*10+4) (hf 4 (by omega))
  have c5:=hI.out.2.1.cell (j:=k*10+5) (hf 5 (by omega))
  have c6:=hI.out.2.1.cell (j:=k*10+6) (hf 6 (by omega))
  have c7:=hI.out.2.1.cell (j:=k*10+7) (hf 7 (by omega))
  have c8:=hI.out.2.1.cell (j:=k*10+8) (hf 8 (by omega))
  have c9:=hI.out.2.1.cell (j:=k*10+9) (hf 9 (by omega))
  rw[Nat.add_zero] at c0
  go_upto_region 5 with fail
  obtain ⟨wb,hwb⟩:∃W,wr.alloc (J #[.int I y.k,.int I y.a,.int I y.b,.int I y.n,.int I y.e1,.int I y.e2,.int I y.e3,.int I y.e4,.int I y.e5,.string ⟨#[]⟩] 30)=W:=⟨_,rfl⟩
  have hgb:Gr wr wb:=by rw[←hwb];exact (gR _).alloc _
  have hBx:Cls wb wr.heap.size [.int I y.k,.int I y.a,.int I y.b,.int I y.n,.int I y.e1,.int I y.e2,.int I y.e3,.int I y.e4,.int I y.e5,.string ⟨#[]⟩]:=by rw[←hwb];exact Cls.new _ _ _
  obtain ⟨b0,b1,b2,b3,b4,b5,b6,b7,b8,b9⟩:=fP hBx
  have hD:Hid _:=one.out y h1 (hI.out.1.below hgb.below) h3 h4
  have hSb:Hid (Cls wb w4.heap.size (aI bH sdH)∧w.heap.size<w4.heap.size):=⟨hI.out.2.1.gr hgb,hI.out.2.2⟩
  rw[hwb]
  clear hgb hBx hf hy h1 h2 h3 h4 hI hwb c0 c1 c2 c3 c4 c5 c6 c7 c8 c9
  go_wp2_with fail
  refine cM (show Calls _ _ _ _ _ from hD.out) ?_
  rintro e wd ⟨rfl,f1,f2⟩
  have hF:Hid (aV w wd w.heap.size (sN (k+1)) (fun _=>[])∧Cls wd w4.heap.size (aI bH sdH)∧w.heap.size<w4.heap.size):=⟨f1,hSb.out.1.keep (f2.oth _ hSb.out.1.lt (by have:=hSb.out.2;omega)),hSb.out.2⟩
  clear f1 f2 hD hSb b0 b1 b2 b3 b4 b5 b6 b7 b8 b9
  go_wp2
  go_roundw
  case rel=>exact ⟨k+1,by omega,by go_num,hF⟩
  case measure=>simp[intOf];omega
 have hkz:¬(k:Int)<3:=by omega
 obtain rfl:k=3:=by omega
 rw[hE.out.2.1] at hI
 have hM1:Hid _:=tQ hI.out.1 hI3.out
 go_wp2_with fail
 refine cM (show Calls _ _ _ _ _ from hM1.out) ?_
 rintro e w6 ⟨rfl,f1,f2⟩
 have hJ:Hid (aV w w6 w.heap.size (d8 N3) (fun _=>[])):=f1
 clear f1 f2 hM1 hI
 go_wp2_with fail
 refine cM (hDl.out _) ?_
 rintro e w7 ⟨rfl,g7⟩
 have hD:Hid _:=one.out (mw 2 7) rfl (hJ.out.below g7.below) hE5.out.1 hE5.out.2
 clear g7 hDl hJ
 go_wp2_with fail
 refine cM (show Calls _ _ _ _ _ from hD.out) ?_
 rintro e w8 ⟨rfl,f1,f2⟩
 have hJ:Hid (aV w w8 w.heap.size N5 (fun _=>[])):=f1
 clear f1 f2 hD
 go_wp2_with fail
 refine cM (hP4.out _) ?_
 rintro e w9 ⟨rfl,g9⟩
 have hD:Hid _:=one.out (dF 3 7 2 9) rfl (hJ.out.below g9.below) hE6.out.1 hE6.out.2
 clear g9 hP4 hJ
 go_wp2_with fail
 refine cM (show Calls _ _ _ _ _ from hD.out) ?_
 rintro e w10 ⟨rfl,f1,f2⟩
 have hJ:Hid (aV w w10 w.heap.size N6 (fun _=>[])):=f1
 clear f1 f2 hD
 have hM1:Hid _:=tQ hJ.out hI6.out.1
 go_wp2_with fail
 refine cM (show Calls _ _ _ _ _ from hM1.out) ?_
 rintro e w11 ⟨rfl,f1,f2⟩
 have hK:Hid (aV w w11 w.heap.size (d8 N6) (fun _=>[])):=f1
 clear f1 f2 hM1 hJ
 go_wp2
 go_loopw [44] (fun v44 wr=>∃i:Nat,i≤4∧v44= .int I i∧Hid (aV w wr w.heap.size (d8 N6) (fun _=>[]))) (fun v44 _=>4-(intOf v44).toNat)
 case atStart=>exact ⟨0,by omega,rfl,hK⟩
 case round =>
  obtain ⟨i,hi,rfl,hJ⟩:=hrel
  by_cases hi4:i<4
  rotate_left
  ·have hz:¬(i:Int)<4:=by omega
   go_wp2
   go_ret
   exact ⟨rfl,hJ.out.2.1⟩
  have hiz:(i:Int)<4:=by omega
  have t0:Calls S 14 #[.pointer (some ⟨w.heap.size,0,none⟩),.int I i,.int I 0] wr fun e w'=>∃v,e= O (.tuple #[v,.int I 0])∧TbV wr.heap.size w' v tRR∧Below wr.heap.size wr w':=by
   obtain ⟨⟨P,hP,_⟩,_⟩:=hJ.out
   have:=lN hP i hi4
   rwa [hI6.out.2 i hi4] at this
  have hT0:Hid _:=t0
  clear t0
  go_wp2_with fail
  refine cM (show Calls _ _ _ _ _ from hT0.out) ?_
  rintro e w2 ⟨v,rfl,⟨A,ca,D,cd,rfl,f1⟩,f2⟩
  obtain ⟨w3,hw3⟩:∃W,w2.alloc (J #[.int I tRR.c.c0,.int I tRR.c.c1,.int I tRR.c.c2,.int I tRR.c.c3,Y A tRR.c.l.length ca,Y D tRR.e.length cd] 41)=W:=⟨_,rfl⟩
  have hg3:Gr w2 w3:=by rw[←hw3];exact (gR w2).alloc _
  have hBx:Cls w3 w2.heap.size (T6 tRR A ca D cd):=by rw[←hw3];exact Cls.new w2 _ _
  obtain ⟨b0,b1,b2,b3,b4,b5⟩:=gw hBx
  have o0:=xG tRR A ca D cd w3 (by decide) (by decide) (f1.row.gr hg3) (f1.cel.gr hg3)
  rw[sd8.1,sd8.2] at o0
  have hO:Hid _:=o0
  have hB3:Hid (aV w w3 w.heap.size (d8 N6) (fun _=>[])):=(hJ.out.below f2).below hg3.below
  clear o0 f1 f2 hg3 hBx hT0 hJ
  go_wp2_with fail
  try rw[hw3]
  clear hw3
  refine cM (show Calls _ _ _ _ _ from hO.out) ?_
  rintro e w4 ⟨L,C,c,rfl,g1,g2,g3,g4⟩
  obtain ⟨W,hW⟩:∃W,((w4.alloc (J #[.int I 3,.int I 4,.int I 5,.int I 0] 3)).alloc (J #[.int I 7,.int I 0,.int I 0,.int I 9] 3)).alloc (J #[Y (some ⟨w4.heap.size,0,none⟩) 4 4,.int I 1,Y (some ⟨w4.heap.size+1,0,none⟩) 4 4,.int I 1] 101)=W:=⟨_,rfl⟩
  have hgW:Gr w4 W:=by rw[←hW];exact (((gR w4).alloc _).alloc _).alloc _
  have hS:Hid (Calls S 25 #[Y C L.length c,Y (some ⟨w4.heap.size+2,0,none⟩) 2 2] W fun e w'=>e= O (.bool true)∧Gr W w'):=by
   have h2:au aQ 2 W (some ⟨w4.heap.size+2,0,none⟩) [⟨some ⟨w4.heap.size,0,none⟩,4,[3,4,5,0],1⟩,⟨some ⟨w4.heap.size+1,0,none⟩,4,[7,0,0,9],1⟩]:=by rw[←hW];exact gK bL (by simp) _ _ _ rfl
   have r1:ay W (some ⟨w4.heap.size,0,none⟩) [3,4,5,0]:=by rw[←hW];exact ((gK (enc:=fp) (k:=1) bZ (W:=w4) rfl [3,4,5,0] 3 _ rfl).gr ((gR _).alloc _)).gr ((gR _).alloc _)
   have r2:ay W (some ⟨w4.heap.size+1,0,none⟩) [7,0,0,9]:=by rw[←hW];exact (gK (enc:=fp) (k:=1) bZ (W:=w4.alloc (J #[.int I 3,.int I 4,.int I 5,.int I 0] 3)) (by simp) [7,0,0,9] 3 _ rfl).gr ((gR _).alloc _)
   have hl:L.length≤maxLen:=by
    have:=congrArg List.length g1
    rw[List.length_map] at this
    rw[this]
    decide
   have hs:=kJ L [⟨some ⟨w4.heap.size,0,none⟩,4,[3,4,5,0],1⟩,⟨some ⟨w4.heap.size+1,0,none⟩,4,[7,0,0,9],1⟩] C (some ⟨w4.heap.size+2,0,none⟩) c 2 W hl (g2.gr hgW) ⟨h2,fun x hx=>by
    rcases List.mem_cons.1 hx with rfl|hx
    ·exact ⟨r1,(show (4:Nat)≤maxLen by decide),fun h=>by cases h⟩
    ·rw[List.mem_singleton.1 hx]
     exact ⟨r2,(show (4:Nat)≤maxLen by decide),fun h=>by cases h⟩⟩
   rw[g1] at hs
   exact hs
  have hB4:Hid (aV w W w.heap.size (d8 N6) (fun _=>[])):=(hB3.out.below g4).below hgW.below
  clear g1 g2 g3 g4 hgW hO hB3
  go_wp2_with fail
  try rw[hW]
  clear hW
  refine cM (show Calls _ _ _ _ _ from hS.out) ?_
  rintro e w5 ⟨rfl,g5⟩
  have hB5:Hid (aV w w5 w.heap.size (d8 N6) (fun _=>[])):=hB4.out.below g5.below
  clear g5 hS hB4
  go_wp2
  go_roundw
  case rel=>exact ⟨i+1,by omega,by go_num,hB5⟩
  case measure=>simp[intOf];omega
section
open Go.ChangeShapes Go.WideShapes Go.ChangeAt Go.Deep

variable {H:Type} {enc:TypeId×Value→H} {W:World}

theorem mN {r:Reach} {b0:Nat} {v:Value} {d:DataW H} {p:List MemPlace} (hv:Value.okWide S W r b0 23 v) (h:DataW.Trod enc S W 0 (fun _=>true) true 23 v d p):∃A cap l,v= Y A (l:List Int).length cap∧ay W A l:=by
 obtain ⟨aL,lenL,capL,rfl⟩:=okWide_slice Tryz.underlying23 hv
 obtain ⟨fuel,hf⟩:=h
 obtain ⟨A,cap,l,hcs,_,hr,_⟩:=xK hf
 simp[Value.cells] at hcs
 obtain ⟨rfl,rfl,rfl⟩:=hcs
 exact ⟨aL,capL,l,rfl,hr⟩
theorem Ay {cs:List Value} (h:cs.length=10):∃a b c d e f g h i j,cs=[a,b,c,d,e,f,g,h,i,j]:=by
 match cs,h with
 | [a,b,c,d,e,f,g,h,i,j],_=>exact ⟨a,b,c,d,e,f,g,h,i,j,rfl⟩
theorem zB {fuel:Nat} {v0 v1 v2 v3 v4:Value} {x:DataW H×List MemPlace} (h:DataW.trod enc S W 0 (fun _=>true) true fuel 28 [v0,v1,v2,v3,v4]=some x):∃z0 z1 z2 z3 z4:Int,[v0,v1,v2,v3,v4]=[.int I z0,.int I z1,.int I z2,.int I z3,.int I z4]:=by
 obtain ⟨xs,n,_,_,_,hxl,hf⟩:=DataW.trod_struct Tryz.underlying28 h
 have c1:Tryz.prog.cellsOf 3=1:=by kernel_rfl
 have hx5:xs.length=5:=hxl
 match xs,hx5 with
 | [y0,y1,y2,y3,y4],_ =>
  have g0:=hf 0 _ rfl
  have g1:=hf 1 _ rfl
  have g2:=hf 2 _ rfl
  have g3:=hf 3 _ rfl
  have g4:=hf 4 _ rfl
  simp[c1] at g0 g1 g2 g3 g4
  obtain ⟨z0,e0,_⟩:=DataW.trod_int Tryz.underlying3 g0
  obtain ⟨z1,e1,_⟩:=DataW.trod_int Tryz.underlying3 g1
  obtain ⟨z2,e2,_⟩:=DataW.trod_int Tryz.underlying3 g2
  obtain ⟨z3,e3,_⟩:=DataW.trod_int Tryz.underlying3 g3
  obtain ⟨z4,e4,_⟩:=DataW.trod_int Tryz.underlying3 g4
  simp only[List.cons.injEq,and_true] at e0 e1 e2 e3 e4
  exact ⟨z0,z1,z2,z3,z4,by rw[e0,e1,e2,e3,e4]⟩
theorem xJ {fuel:Nat} {cs:List Value} {x:DataW H×List MemPlace} (hl:cs.length=10) (h:DataW.trod enc S W 0 (fun _=>true) true fuel 30 cs=some x):∃y:Hap×List UInt8,cs=bH y∧y.2.length≤maxLen:=by
 obtain ⟨v0,v1,v2,v3,v4,v5,v6,v7,v8,v9,rfl⟩:=Ay hl
 obtain ⟨xs,n,_,_,_,hxl,hf⟩:=DataW.trod_struct Tryz.underlying30 h
 have c1:Tryz.prog.cellsOf 3=1:=by kernel_rfl
 have c5:Tryz.prog.cellsOf 28=5:=by kernel_rfl
 have cs:Tryz.prog.cellsOf 9=1:=by kernel_rfl
 have hx6:xs.length=6:=hxl
 match xs,hx6 with
 | [y0,y1,y2,y3,y4,y5],_ =>
  have g0:=hf 0 _ rfl
  have g1:=hf 1 _ rfl
  have g2:=hf 2 _ rfl
  have g3:=hf 3 _ rfl
  have g4:=hf 4 _ rfl
  have g5:=hf 5 _ rfl
  simp[c1,c5,cs] at g0 g1 g2 g3 g4 g5
  obtain ⟨z0,e0,_⟩:=DataW.trod_int Tryz.underlying3 g0
  obtain ⟨z1,e1,_⟩:=DataW.trod_int Tryz.underlying3 g1
  obtain ⟨z2,e2,_⟩:=DataW.trod_int Tryz.underlying3 g2
  obtain ⟨z3,e3,_⟩:=DataW.trod_int Tryz.underlying3 g3
  obtain ⟨k1,k2,k3,k4,k5,e4⟩:=zB g4
  obtain ⟨s,e5,_,hs⟩:=DataW.trod_string Tryz.underlying9 g5
  simp only[List.cons.injEq,and_true] at e0 e1 e2 e3 e4 e5
  refine ⟨(⟨z0,z1,z2,z3,k1,k2,k3,k4,k5⟩,s.data.toList),?_,by simpa using hs⟩
  rw[e0,e1,e2,e3,e4.1,e4.2.1,e4.2.2.1,e4.2.2.2.1,e4.2.2.2.2,e5]
  rfl
theorem fe {r:Reach} {b0:Nat} {v:Value} {d:DataW H} {p:List MemPlace} (hv:Value.okWide S W r b0 22 v) (h:DataW.Trod enc S W 0 (fun _=>true) true 22 v d p) :
  ∃A cap l,v= Y A (l:List (Hap×List UInt8)).length cap∧au bH 10 W A l∧l.length≤maxLen∧∀x∈l,x.2.length≤maxLen:=by
 obtain ⟨aL,lenL,capL,rfl⟩:=okWide_slice Tryz.underlying22 hv
 obtain ⟨fuel,hf⟩:=h
 rcases open_slice Tryz.underlying22 hf with ⟨hcs,_⟩|⟨a,len,cap,m,n,D,Pl,hcs,_,hl,hm,hmm,hx,hi⟩
 ·simp[Value.cells] at hcs
  obtain ⟨rfl,rfl,rfl⟩:=hcs
  exact ⟨none,0,[],rfl,oL rfl,by simp,fun x hx=>by cases hx⟩
 ·simp[Value.cells] at hcs
  obtain ⟨rfl,rfl,rfl⟩:=hcs
  have c2:Tryz.prog.cellsOf 30=10:=by kernel_rfl
  have hlm:lenL≤m:=by rw[hmm];simp;exact hl
  haveI:Inhabited (Hap×List UInt8):=⟨(⟨0,0,0,0,0,0,0,0,0⟩,[])⟩
  obtain ⟨Z,hZ⟩:=choose_lt (α := Hap×List UInt8) (n:=lenL) (p:=fun i z=>(∀j,j<10→W.cell? (a.add (i*10+j))=(bH z)[j]?)∧z.2.length≤maxLen) (fun i hi'=>by
   obtain ⟨cs',h1,h2⟩:=hi i (by omega)
   rw[c2] at h1
   obtain ⟨_,hlen,hcell⟩:=World.cells?_some h1
   obtain ⟨y,hy,hy2⟩:=xJ hlen h2
   refine ⟨y,fun j hj=> ?_,hy2⟩
   have:=hcell j (by omega)
   rw[add_add] at this
   rw[this,←hy,List.getElem?_eq_getElem (by omega)])
  refine ⟨some a,capL,(List.range lenL).map Z,by simp,?_,by simp;omega,fun x hx=> ?_⟩
  ·by_cases h0:lenL=0
   ·exact oL (by rw[h0];rfl)
   ·have hc0:=(hZ 0 (by omega)).1 0 (by omega)
    obtain ⟨b,off,spot⟩:=a
    have hc1:W.cell? (Addr.add ⟨b,off,spot⟩ (0*10+0))=some (.int I (Z 0).1.k):=hc0
    have hspot:spot=none:=by simpa[Addr.add] using World.cell?_spot hc1
    subst hspot
    refine oR ⟨b,off,rfl,?_,fun j hj i hi5=> ?_⟩
    ·have:=World.block_lt_of_cell? W _ hc1
     simpa[Addr.add_lit] using this
    ·have hj':j<lenL:=by simpa using hj
     have:=(hZ j hj').1 i hi5
     simp only[Addr.add_lit,←Nat.add_assoc] at this
     simpa using this
  ·obtain ⟨i,hi',rfl⟩:=List.mem_map.1 hx
   exact (hZ i (by simpa using hi')).2
theorem wW {v:Value} {d:DataW H} {p:List MemPlace} (h:DataW.Trod enc S W 0 (fun _=>true) true 22 v d p) {A:Option Addr} {n c:Nat} (e:v= Y A n c):n≤c:=by
 subst e
 obtain ⟨fuel,hf⟩:=h
 rcases open_slice Tryz.underlying22 hf with ⟨hcs,_⟩|⟨a,len,cap,m,n,D,Pl,hcs,_,hl,_⟩
 ·simp[Value.cells] at hcs
  obtain ⟨rfl,rfl,rfl⟩:=hcs
  exact nR _
 ·simp[Value.cells] at hcs
  obtain ⟨rfl,rfl,rfl⟩:=hcs
  exact hl
end
end Go.Proofs.YtkefkplnamkicaaGreatDoor
