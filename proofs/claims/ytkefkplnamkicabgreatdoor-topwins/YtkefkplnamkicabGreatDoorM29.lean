import Derived.Test.YtkefkplnamkicabGreatDoorM28
import Derived.ChangeMaps5
set_option maxRecDepth 100000
set_option maxHeartbeats 8000000
open Go.Ending renaming returned → S
open Go.IntKind renaming i64 → I
open Go.Obj renaming cells → O
open Go.Proofs.Tryz renaming prog → V
namespace Go.Proofs.YtkefkplnamkicabGreatDoor
open Go.RowKit Go.Sort


theorem oC {T:Tab} (hT:am T=0) (i key:Int):am (doT T i 2 key 0 0)=0∧(∀y,y∈(doT T i 2 key 0 0).e↔y∈T.e∧y.2.1≠key)∧∀d,ae (doT T i 2 key 0 0).c d=true↔ae T.c d=true:=by
 have e1:edE T i 2 key 0 0=dF T key:=by unfold edE;rw[if_neg (by decide),if_pos rfl]
 have e2:edT T i 2 key 0 0=⟨ch T key,[]⟩:=by unfold edT;rw[if_neg (by decide),if_pos rfl]
 by_cases h0:dF T key=0
 ·obtain ⟨_,_,hm,hc⟩:=gY h0
  have hE:doE T i 2 key 0 0=0:=by unfold doE;rw[e1,if_pos h0,e2];exact hm
  have hD:doT T i 2 key 0 0=ac T ⟨ch T key,[]⟩:=by unfold doT;rw[if_pos hE,e2]
  rw[hD]
  refine ⟨cP hm,hc,fun d=> ?_⟩
  rw[mT hm]
  exact ⟨fun hh=>hh.elim id fun hh=>rv h0 d hh,oL⟩
 ·have hE:doE T i 2 key 0 0≠0:=by unfold doE;rw[e1,if_neg h0];exact h0
  have hD:doT T i 2 key 0 0=T:=by unfold doT;rw[if_neg hE]
  rw[hD]
  have hk:=ur hT h0
  refine ⟨hT,fun y=>⟨fun hy=>⟨hy,fun e=>hk (List.mem_map.2 ⟨y,hy,e⟩)⟩,fun hy=>hy.1⟩,fun d=>Iff.rfl⟩
section
variable {U:List Cel} {x:Nat→Tab} {ps:List Tab}
theorem wn (h:Lane U x ps) {T:Tab} (hT:am T=0) {key col v:Int} {N:Int×Int} (hN:ae T.c N=false) (c1:∀y,y∈(x 1).e↔(y∈T.e∧cI key col y=false)∨y=(N,key,col,v)) (d1:∀d,ae (x 1).c d=true↔ae T.c d=true∨d=N)
  (cs:∀i,i=0∨i=2∨i=3→(∀y,y∈(x i).e↔y∈T.e∧y.2.1≠key)∧∀d,ae (x i).c d=true↔ae T.c d=true):∀y,y∈(jD x).e↔(y∈T.e∧y.2.1≠key)∨y=(N,key,col,v):=by
 have hU:=h.uni
 have hTh:∀y∈T.e,ae T.c y.1=true:=fun y hy=>bK hT hy
 have nf:∀ {c:Ctx} {d:Int×Int},ae c d=true→¬ae c d=false:=fun h k=>by rw[h] at k;cases k
 have hf:∀y:Cel,y.2.1≠key→cI key col y=false:=fun y hy=>by simp[cI,hy]
 obtain ⟨_,s1,k1,m1⟩:=Sub.merge hU (h.sub 0) (h.sub 1)
 obtain ⟨_,s2,k2,m2⟩:=Sub.merge hU s1 (h.sub 2)
 obtain ⟨_,s3,k3,m3⟩:=Sub.merge hU s2 (h.sub 3)
 have step:∀ {a b:Tab} {R:Tab},(∀y,y∈R.e↔(y∈a.e∧y∈b.e)∨(y∈a.e∧ae b.c y.1=false)∨(y∈b.e∧ae a.c y.1=false))→(∀d,ae R.c d=true↔ae a.c d=true∨ae b.c d=true)→(∀y,y∈a.e↔(y∈T.e∧y.2.1≠key)∨y=(N,key,col,v))→(∀d,ae a.c d=true↔ae T.c d=true∨d=N)→(∀y,y∈b.e↔y∈T.e∧y.2.1≠key)→(∀d,ae b.c d=true↔ae T.c d=true)→(∀y,y∈R.e↔(y∈T.e∧y.2.1≠key)∨y=(N,key,col,v))∧∀d,ae R.c d=true↔ae T.c d=true∨d=N:=by
  intro a b R hm hk ha hda hb hdb
  refine ⟨fun y=> ?_,fun d=> ?_⟩
  ·rw[hm,ha,hb]
   constructor
   ·rintro (⟨hy,_⟩|⟨hy,_⟩|⟨hy,hn⟩)
    ·exact hy
    ·exact hy
    ·exact absurd hn (nf ((hda _).2 (oL (hTh y hy.1))))
   ·rintro (hy|hy)
    ·exact oL ⟨oL hy,hy⟩
    ·refine oR (oL ⟨oR hy,?_⟩)
     rw[hy]
     cases hh:ae b.c N
     ·rfl
     ·rw[(hdb N).1 hh] at hN;cases hN
  ·rw[hk,hda,hdb]
   constructor
   ·rintro (hh|hh)
    ·exact hh
    ·exact oL hh
   ·exact oL
 have a1:(∀y,y∈(ac (x 0) (x 1)).e↔(y∈T.e∧y.2.1≠key)∨y=(N,key,col,v))∧∀d,ae (ac (x 0) (x 1)).c d=true↔ae T.c d=true∨d=N:=by
  obtain ⟨c0,d0⟩:=cs 0 (oL rfl)
  refine ⟨fun y=> ?_,fun d=> ?_⟩
  ·rw[m1,c0,c1]
   constructor
   ·rintro (⟨hy,_⟩|⟨hy,_⟩|⟨hy|hy,hn⟩)
    ·exact oL hy
    ·exact oL hy
    ·exact absurd hn (nf ((d0 _).2 (hTh y hy.1)))
    ·exact oR hy
   ·rintro (hy|hy)
    ·exact oL ⟨hy,oL ⟨hy.1,hf y hy.2⟩⟩
    ·refine oR (oR ⟨oR hy,?_⟩)
     rw[hy]
     cases hh:ae (x 0).c N
     ·rfl
     ·rw[(d0 N).1 hh] at hN;cases hN
  ·rw[k1,d0,d1]
   constructor
   ·rintro (hh|hh)
    ·exact oL hh
    ·exact hh
   ·exact oR
 obtain ⟨c2,d2⟩:=cs 2 (oR (oL rfl))
 obtain ⟨c3,d3⟩:=cs 3 (oR (oR rfl))
 have a2:=step m2 k2 a1.1 a1.2 c2 d2
 exact (step m3 k3 a2.1 a2.2 c3 d3).1
theorem tQ {R T:Tab} {key col v:Int} {N:Int×Int} (h:∀y,y∈R.e↔(y∈T.e∧y.2.1≠key)∨y=(N,key,col,v)):aX (aK key col R.e)=[v]:=by
 refine vw fun x=> ?_
 rw[jn]
 constructor
 ·rintro ⟨y,hy,hf,e⟩
  rcases (h y).1 hy with k|k
  ·simp[cI] at hf
   exact absurd hf.1 k.2
  ·rw[←e,k]
 ·intro e
  exact ⟨(N,key,col,v),(h _).2 (oR rfl),by simp[cI],e.symm⟩
theorem uJ (h:Lane U x ps) {T:Tab} (hT:am T=0) {key:Int} {k:Nat} (hk:k<4) (ck:(∀y,y∈(x k).e↔y∈T.e∧y.2.1≠key)∧∀d,ae (x k).c d=true↔ae T.c d=true) (co:∀i,i<4→i≠k→x i=T):∀y,y∈(jD x).e↔y∈T.e∧y.2.1≠key:=by
 have hU:=h.uni
 have hTh:∀y∈T.e,ae T.c y.1=true:=fun y hy=>bK hT hy
 have nf:∀ {c:Ctx} {d:Int×Int},ae c d=true→¬ae c d=false:=fun h k=>by rw[h] at k;cases k
 have hc:∀i,i<4→∀d,ae (x i).c d=true↔ae T.c d=true:=fun i hi d=>by
  by_cases e:i=k
  ·subst e;exact ck.2 d
  ·rw[co i hi e]
 have hs:∀i,i<4→∀y,y∈(x i).e→y∈T.e:=fun i hi y hy=>by
  by_cases e:i=k
  ·subst e;exact ((ck.1 y).1 hy).1
  ·rw[co i hi e] at hy;exact hy
 obtain ⟨_,s1,k1,m1⟩:=Sub.merge hU (h.sub 0) (h.sub 1)
 obtain ⟨_,s2,k2,m2⟩:=Sub.merge hU s1 (h.sub 2)
 obtain ⟨_,s3,k3,m3⟩:=Sub.merge hU s2 (h.sub 3)
 have c1:∀d,ae (ac (x 0) (x 1)).c d=true↔ae T.c d=true:=fun d=>by rw[k1,hc 0 (by omega),hc 1 (by omega),or_self]
 have c2:∀d,ae (ac (ac (x 0) (x 1)) (x 2)).c d=true↔ae T.c d=true:=fun d=>by rw[k2,c1,hc 2 (by omega),or_self]
 have both:∀ {a b R:Tab},(∀y,y∈R.e↔(y∈a.e∧y∈b.e)∨(y∈a.e∧ae b.c y.1=false)∨(y∈b.e∧ae a.c y.1=false))→(∀y∈a.e,y∈T.e)→(∀y∈b.e,y∈T.e)→(∀d,ae a.c d=true↔ae T.c d=true)→(∀d,ae b.c d=true↔ae T.c d=true)→∀y,y∈R.e↔y∈a.e∧y∈b.e:=by
  intro a b R hm ha hb hda hdb y
  rw[hm]
  constructor
  ·rintro (hy|⟨hy,hn⟩|⟨hy,hn⟩)
   ·exact hy
   ·exact absurd hn (nf ((hdb _).2 (hTh y (ha y hy))))
   ·exact absurd hn (nf ((hda _).2 (hTh y (hb y hy))))
  ·exact oL
 have b1:=both m1 (hs 0 (by omega)) (hs 1 (by omega)) (hc 0 (by omega)) (hc 1 (by omega))
 have b2:=both m2 (fun y hy=>hs 0 (by omega) y ((b1 y).1 hy).1) (hs 2 (by omega)) c1 (hc 2 (by omega))
 have b3:=both m3 (fun y hy=>hs 0 (by omega) y ((b1 y).1 ((b2 y).1 hy).1).1) (hs 3 (by omega)) c2 (hc 3 (by omega))
 have hin:∀i,i<4→∀y,y∈T.e→y.2.1≠key→y∈(x i).e:=fun i hi y hy hne=>by
  by_cases e:i=k
  ·subst e;exact (ck.1 y).2 ⟨hy,hne⟩
  ·rw[co i hi e];exact hy
 intro y
 show y∈(ac (ac (ac (x 0) (x 1)) (x 2)) (x 3)).e↔_
 rw[b3,b2,b1]
 constructor
 ·rintro ⟨⟨⟨y0,y1⟩,y2⟩,y3⟩
  refine ⟨hs 0 (by omega) y y0,?_⟩
  match k,hk,ck with
  | 0,_,ck=>exact ((ck.1 y).1 y0).2
  | 1,_,ck=>exact ((ck.1 y).1 y1).2
  | 2,_,ck=>exact ((ck.1 y).1 y2).2
  | 3,_,ck=>exact ((ck.1 y).1 y3).2
 ·rintro ⟨hy,hne⟩
  exact ⟨⟨⟨hin 0 (by omega) y hy hne,hin 1 (by omega) y hy hne⟩,hin 2 (by omega) y hy hne⟩,hin 3 (by omega) y hy hne⟩
theorem sF {R T:Tab} {key:Int} (h:∀y,y∈R.e↔y∈T.e∧y.2.1≠key):key ∉ aX (aT R.e)∧∀k col,k≠key→aX (aK k col R.e)=aX (aK k col T.e):=by
 refine ⟨fun hm=> ?_,fun k col hk=> ?_⟩
 ·obtain ⟨y,hy,e⟩:=List.mem_map.1 (((bW _).2 _).1 hm)
  exact ((h y).1 hy).2 e
 ·refine py (bW _).1 (bW _).1 fun x=> ?_
  rw[(bW _).2,(bW _).2,jn,jn]
  constructor
  ·rintro ⟨y,hy,hf,e⟩
   exact ⟨y,((h y).1 hy).1,hf,e⟩
  ·rintro ⟨y,hy,hf,e⟩
   refine ⟨y,(h y).2 ⟨hy,fun e2=> ?_⟩,hf,e⟩
   simp[cI] at hf
   exact hk (hf.1.symm.trans e2)
end
section
open Go.Shelf Go.Lib
set_option linter.unusedSimpArgs false

def uR {α : Type} (le: α → α → Bool) (x: α):List α → List α
 | []=>[x]
 | y::l=>if le x y then x::y::l else y::uR le x l
def isr {α : Type} (le: α → α → Bool):List α → List α
 | []=>[]
 | x::l=>uR le x (isr le l)
theorem oV {α : Type} {le: α → α → Bool} {x: α}:∀(a b:List α),(∀y∈a,le x y=false)→(∀y∈b,le x y=true)→uR le x (a++b)=a++x::b
 | [],[],_,_=>rfl
 | [],y::b,_,h=>by simp[uR,h y (List.mem_cons_self ..)]
 | y::a,b,h,k=>by
  rw[List.cons_append,uR,if_neg (by simp[h y (List.mem_cons_self ..)]),oV a b (fun z hz=>h z (mC _ hz)) k]
  rfl
theorem nU {α : Type} {le: α → α → Bool} (tr:∀a b c,le a b=true→le b c=true→le a c=true) (tl:∀a b,(le a b || le b a)=true):∀l:List α,l.mergeSort le=isr le l
 | []=>by simp[isr]
 | x::l=>by
  obtain ⟨a,b,h1,h2,h3⟩:=List.mergeSort_cons tr tl x l
  have hs:=List.pairwise_mergeSort tr tl (x::l)
  rw[h1] at hs
  rw[isr,←nU tr tl l,h2,h1,oV a b (fun y hy=>by simpa using h3 y hy) fun y hy=> ?_]
  exact (List.pairwise_cons.1 (List.pairwise_append.1 hs).2.1).1 y hy
theorem iY (l:List (Int×Int)):srt l=isr (fun x y=> !ltOf dY y x) l:=by
 unfold srt
 refine nU (fun a b c h1 h2=> ?_) (fun a b=> ?_) l
 ·simp only[ltD,Bool.not_eq_true'] at *
  exact ie (x:=a) (y:=b) (z:=c) h1 h2
 ·simp only[ltD,Bool.or_eq_true,Bool.not_eq_true']
  exact mQ a b
theorem gh (l:List Cel):gg l=isr (fun x y=> !fp y x) l:=by
 unfold gg
 refine nU (fun a b c=> ?_) (fun a b=> ?_) l
 ·simp[fp,br];omega
 ·simp[fp,br];omega
theorem vu (l:List Int):aX l=compact (isr (fun x y=>decide (x≤y)) l):=by
 unfold aX
 rw[nU (fun a b c h1 h2=> ?_) (fun a b=> ?_) l]
 ·simp at h1 h2 ⊢;omega
 ·simp;omega
end
section
open Go.Shelf Go.Lib
set_option linter.unusedSimpArgs false

def tT0:Tab:=⟨⟨1,0,0,0,[]⟩,[((0,1),3,0,4)]⟩
def tTa:Tab:=⟨⟨0,1,0,0,[]⟩,[((1,1),3,1,5)]⟩
def tT1:Tab:=⟨⟨0,2,0,0,[]⟩,[((1,1),3,1,5),((1,2),7,0,1)]⟩
def tMM:Tab:=⟨⟨1,2,0,0,[]⟩,[((0,1),3,0,4),((1,1),3,1,5),((1,2),7,0,1)]⟩
def tD2:Tab:=⟨⟨1,2,0,0,[]⟩,[((0,1),3,0,4),((1,1),3,1,5)]⟩
def tE3:Tab:=⟨⟨1,2,0,1,[]⟩,[((0,1),3,0,4),((1,1),3,1,5),((1,2),7,0,1),((3,1),7,2,9)]⟩
def tRR:Tab:=⟨⟨1,2,0,1,[]⟩,[((0,1),3,0,4),((1,1),3,1,5),((3,1),7,2,9)]⟩
theorem sd1:doE dy 0 1 3 0 4=0∧doT dy 0 1 3 0 4=tT0:=by
 simp only[doT,doE,edE,edT,cT,cF,ak,ac,aC,az,d7,dU,aA,mrg,iY,gh]
 exact ⟨by kernel_rfl,by kernel_rfl⟩
theorem sd2:doE dy 1 1 3 1 5=0∧doT dy 1 1 3 1 5=tTa:=by
 simp only[doT,doE,edE,edT,cT,cF,ak,ac,aC,az,d7,dU,aA,mrg,iY,gh]
 exact ⟨by kernel_rfl,by kernel_rfl⟩
theorem sd3:doE tTa 1 1 7 0 1=0∧doT tTa 1 1 7 0 1=tT1:=by
 simp only[doT,doE,edE,edT,cT,cF,ak,ac,aC,az,d7,dU,aA,mrg,iY,gh]
 exact ⟨by kernel_rfl,by kernel_rfl⟩
theorem sd4:ac (ac (ac tT0 tT1) dy) dy=tMM:=by
 simp only[ak,ac,aC,az,d7,dU,mrg,iY,gh]
 kernel_rfl
theorem sd5:doE tMM 2 2 7 0 0=0∧doT tMM 2 2 7 0 0=tD2:=by
 simp only[doT,doE,edE,edT,dF,ch,ak,ac,aC,az,d7,dU,aA,mrg,iY,gh]
 exact ⟨by kernel_rfl,by kernel_rfl⟩
theorem sd6:doE tMM 3 1 7 2 9=0∧doT tMM 3 1 7 2 9=tE3:=by
 simp only[doT,doE,edE,edT,cT,cF,ak,ac,aC,az,d7,dU,aA,mrg,iY,gh]
 exact ⟨by kernel_rfl,by kernel_rfl⟩
theorem sd7:ac (ac (ac tMM tMM) tD2) tE3=tRR:=by
 simp only[ak,ac,aC,az,d7,dU,mrg,iY,gh]
 kernel_rfl
theorem sd8:am tRR=0∧ofR tRR=[([3,4,5,0],1),([7,0,0,9],1)]:=by
 simp only[ofR,ofL,da,vu]
 exact ⟨by kernel_rfl,by kernel_rfl⟩
end

def cQ (n key col v:Int):Hap:=⟨1,n,0,0,1,0,key,col,v⟩
def cJ (n key:Int):Hap:=⟨1,n,0,0,2,0,key,0,0⟩
theorem gF (n key col v:Int) (w:World):Calls V 9 #[.int I n,.int I key,.int I col,.int I v] w fun e w'=>e= S (.agg (dR (cQ n key col v,[])).toArray)∧Gr w w':=by
 have hg:Hid (Gr w (w.alloc (O (dR (cQ n key col v,[])).toArray 32))):=(gR w).alloc _
 go_enter Tryz.func9,Tryz.ntmps9
 go_wp2
 exact bodyPost_ret (v:= .agg (dR (cQ n key col v,[])).toArray) (by simp[results,Tryz.results9,go_sem,dR,cQ]) rfl ⟨rfl,hg.out⟩
theorem lg (n key:Int) (w:World):Calls V 10 #[.int I n,.int I key] w fun e w'=>e= S (.agg (dR (cJ n key,[])).toArray)∧Gr w w':=by
 have hg:Hid (Gr w (w.alloc (O (dR (cJ n key,[])).toArray 32))):=(gR w).alloc _
 go_enter Tryz.func10,Tryz.ntmps10
 go_wp2
 exact bodyPost_ret (v:= .agg (dR (cJ n key,[])).toArray) (by simp[results,Tryz.results10,go_sem,dR,cJ]) rfl ⟨rfl,hg.out⟩
theorem hed (N:NetM) (y:Hap) (i:Nat) (hk:y.k=1) (ha:y.a=i) (hi:i<4) (h2:y.e2=0):bS N y=doE (N.s i) i y.e1 y.e3 y.e4 y.e5∧aN N y=⟨upd N.s i (doT (N.s i) i y.e1 y.e3 y.e4 y.e5),N.t,N.pk⟩:=by
 have hn:isN y.a:=⟨by omega,by omega⟩
 constructor
 ·unfold bS
  rw[if_pos hk,if_pos hn,ha,Int.toNat_natCast]
  unfold ndE
  rw[if_pos h2]
 ·unfold aN
  rw[if_pos hk,if_pos hn,ha,Int.toNat_natCast]
  unfold rB ndS ndT
  rw[if_pos h2,if_neg (by omega),fM]
theorem yN:∃N1 N2 N3 N5 N6,bS cW (cQ 0 3 0 4)=0∧aN cW (cQ 0 3 0 4)=N1∧bS N1 (cQ 1 3 1 5)=0∧aN N1 (cQ 1 3 1 5)=N2∧bS N2 (cQ 1 7 0 1)=0∧aN N2 (cQ 1 7 0 1)=N3∧NInv 3 N3∧bS (ci N3) (cJ 2 7)=0∧aN (ci N3) (cJ 2 7)=N5∧bS N5 (cQ 3 7 2 9)=0∧aN N5 (cQ 3 7 2 9)=N6∧NInv 5 N6∧∀i,i<4→(ci N6).s i=tRR:=by
 obtain ⟨e1,m1⟩:=hed cW (cQ 0 3 0 4) 0 rfl rfl (by omega) rfl
 have I1:=NInv.new.hap (by omega) (cQ 0 3 0 4)
 have e1:=e1.trans sd1.1
 have m1:=m1.trans (congrArg (fun t=>NetM.mk (upd cW.s 0 t) cW.t cW.pk) sd1.2)
 rw[m1] at I1
 obtain ⟨e2,m2⟩:=hed ⟨upd cW.s 0 tT0,cW.t,cW.pk⟩ (cQ 1 3 1 5) 1 rfl rfl (by omega) rfl
 have I2:=I1.hap (by omega) (cQ 1 3 1 5)
 have e2:=e2.trans sd2.1
 have m2:=m2.trans (congrArg (fun t=>NetM.mk (upd (upd cW.s 0 tT0) 1 t) cW.t cW.pk) sd2.2)
 rw[m2] at I2
 obtain ⟨e3,m3⟩:=hed ⟨upd (upd cW.s 0 tT0) 1 tTa,cW.t,cW.pk⟩ (cQ 1 7 0 1) 1 rfl rfl (by omega) rfl
 have I3:=I2.hap (by omega) (cQ 1 7 0 1)
 have e3:=e3.trans sd3.1
 have m3:=m3.trans (congrArg (fun t=>NetM.mk (upd (upd (upd cW.s 0 tT0) 1 tTa) 1 t) cW.t cW.pk) sd3.2)
 rw[m3] at I3
 obtain ⟨I4,s4,_⟩:=I3.met
 obtain ⟨N4,h4⟩:∃N,ci ⟨upd (upd (upd cW.s 0 tT0) 1 tTa) 1 tT1,cW.t,cW.pk⟩=N:=⟨_,rfl⟩
 rw[h4] at I4 s4
 have a4:∀j,j<4→N4.s j=tMM:=fun j hj=>(s4 j hj).trans sd4
 obtain ⟨e5,m5⟩:=hed N4 (cJ 2 7) 2 rfl rfl (by omega) rfl
 have I5:=I4.hap (by omega) (cJ 2 7)
 rw[a4 2 (by omega)] at e5 m5
 have e5:=e5.trans sd5.1
 have m5:=m5.trans (congrArg (fun t=>NetM.mk (upd N4.s 2 t) N4.t N4.pk) sd5.2)
 rw[m5] at I5
 obtain ⟨e6,m6⟩:=hed ⟨upd N4.s 2 tD2,N4.t,N4.pk⟩ (cQ 3 7 2 9) 3 rfl rfl (by omega) rfl
 have I6:=I5.hap (by omega) (cQ 3 7 2 9)
 have x3:upd N4.s 2 tD2 3=tMM:=(bQ _ _ (by omega)).trans (a4 3 (by omega))
 rw[show (NetM.mk (upd N4.s 2 tD2) N4.t N4.pk).s 3=tMM from x3] at e6 m6
 have e6:=e6.trans sd6.1
 have m6:=m6.trans (congrArg (fun t=>NetM.mk (upd (upd N4.s 2 tD2) 3 t) N4.t N4.pk) sd6.2)
 rw[m6] at I6
 refine ⟨_,_,_,_,_,e1,m1,e2,m2,e3,m3,I3,by rw[h4];exact e5,by rw[h4];exact m5,e6,m6,I6,fun i hi=> ?_⟩
 obtain ⟨_,s7,_⟩:=I6.met
 rw[s7 i hi]
 show ac (ac (ac (upd (upd N4.s 2 tD2) 3 tE3 0) (upd (upd N4.s 2 tD2) 3 tE3 1)) (upd (upd N4.s 2 tD2) 3 tE3 2)) (upd (upd N4.s 2 tD2) 3 tE3 3)=tRR
 rw[show upd (upd N4.s 2 tD2) 3 tE3 0=tMM from a4 0 (by omega),show upd (upd N4.s 2 tD2) 3 tE3 1=tMM from a4 1 (by omega),show upd (upd N4.s 2 tD2) 3 tE3 2=tD2 from rfl,show upd (upd N4.s 2 tD2) 3 tE3 3=tE3 from rfl]
 exact sd7

theorem js {α : Type} {enc: α → List Value} {k:Nat} (hk:∀x,(enc x).length=k) {W:World} {n:Nat} (hn:W.heap.size=n) (l:List α) (T:TypeId) (cs:Array Value) (hcs:cs.toList=aI enc l):ay enc k (W.alloc (O cs T)) (some ⟨n,0,none⟩) l:=by
 subst hn
 refine oR ⟨W.heap.size,0,rfl,by simp,fun j hj i hi=> ?_⟩
 have hg:=gZ hk l j hj i hi
 obtain ⟨v,hv⟩:∃v,(enc l[j])[i]? = some v:=⟨(enc l[j])[i]'(by rw[hk];exact hi),List.getElem?_eq_getElem _⟩
 rw[Nat.zero_add]
 refine ((Cls.new W cs T).cell (v:=v) ?_).trans hv.symm
 rw[hcs,hg]
 exact hv
theorem wy.ok {x:List UInt8} {N:NetM} {y:Hap} {Q Q':Nat→List (List Stp)} {er:Int} (h:wy x N y Q er Q') (hk:y.k≠5):er=bS N y∧Q'=Q:=by
 rcases h with h|h
 ·exact ⟨h.2.1,h.2.2⟩
 ·exact absurd h.1 hk
def sdH:List (Hap×List UInt8):=[(cQ 0 3 0 4,[]),(cQ 1 3 1 5,[]),(cQ 1 7 0 1,[])]
theorem pB (w:World) (hr:Reads w):Calls V 5 #[] w fun e w'=>e= S (.bool true)∧Below w.heap.size w w':=by
 obtain ⟨N1,N2,N3,N5,N6,e1,m1,e2,m2,e3,m3,i3,e5,m5,e6,m6,i6,hR⟩:=yN
 have hN:Hid _:=lz w
 have hP1:Hid (∀W,Calls V 9 #[.int I 0,.int I 3,.int I 0,.int I 4] W fun e w'=>e= S (.agg #[.int I 1,.int I 0,.int I 0,.int I 0,.int I 1,.int I 0,.int I 3,.int I 0,.int I 4,.string ⟨#[]⟩])∧Gr W w'):=fun W=>gF 0 3 0 4 W
 have hP2:Hid (∀W,Calls V 9 #[.int I 1,.int I 3,.int I 1,.int I 5] W fun e w'=>e= S (.agg #[.int I 1,.int I 1,.int I 0,.int I 0,.int I 1,.int I 0,.int I 3,.int I 1,.int I 5,.string ⟨#[]⟩])∧Gr W w'):=fun W=>gF 1 3 1 5 W
 have hP3:Hid (∀W,Calls V 9 #[.int I 1,.int I 7,.int I 0,.int I 1] W fun e w'=>e= S (.agg #[.int I 1,.int I 1,.int I 0,.int I 0,.int I 1,.int I 0,.int I 7,.int I 0,.int I 1,.string ⟨#[]⟩])∧Gr W w'):=fun W=>gF 1 7 0 1 W
 have hDl:Hid (∀W,Calls V 10 #[.int I 2,.int I 7] W fun e w'=>e= S (.agg #[.int I 1,.int I 2,.int I 0,.int I 0,.int I 2,.int I 0,.int I 7,.int I 0,.int I 0,.string ⟨#[]⟩])∧Gr W w'):=fun W=>lg 2 7 W
 have hP4:Hid (∀W,Calls V 9 #[.int I 3,.int I 7,.int I 2,.int I 9] W fun e w'=>e= S (.agg #[.int I 1,.int I 3,.int I 0,.int I 0,.int I 1,.int I 0,.int I 7,.int I 2,.int I 9,.string ⟨#[]⟩])∧Gr W w'):=fun W=>gF 3 7 2 9 W
 have one:Hid (∀ {W:World} {M M':NetM} {Q:Nat→List (List Stp)} (y:Hap),y.k=1→bT w W w.heap.size M Q→bS M y=0→aN M y=M'→Calls V 8 #[.pointer (some ⟨w.heap.size,0,none⟩),.agg (dR (y,[])).toArray] W fun e w'=>e= S (.int I 0)∧bT w w' w.heap.size M' Q∧Wr w.heap.size 0 153 W w'):=by
  intro W M M' Q y hk hL h0 hM
  refine (doL hL hr (y,[]) (nZ _)).mono ?_
  rintro e w' ⟨er,Q',rfl,f1,f2,f3⟩
  obtain ⟨rfl,rfl⟩:=f1.ok (by show y.k≠5;omega)
  rw[←hM]
  exact ⟨by rw[show bS M (y,([]:List UInt8)).1=0 from h0],f2,f3⟩
 have hI3:Hid (NInv 3 N3):=i3
 have hI6:Hid (NInv 5 N6∧∀i,i<4→(ci N6).s i=tRR):=⟨i6,hR⟩
 obtain ⟨sN,hs⟩:∃sN:Nat→NetM,sN 0=cW∧sN 3=N3∧∀k (hk:k<sdH.length),sdH[k].1.k=1∧sdH[k].2=[]∧bS (sN k) sdH[k].1=0∧aN (sN k) sdH[k].1=sN (k+1) :=
  ⟨fun k=>match k with|0=>cW|1=>N1|2=>N2|_=>N3,rfl,rfl,fun k hk=>match k,hk with|0,_=>⟨rfl,rfl,e1,m1⟩|1,_=>⟨rfl,rfl,e2,m2⟩|2,_=>⟨rfl,rfl,e3,m3⟩⟩
 have hE:Hid _:=hs
 have hE5:Hid (bS (ci N3) (cJ 2 7)=0∧aN (ci N3) (cJ 2 7)=N5):=⟨e5,m5⟩
 have hE6:Hid (bS N5 (cQ 3 7 2 9)=0∧aN N5 (cQ 3 7 2 9)=N6):=⟨e6,m6⟩
 clear hs e1 m1 e2 m2 e3 m3 i3 e5 m5 e6 m6 i6 hR hr
 go_enter Tryz.func5,Tryz.ntmps5
 go_wp2_with fail
 refine cM (show Calls _ _ _ _ _ from hN.out) ?_
 rintro e w1 ⟨rfl,f1,f2⟩
 have hI1:Hid (bT w w1 w.heap.size cW (fun _=>[])):=bT.new (bR _ _) f1 f2
 clear f1 f2 hN
 go_wp2_with fail
 refine cM (hP1.out _) ?_
 rintro e w2 ⟨rfl,g2⟩
 have hg2:Hid (Gr w1 w2):=g2
 clear g2 hP1
 go_wp2_with fail
 refine cM (hP2.out _) ?_
 rintro e w3 ⟨rfl,g3⟩
 have hg3:Hid (Gr w1 w3):=hg2.out.trans g3
 clear g3 hP2 hg2
 go_wp2_with fail
 refine cM (hP3.out _) ?_
 rintro e w4 ⟨rfl,g4⟩
 have hg4:Hid (Gr w1 w4):=hg3.out.trans g4
 clear g4 hP3 hg3
 obtain ⟨w5,hw5⟩:∃W,w4.alloc (O #[.int I 1,.int I 0,.int I 0,.int I 0,.int I 1,.int I 0,.int I 3,.int I 0,.int I 4,.string ⟨#[]⟩,.int I 1,.int I 1,.int I 0,.int I 0,.int I 1,.int I 0,.int I 3,.int I 1,.int I 5,.string ⟨#[]⟩,.int I 1,.int I 1,.int I 0,.int I 0,.int I 1,.int I 0,.int I 7,.int I 0,.int I 1,.string ⟨#[]⟩] 32)=W:=⟨_,rfl⟩
 have hI:Hid (bT w w5 w.heap.size (sN 0) (fun _=>[])∧Cls w5 w4.heap.size (aI dR sdH)∧w.heap.size<w4.heap.size):=by
  have hg:=hg4.out.below
  have hg5:Gr w4 w5:=by rw[←hw5];exact (gR w4).alloc _
  obtain ⟨⟨P,hP,_⟩,_⟩:=hI1.out
  rw[hE.out.1]
  exact ⟨(hI1.out.below hg).below hg5.below,by rw[←hw5];exact Cls.new w4 _ _,nL hP.lt hg.size⟩
 clear hg4 hI1
 go_wp2
 try rw[hw5]
 clear hw5
 go_loopw [15] (fun v15 wr=>∃k:Nat,k≤3∧v15= .int I k∧Hid (bT w wr w.heap.size (sN k) (fun _=>[])∧Cls wr w4.heap.size (aI dR sdH)∧w.heap.size<w4.heap.size)) (fun v15 _=>3-(intOf v15).toNat)
 case atStart=>exact ⟨0,by omega,rfl,hI⟩
 clear hI
 rename World=>wr
 obtain ⟨k,hk,rfl,hI⟩:=hrel
 by_cases hk3:k<3
 ·have hkz:(k:Int)<3:=by omega
  obtain ⟨h1,h2,h3,h4⟩:=hE.out.2.2 k hk3
  obtain ⟨y,hy⟩:∃y,sdH[k]'hk3=(y,[]):=⟨(sdH[k]'hk3).1,by rw[←h2]⟩
  rw[hy] at h1 h3 h4
  have hf:=gZ uw sdH k hk3
  rw[hy] at hf
  have c0:=hI.out.2.1.cell (j:=k*10+0) (hf 0 (by omega))
  have c1:=hI.out.2.1.cell (j:=k*10+1) (hf 1 (by omega))
  have c2:=hI.out.2.1.cell (j:=k*10+2) (hf 2 (by omega))
  have c3:=hI.out.2.1.cell (j:=k*10+3) (hf 3 (by omega))
  have c4:=hI.out.2.1.cell (j:=k*10+4) (hf 4 (by omega))
  have c5:=hI.out.2.1.cell (j:=k*10+5) (hf 5 (by omega))
  have c6:=hI.out.2.1.cell (j:=k*10+6) (hf 6 (by omega))
  have c7:=hI.out.2.1.cell (j:=k*10+7) (hf 7 (by omega))
  have c8:=hI.out.2.1.cell (j:=k*10+8) (hf 8 (by omega))
  have c9:=hI.out.2.1.cell (j:=k*10+9) (hf 9 (by omega))
  rw[Nat.add_zero] at c0
  go_upto_region 5 with fail
  obtain ⟨wb,hwb⟩:∃W,wr.alloc (O #[.int I y.k,.int I y.a,.int I y.b,.int I y.n,.int I y.e1,.int I y.e2,.int I y.e3,.int I y.e4,.int I y.e5,.string ⟨#[]⟩] 32)=W:=⟨_,rfl⟩
  have hgb:Gr wr wb:=by rw[←hwb];exact (gR _).alloc _
  have hBx:Cls wb wr.heap.size [.int I y.k,.int I y.a,.int I y.b,.int I y.n,.int I y.e1,.int I y.e2,.int I y.e3,.int I y.e4,.int I y.e5,.string ⟨#[]⟩]:=by rw[←hwb];exact Cls.new _ _ _
  obtain ⟨b0,b1,b2,b3,b4,b5,b6,b7,b8,b9⟩:=oz hBx
  have hD:Hid _:=one.out y h1 (hI.out.1.below hgb.below) h3 h4
  have hSb:Hid (Cls wb w4.heap.size (aI dR sdH)∧w.heap.size<w4.heap.size):=⟨hI.out.2.1.gr hgb,hI.out.2.2⟩
  rw[hwb]
  clear hgb hBx hf hy h1 h2 h3 h4 hI hwb c0 c1 c2 c3 c4 c5 c6 c7 c8 c9
  go_wp2_with fail
  refine cM (show Calls _ _ _ _ _ from hD.out) ?_
  rintro e wd ⟨rfl,f1,f2⟩
  have hF:Hid (bT w wd w.heap.size (sN (k+1)) (fun _=>[])∧Cls wd w4.heap.size (aI dR sdH)∧w.heap.size<w4.heap.size):=⟨f1,hSb.out.1.keep (f2.oth _ hSb.out.1.lt (by have:=hSb.out.2;omega)),hSb.out.2⟩
  clear f1 f2 hD hSb b0 b1 b2 b3 b4 b5 b6 b7 b8 b9
  go_wp2
  go_roundw
  case rel=>exact ⟨k+1,by omega,by go_num,hF⟩
  case measure=>simp[intOf];omega
 have hkz:¬(k:Int)<3:=by omega
 obtain rfl:k=3:=by omega
 rw[hE.out.2.1] at hI
 have hM1:Hid _:=mR hI.out.1 hI3.out
 go_wp2_with fail
 refine cM (show Calls _ _ _ _ _ from hM1.out) ?_
 rintro e w6 ⟨rfl,f1,f2⟩
 have hJ:Hid (bT w w6 w.heap.size (ci N3) (fun _=>[])):=f1
 clear f1 f2 hM1 hI
 go_wp2_with fail
 refine cM (hDl.out _) ?_
 rintro e w7 ⟨rfl,g7⟩
 have hD:Hid _:=one.out (cJ 2 7) rfl (hJ.out.below g7.below) hE5.out.1 hE5.out.2
 clear g7 hDl hJ
 go_wp2_with fail
 refine cM (show Calls _ _ _ _ _ from hD.out) ?_
 rintro e w8 ⟨rfl,f1,f2⟩
 have hJ:Hid (bT w w8 w.heap.size N5 (fun _=>[])):=f1
 clear f1 f2 hD
 go_wp2_with fail
 refine cM (hP4.out _) ?_
 rintro e w9 ⟨rfl,g9⟩
 have hD:Hid _:=one.out (cQ 3 7 2 9) rfl (hJ.out.below g9.below) hE6.out.1 hE6.out.2
 clear g9 hP4 hJ
 go_wp2_with fail
 refine cM (show Calls _ _ _ _ _ from hD.out) ?_
 rintro e w10 ⟨rfl,f1,f2⟩
 have hJ:Hid (bT w w10 w.heap.size N6 (fun _=>[])):=f1
 clear f1 f2 hD
 have hM1:Hid _:=mR hJ.out hI6.out.1
 go_wp2_with fail
 refine cM (show Calls _ _ _ _ _ from hM1.out) ?_
 rintro e w11 ⟨rfl,f1,f2⟩
 have hK:Hid (bT w w11 w.heap.size (ci N6) (fun _=>[])):=f1
 clear f1 f2 hM1 hJ
 go_wp2
 go_loopw [44] (fun v44 wr=>∃i:Nat,i≤4∧v44= .int I i∧Hid (bT w wr w.heap.size (ci N6) (fun _=>[]))) (fun v44 _=>4-(intOf v44).toNat)
 case atStart=>exact ⟨0,by omega,rfl,hK⟩
 case round =>
  obtain ⟨i,hi,rfl,hJ⟩:=hrel
  by_cases hi4:i<4
  rotate_left
  ·have hz:¬(i:Int)<4:=by omega
   go_wp2
   go_ret
   exact ⟨rfl,hJ.out.2.1⟩
  have hiz:(i:Int)<4:=by omega
  have t0:Calls V 11 #[.pointer (some ⟨w.heap.size,0,none⟩),.int I i,.int I 0] wr fun e w'=>∃v,e= S (.tuple #[v,.int I 0])∧TbV wr.heap.size w' v tRR∧Below wr.heap.size wr w':=by
   obtain ⟨⟨P,hP,_⟩,_⟩:=hJ.out
   have:=kH hP i hi4
   rwa [hI6.out.2 i hi4] at this
  have hT0:Hid _:=t0
  clear t0
  go_wp2_with fail
  refine cM (show Calls _ _ _ _ _ from hT0.out) ?_
  rintro e w2 ⟨v,rfl,⟨A,ca,D,cd,rfl,f1⟩,f2⟩
  obtain ⟨w3,hw3⟩:∃W,w2.alloc (O #[.int I tRR.c.c0,.int I tRR.c.c1,.int I tRR.c.c2,.int I tRR.c.c3,.slice A tRR.c.l.length ca,.slice D tRR.e.length cd] 42)=W:=⟨_,rfl⟩
  have hg3:Gr w2 w3:=by rw[←hw3];exact (gR w2).alloc _
  have hBx:Cls w3 w2.heap.size (T6 tRR A ca D cd):=by rw[←hw3];exact Cls.new w2 _ _
  obtain ⟨b0,b1,b2,b3,b4,b5⟩:=fQ hBx
  have o0:=yG tRR A ca D cd w3 (by decide) (by decide) (f1.row.gr hg3) (f1.cel.gr hg3)
  rw[sd8.1,sd8.2] at o0
  have hO:Hid _:=o0
  have hB3:Hid (bT w w3 w.heap.size (ci N6) (fun _=>[])):=(hJ.out.below f2).below hg3.below
  clear o0 f1 f2 hg3 hBx hT0 hJ
  go_wp2_with fail
  try rw[hw3]
  clear hw3
  refine cM (show Calls _ _ _ _ _ from hO.out) ?_
  rintro e w4 ⟨L,C,c,rfl,g1,g2,g3,g4⟩
  obtain ⟨W,hW⟩:∃W,((w4.alloc (O #[.int I 3,.int I 4,.int I 5,.int I 0] 3)).alloc (O #[.int I 7,.int I 0,.int I 0,.int I 9] 3)).alloc (O #[.slice (some ⟨w4.heap.size,0,none⟩) 4 4,.int I 1,.slice (some ⟨w4.heap.size+1,0,none⟩) 4 4,.int I 1] 58)=W:=⟨_,rfl⟩
  have hgW:Gr w4 W:=by rw[←hW];exact (((gR w4).alloc _).alloc _).alloc _
  have hS:Hid (Calls V 19 #[.slice C L.length c,.slice (some ⟨w4.heap.size+2,0,none⟩) 2 2] W fun e w'=>e= S (.bool true)∧Gr W w'):=by
   have h2:ay aM 2 W (some ⟨w4.heap.size+2,0,none⟩) [⟨some ⟨w4.heap.size,0,none⟩,4,[3,4,5,0],1⟩,⟨some ⟨w4.heap.size+1,0,none⟩,4,[7,0,0,9],1⟩]:=by rw[←hW];exact js bD (by simp) _ _ _ rfl
   have r1:ar W (some ⟨w4.heap.size,0,none⟩) [3,4,5,0]:=by rw[←hW];exact ((js (enc:=eM) (k:=1) bP (W:=w4) rfl [3,4,5,0] 3 _ rfl).gr ((gR _).alloc _)).gr ((gR _).alloc _)
   have r2:ar W (some ⟨w4.heap.size+1,0,none⟩) [7,0,0,9]:=by rw[←hW];exact (js (enc:=eM) (k:=1) bP (W:=w4.alloc (O #[.int I 3,.int I 4,.int I 5,.int I 0] 3)) (by simp) [7,0,0,9] 3 _ rfl).gr ((gR _).alloc _)
   have hl:L.length≤maxLen:=by
    have:=congrArg List.length g1
    rw[List.length_map] at this
    rw[this]
    decide
   have hs:=tx L [⟨some ⟨w4.heap.size,0,none⟩,4,[3,4,5,0],1⟩,⟨some ⟨w4.heap.size+1,0,none⟩,4,[7,0,0,9],1⟩] C (some ⟨w4.heap.size+2,0,none⟩) c 2 W hl (g2.gr hgW) ⟨h2,fun x hx=>by
    rcases List.mem_cons.1 hx with rfl|hx
    ·exact ⟨r1,(show (4:Nat)≤maxLen by decide),fun h=>by cases h⟩
    ·rw[List.mem_singleton.1 hx]
     exact ⟨r2,(show (4:Nat)≤maxLen by decide),fun h=>by cases h⟩⟩
   rw[g1] at hs
   exact hs
  have hB4:Hid (bT w W w.heap.size (ci N6) (fun _=>[])):=(hB3.out.below g4).below hgW.below
  clear g1 g2 g3 g4 hgW hO hB3
  go_wp2_with fail
  try rw[hW]
  clear hW
  refine cM (show Calls _ _ _ _ _ from hS.out) ?_
  rintro e w5 ⟨rfl,g5⟩
  have hB5:Hid (bT w w5 w.heap.size (ci N6) (fun _=>[])):=hB4.out.below g5.below
  clear g5 hS hB4
  go_wp2
  go_roundw
  case rel=>exact ⟨i+1,by omega,by go_num,hB5⟩
  case measure=>simp[intOf];omega
section
open Go.ChangeShapes Go.WideShapes Go.ChangeAt Go.Deep

variable {H:Type} {enc:TypeId×Value→H} {W:World}

theorem yy {cs:List Value} (h:cs.length=10):∃a b c d e f g h i j,cs=[a,b,c,d,e,f,g,h,i,j]:=by
 match cs,h with
 | [a,b,c,d,e,f,g,h,i,j],_=>exact ⟨a,b,c,d,e,f,g,h,i,j,rfl⟩
theorem xt {fuel:Nat} {v0 v1 v2 v3 v4:Value} {x:DataW H×List MemPlace} (h:DataW.trod enc V W 0 (fun _=>true) true fuel 30 [v0,v1,v2,v3,v4]=some x):∃z0 z1 z2 z3 z4:Int,[v0,v1,v2,v3,v4]=[.int I z0,.int I z1,.int I z2,.int I z3,.int I z4]:=by
 obtain ⟨xs,n,_,_,_,hxl,hf⟩:=DataW.trod_struct Tryz.underlying30 h
 have c1:Tryz.prog.cellsOf 3=1:=by kernel_rfl
 have hx5:xs.length=5:=hxl
 match xs,hx5 with
 | [y0,y1,y2,y3,y4],_ =>
  have g0:=hf 0 _ rfl
  have g1:=hf 1 _ rfl
  have g2:=hf 2 _ rfl
  have g3:=hf 3 _ rfl
  have g4:=hf 4 _ rfl
  simp[c1] at g0 g1 g2 g3 g4
  obtain ⟨z0,e0,_⟩:=DataW.trod_int Tryz.underlying3 g0
  obtain ⟨z1,e1,_⟩:=DataW.trod_int Tryz.underlying3 g1
  obtain ⟨z2,e2,_⟩:=DataW.trod_int Tryz.underlying3 g2
  obtain ⟨z3,e3,_⟩:=DataW.trod_int Tryz.underlying3 g3
  obtain ⟨z4,e4,_⟩:=DataW.trod_int Tryz.underlying3 g4
  simp only[List.cons.injEq,and_true] at e0 e1 e2 e3 e4
  exact ⟨z0,z1,z2,z3,z4,by rw[e0,e1,e2,e3,e4]⟩
theorem vz {fuel:Nat} {cs:List Value} {x:DataW H×List MemPlace} (hl:cs.length=10) (h:DataW.trod enc V W 0 (fun _=>true) true fuel 32 cs=some x):∃y:Hap×List UInt8,cs=dR y∧y.2.length≤maxLen:=by
 obtain ⟨v0,v1,v2,v3,v4,v5,v6,v7,v8,v9,rfl⟩:=yy hl
 obtain ⟨xs,n,_,_,_,hxl,hf⟩:=DataW.trod_struct Tryz.underlying32 h
 have c1:Tryz.prog.cellsOf 3=1:=by kernel_rfl
 have c5:Tryz.prog.cellsOf 30=5:=by kernel_rfl
 have cs:Tryz.prog.cellsOf 9=1:=by kernel_rfl
 have hx6:xs.length=6:=hxl
 match xs,hx6 with
 | [y0,y1,y2,y3,y4,y5],_ =>
  have g0:=hf 0 _ rfl
  have g1:=hf 1 _ rfl
  have g2:=hf 2 _ rfl
  have g3:=hf 3 _ rfl
  have g4:=hf 4 _ rfl
  have g5:=hf 5 _ rfl
  simp[c1,c5,cs] at g0 g1 g2 g3 g4 g5
  obtain ⟨z0,e0,_⟩:=DataW.trod_int Tryz.underlying3 g0
  obtain ⟨z1,e1,_⟩:=DataW.trod_int Tryz.underlying3 g1
  obtain ⟨z2,e2,_⟩:=DataW.trod_int Tryz.underlying3 g2
  obtain ⟨z3,e3,_⟩:=DataW.trod_int Tryz.underlying3 g3
  obtain ⟨k1,k2,k3,k4,k5,e4⟩:=xt g4
  obtain ⟨s,e5,_,hs⟩:=DataW.trod_string Tryz.underlying9 g5
  simp only[List.cons.injEq,and_true] at e0 e1 e2 e3 e4 e5
  refine ⟨(⟨z0,z1,z2,z3,k1,k2,k3,k4,k5⟩,s.data.toList),?_,by simpa using hs⟩
  rw[e0,e1,e2,e3,e4.1,e4.2.1,e4.2.2.1,e4.2.2.2.1,e4.2.2.2.2,e5]
  rfl
theorem mY {r:Reach} {b0:Nat} {v:Value} {d:DataW H} {p:List MemPlace} (hv:Value.okWide V W r b0 22 v) (h:DataW.Trod enc V W 0 (fun _=>true) true 22 v d p) :
  ∃A cap l,v= .slice A (l:List (Hap×List UInt8)).length cap∧ay dR 10 W A l∧l.length≤maxLen∧∀x∈l,x.2.length≤maxLen:=by
 obtain ⟨aL,lenL,capL,rfl⟩:=okWide_slice Tryz.underlying22 hv
 obtain ⟨fuel,hf⟩:=h
 rcases open_slice Tryz.underlying22 hf with ⟨hcs,_⟩|⟨a,len,cap,m,n,D,Pl,hcs,_,hl,hm,hmm,hx,hi⟩
 ·simp[Value.cells] at hcs
  obtain ⟨rfl,rfl,rfl⟩:=hcs
  exact ⟨none,0,[],rfl,oL rfl,by simp,fun x hx=>by cases hx⟩
 ·simp[Value.cells] at hcs
  obtain ⟨rfl,rfl,rfl⟩:=hcs
  have c2:Tryz.prog.cellsOf 32=10:=by kernel_rfl
  have hlm:lenL≤m:=by rw[hmm];simp;exact hl
  haveI:Inhabited (Hap×List UInt8):=⟨(⟨0,0,0,0,0,0,0,0,0⟩,[])⟩
  obtain ⟨Z,hZ⟩:=choose_lt (α := Hap×List UInt8) (n:=lenL) (p:=fun i z=>(∀j,j<10→W.cell? (a.add (i*10+j))=(dR z)[j]?)∧z.2.length≤maxLen) (fun i hi'=>by
   obtain ⟨cs',h1,h2⟩:=hi i (by omega)
   rw[c2] at h1
   obtain ⟨_,hlen,hcell⟩:=World.cells?_some h1
   obtain ⟨y,hy,hy2⟩:=vz hlen h2
   refine ⟨y,fun j hj=> ?_,hy2⟩
   have:=hcell j (by omega)
   rw[add_add] at this
   rw[this,←hy,List.getElem?_eq_getElem (by omega)])
  refine ⟨some a,capL,(List.range lenL).map Z,by simp,?_,by simp;omega,fun x hx=> ?_⟩
  ·by_cases h0:lenL=0
   ·exact oL (by rw[h0];rfl)
   ·have hc0:=(hZ 0 (by omega)).1 0 (by omega)
    obtain ⟨b,off,spot⟩:=a
    have hc1:W.cell? (Addr.add ⟨b,off,spot⟩ (0*10+0))=some (.int I (Z 0).1.k):=hc0
    have hspot:spot=none:=by simpa[Addr.add] using World.cell?_spot hc1
    subst hspot
    refine oR ⟨b,off,rfl,?_,fun j hj i hi5=> ?_⟩
    ·have:=World.block_lt_of_cell? W _ hc1
     simpa[Addr.add_lit] using this
    ·have hj':j<lenL:=by simpa using hj
     have:=(hZ j hj').1 i hi5
     simp only[Addr.add_lit,←Nat.add_assoc] at this
     simpa using this
  ·obtain ⟨i,hi',rfl⟩:=List.mem_map.1 hx
   exact (hZ i (by simpa using hi')).2
end
end Go.Proofs.YtkefkplnamkicabGreatDoor
