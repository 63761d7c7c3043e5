/-
  What all of it is for, over plain data: packets in whatever order, what was missing, who puts while others delete, what is deleted.
  What happens at first, in numbers: sorts that can be reckoned with.
  viewtop.put, del; what happens at first, over plain data.
  viewtop.said: two nodes that edited apart come together.
  Two nets that a law has made.
-/
import Derived.Test.YtfedpiamlpflhaaGreatDoorM41
set_option maxRecDepth 100000
set_option maxHeartbeats 8000000
open Go.Ending renaming returned → O
open Go.IntKind renaming i64 → I
open Go.Obj renaming cells → Z
open Go.Proofs.Tryz renaming prog → S
open Go.Value renaming int → V, string → J, agg → H, slice → K
namespace Go.Proofs.YtfedpiamlpflhaaGreatDoor
open Go.RowKit Go.Sort

section
variable {U:List Cel} {x:Nat→Tab} {ps:List Tab}
end
section
open Go.Shelf Go.Lib
set_option linter.unusedSimpArgs false

def uy {α : Type} (le: α → α → Bool) (x: α):List α → List α
 | []=>[x]
 | y::l=>if le x y then x::y::l else y::uy le x l
def isr {α : Type} (le: α → α → Bool):List α → List α
 | []=>[]
 | x::l=>uy le x (isr le l)
theorem oU {α : Type} {le: α → α → Bool} {x: α}:∀(a b:List α),(∀y∈a,le x y=false)→(∀y∈b,le x y=true)→uy le x (a++b)=a++x::b
 | [],[],_,_=>rfl
 | [],y::b,_,h=>by simp[uy,h y (List.mem_cons_self ..)]
 | y::a,b,h,k=>by
  rw[List.cons_append,uy,if_neg (by simp[h y (List.mem_cons_self ..)]),oU a b (fun z hz=>h z (mC _ hz)) k]
  rfl
theorem nO {α : Type} {le: α → α → Bool} (tr:∀a b c,le a b=true→le b c=true→le a c=true) (tl:∀a b,(le a b || le b a)=true):∀l:List α,l.mergeSort le=isr le l
 | []=>by simp[isr]
 | x::l=>by
  obtain ⟨a,b,h1,h2,h3⟩:=List.mergeSort_cons tr tl x l
  have hs:=List.pairwise_mergeSort tr tl (x::l)
  rw[h1] at hs
  rw[isr,←nO tr tl l,h2,h1,oU a b (fun y hy=>by simpa using h3 y hy) fun y hy=> ?_]
  exact (List.pairwise_cons.1 (List.pairwise_append.1 hs).2.1).1 y hy
theorem iR (l:List (Int×Int)):srt l=isr (fun x y=> !ltOf dU y x) l:=by
 unfold srt
 refine nO (fun a b c h1 h2=> ?_) (fun a b=> ?_) l
 ·simp only[ltD,Bool.not_eq_true'] at *
  exact gV (x:=a) (y:=b) (z:=c) h1 h2
 ·simp only[ltD,Bool.or_eq_true,Bool.not_eq_true']
  exact mP a b
theorem gf (l:List Cel):ge l=isr (fun x y=> !fm y x) l:=by
 unfold ge
 refine nO (fun a b c=> ?_) (fun a b=> ?_) l
 ·simp[fm,bn];omega
 ·simp[fm,bn];omega
theorem uX (l:List Int):cF l=compact (isr (fun x y=>decide (x≤y)) l):=by
 unfold cF
 rw[nO (fun a b c h1 h2=> ?_) (fun a b=> ?_) l]
 ·simp at h1 h2 ⊢;omega
 ·simp;omega
def tT0:Tab:=⟨⟨1,0,0,0,[]⟩,[((0,1),3,0,4)]⟩
def tTa:Tab:=⟨⟨0,1,0,0,[]⟩,[((1,1),3,1,5)]⟩
def tT1:Tab:=⟨⟨0,2,0,0,[]⟩,[((1,1),3,1,5),((1,2),7,0,1)]⟩
def tMM:Tab:=⟨⟨1,2,0,0,[]⟩,[((0,1),3,0,4),((1,1),3,1,5),((1,2),7,0,1)]⟩
def tD2:Tab:=⟨⟨1,2,0,0,[]⟩,[((0,1),3,0,4),((1,1),3,1,5)]⟩
def tE3:Tab:=⟨⟨1,2,0,1,[]⟩,[((0,1),3,0,4),((1,1),3,1,5),((1,2),7,0,1),((3,1),7,2,9)]⟩
def tRR:Tab:=⟨⟨1,2,0,1,[]⟩,[((0,1),3,0,4),((1,1),3,1,5),((3,1),7,2,9)]⟩
theorem sd1:doE dx 0 1 3 0 4=0∧doT dx 0 1 3 0 4=tT0:=by
 simp only[doT,doE,edE,edT,d7,cH,ak,ac,aC,az,cT,dR,aA,mrg,iR,gf]
 exact ⟨by kernel_rfl,by kernel_rfl⟩
theorem sd2:doE dx 1 1 3 1 5=0∧doT dx 1 1 3 1 5=tTa:=by
 simp only[doT,doE,edE,edT,d7,cH,ak,ac,aC,az,cT,dR,aA,mrg,iR,gf]
 exact ⟨by kernel_rfl,by kernel_rfl⟩
theorem sd3:doE tTa 1 1 7 0 1=0∧doT tTa 1 1 7 0 1=tT1:=by
 simp only[doT,doE,edE,edT,d7,cH,ak,ac,aC,az,cT,dR,aA,mrg,iR,gf]
 exact ⟨by kernel_rfl,by kernel_rfl⟩
theorem sd4:ac (ac (ac tT0 tT1) dx) dx=tMM:=by
 simp only[ak,ac,aC,az,cT,dR,mrg,iR,gf]
 kernel_rfl
theorem sd5:doE tMM 2 2 7 0 0=0∧doT tMM 2 2 7 0 0=tD2:=by
 simp only[doT,doE,edE,edT,eC,cD,ak,ac,aC,az,cT,dR,aA,mrg,iR,gf]
 exact ⟨by kernel_rfl,by kernel_rfl⟩
theorem sd6:doE tMM 3 1 7 2 9=0∧doT tMM 3 1 7 2 9=tE3:=by
 simp only[doT,doE,edE,edT,d7,cH,ak,ac,aC,az,cT,dR,aA,mrg,iR,gf]
 exact ⟨by kernel_rfl,by kernel_rfl⟩
theorem sd7:ac (ac (ac tMM tMM) tD2) tE3=tRR:=by
 simp only[ak,ac,aC,az,cT,dR,mrg,iR,gf]
 kernel_rfl
theorem sd8:au tRR=0∧ofR tRR=[([3,4,5,0],1),([7,0,0,9],1)]:=by
 simp only[ofR,ofL,cW,uX]
 exact ⟨by kernel_rfl,by kernel_rfl⟩
end

def eF (n key col v:Int):Hap:=⟨1,n,0,0,1,0,key,col,v⟩
def kZ (n key:Int):Hap:=⟨1,n,0,0,2,0,key,0,0⟩
theorem jd (n key col v:Int) (w:World):Calls S 15 #[V I n,V I key,V I col,V I v] w fun e w'=>e= O (H (dr (eF n key col v,[])).toArray)∧Gr w w':=by
 have hg:Hid (Gr w (w.alloc (Z (dr (eF n key col v,[])).toArray 30))):=(gR w).alloc _
 go_enter Tryz.func15,Tryz.ntmps15
 go_wp2
 exact bodyPost_ret (v:= H (dr (eF n key col v,[])).toArray) (by simp[results,Tryz.results15,go_sem,dr,eF]) rfl ⟨rfl,hg.out⟩
theorem uw (n key:Int) (w:World):Calls S 16 #[V I n,V I key] w fun e w'=>e= O (H (dr (kZ n key,[])).toArray)∧Gr w w':=by
 have hg:Hid (Gr w (w.alloc (Z (dr (kZ n key,[])).toArray 30))):=(gR w).alloc _
 go_enter Tryz.func16,Tryz.ntmps16
 go_wp2
 exact bodyPost_ret (v:= H (dr (kZ n key,[])).toArray) (by simp[results,Tryz.results16,go_sem,dr,kZ]) rfl ⟨rfl,hg.out⟩
theorem hed (N:NetM) (y:Hap) (i:Nat) (hk:y.k=1) (ha:y.a=i) (hi:i<4) (h2:y.e2=0):cg N y=doE (N.s i) i y.e1 y.e3 y.e4 y.e5∧bH N y=⟨upd N.s i (doT (N.s i) i y.e1 y.e3 y.e4 y.e5),N.t,N.pk⟩:=by
 have hn:isN y.a:=⟨by omega,by omega⟩
 constructor
 ·unfold cg
  rw[if_pos hk,if_pos hn,ha,Int.toNat_natCast]
  unfold ndE
  rw[if_pos h2]
 ·unfold bH
  rw[if_pos hk,if_pos hn,ha,Int.toNat_natCast]
  unfold rj ndS ndT
  rw[if_pos h2,if_neg (by omega),fL]
theorem yw:∃N1 N2 N3 N5 N6,cg cZ (eF 0 3 0 4)=0∧bH cZ (eF 0 3 0 4)=N1∧cg N1 (eF 1 3 1 5)=0∧bH N1 (eF 1 3 1 5)=N2∧cg N2 (eF 1 7 0 1)=0∧bH N2 (eF 1 7 0 1)=N3∧NInv 3 N3∧cg (dd N3) (kZ 2 7)=0∧bH (dd N3) (kZ 2 7)=N5∧cg N5 (eF 3 7 2 9)=0∧bH N5 (eF 3 7 2 9)=N6∧NInv 5 N6∧∀i,i<4→(dd N6).s i=tRR:=by
 obtain ⟨e1,m1⟩:=hed cZ (eF 0 3 0 4) 0 rfl rfl (by omega) rfl
 have I1:=NInv.new.hap (by omega) (eF 0 3 0 4)
 have e1:=e1.trans sd1.1
 have m1:=m1.trans (congrArg (fun t=>NetM.mk (upd cZ.s 0 t) cZ.t cZ.pk) sd1.2)
 rw[m1] at I1
 obtain ⟨e2,m2⟩:=hed ⟨upd cZ.s 0 tT0,cZ.t,cZ.pk⟩ (eF 1 3 1 5) 1 rfl rfl (by omega) rfl
 have I2:=I1.hap (by omega) (eF 1 3 1 5)
 have e2:=e2.trans sd2.1
 have m2:=m2.trans (congrArg (fun t=>NetM.mk (upd (upd cZ.s 0 tT0) 1 t) cZ.t cZ.pk) sd2.2)
 rw[m2] at I2
 obtain ⟨e3,m3⟩:=hed ⟨upd (upd cZ.s 0 tT0) 1 tTa,cZ.t,cZ.pk⟩ (eF 1 7 0 1) 1 rfl rfl (by omega) rfl
 have I3:=I2.hap (by omega) (eF 1 7 0 1)
 have e3:=e3.trans sd3.1
 have m3:=m3.trans (congrArg (fun t=>NetM.mk (upd (upd (upd cZ.s 0 tT0) 1 tTa) 1 t) cZ.t cZ.pk) sd3.2)
 rw[m3] at I3
 obtain ⟨I4,s4,_⟩:=I3.met
 obtain ⟨N4,h4⟩:∃N,dd ⟨upd (upd (upd cZ.s 0 tT0) 1 tTa) 1 tT1,cZ.t,cZ.pk⟩=N:=⟨_,rfl⟩
 rw[h4] at I4 s4
 have a4:∀j,j<4→N4.s j=tMM:=fun j hj=>(s4 j hj).trans sd4
 obtain ⟨e5,m5⟩:=hed N4 (kZ 2 7) 2 rfl rfl (by omega) rfl
 have I5:=I4.hap (by omega) (kZ 2 7)
 rw[a4 2 (by omega)] at e5 m5
 have e5:=e5.trans sd5.1
 have m5:=m5.trans (congrArg (fun t=>NetM.mk (upd N4.s 2 t) N4.t N4.pk) sd5.2)
 rw[m5] at I5
 obtain ⟨e6,m6⟩:=hed ⟨upd N4.s 2 tD2,N4.t,N4.pk⟩ (eF 3 7 2 9) 3 rfl rfl (by omega) rfl
 have I6:=I5.hap (by omega) (eF 3 7 2 9)
 have x3:upd N4.s 2 tD2 3=tMM:=(el _ _ (by omega)).trans (a4 3 (by omega))
 rw[show (NetM.mk (upd N4.s 2 tD2) N4.t N4.pk).s 3=tMM from x3] at e6 m6
 have e6:=e6.trans sd6.1
 have m6:=m6.trans (congrArg (fun t=>NetM.mk (upd (upd N4.s 2 tD2) 3 t) N4.t N4.pk) sd6.2)
 rw[m6] at I6
 refine ⟨_,_,_,_,_,e1,m1,e2,m2,e3,m3,I3,by rw[h4];exact e5,by rw[h4];exact m5,e6,m6,I6,fun i hi=> ?_⟩
 obtain ⟨_,s7,_⟩:=I6.met
 rw[s7 i hi]
 show ac (ac (ac (upd (upd N4.s 2 tD2) 3 tE3 0) (upd (upd N4.s 2 tD2) 3 tE3 1)) (upd (upd N4.s 2 tD2) 3 tE3 2)) (upd (upd N4.s 2 tD2) 3 tE3 3)=tRR
 rw[show upd (upd N4.s 2 tD2) 3 tE3 0=tMM from a4 0 (by omega),show upd (upd N4.s 2 tD2) 3 tE3 1=tMM from a4 1 (by omega),show upd (upd N4.s 2 tD2) 3 tE3 2=tD2 from rfl,show upd (upd N4.s 2 tD2) 3 tE3 3=tE3 from rfl]
 exact sd7

theorem kx {α : Type} {enc: α → List Value} {k:Nat} (hk:∀x,(enc x).length=k) {W:World} {n:Nat} (hn:W.heap.size=n) (l:List α) (T:TypeId) (cs:Array Value) (hcs:cs.toList=aH enc l):ax enc k (W.alloc (Z cs T)) (some ⟨n,0,none⟩) l:=by
 subst hn
 refine oR ⟨W.heap.size,0,rfl,by simp,fun j hj i hi=> ?_⟩
 have hg:=gS hk l j hj i hi
 obtain ⟨v,hv⟩:∃v,(enc l[j])[i]? = some v:=⟨(enc l[j])[i]'(by rw[hk];exact hi),List.getElem?_eq_getElem _⟩
 rw[Nat.zero_add]
 refine ((Cls.new W cs T).cell (v:=v) ?_).trans hv.symm
 rw[hcs,hg]
 exact hv
theorem tC.ok {x:List UInt8} {N:NetM} {y:Hap} {Q Q':Nat→List (List Stp)} {er:Int} (h:tC x N y Q er Q') (hk:y.k≠5):er=cg N y∧Q'=Q:=by
 rcases h with h|h
 ·exact ⟨h.2.1,h.2.2⟩
 ·exact absurd h.1 hk
def sdH:List (Hap×List UInt8):=[(eF 0 3 0 4,[]),(eF 1 3 1 5,[]),(eF 1 7 0 1,[])]
theorem vt (w:World) (hr:Reads w):Calls S 5 #[] w fun e w'=>e= O (.bool true)∧Below w.heap.size w w':=by
 obtain ⟨N1,N2,N3,N5,N6,e1,m1,e2,m2,e3,m3,i3,e5,m5,e6,m6,i6,hR⟩:=yw
 have hN:Hid _:=lj w
 have hP1:Hid (∀W,Calls S 15 #[V I 0,V I 3,V I 0,V I 4] W fun e w'=>e= O (H #[V I 1,V I 0,V I 0,V I 0,V I 1,V I 0,V I 3,V I 0,V I 4,J ⟨#[]⟩])∧Gr W w'):=fun W=>jd 0 3 0 4 W
 have hP2:Hid (∀W,Calls S 15 #[V I 1,V I 3,V I 1,V I 5] W fun e w'=>e= O (H #[V I 1,V I 1,V I 0,V I 0,V I 1,V I 0,V I 3,V I 1,V I 5,J ⟨#[]⟩])∧Gr W w'):=fun W=>jd 1 3 1 5 W
 have hP3:Hid (∀W,Calls S 15 #[V I 1,V I 7,V I 0,V I 1] W fun e w'=>e= O (H #[V I 1,V I 1,V I 0,V I 0,V I 1,V I 0,V I 7,V I 0,V I 1,J ⟨#[]⟩])∧Gr W w'):=fun W=>jd 1 7 0 1 W
 have hDl:Hid (∀W,Calls S 16 #[V I 2,V I 7] W fun e w'=>e= O (H #[V I 1,V I 2,V I 0,V I 0,V I 2,V I 0,V I 7,V I 0,V I 0,J ⟨#[]⟩])∧Gr W w'):=fun W=>uw 2 7 W
 have hP4:Hid (∀W,Calls S 15 #[V I 3,V I 7,V I 2,V I 9] W fun e w'=>e= O (H #[V I 1,V I 3,V I 0,V I 0,V I 1,V I 0,V I 7,V I 2,V I 9,J ⟨#[]⟩])∧Gr W w'):=fun W=>jd 3 7 2 9 W
 have one:Hid (∀ {W:World} {M M':NetM} {Q:Nat→List (List Stp)} (y:Hap),y.k=1→ct w W w.heap.size M Q→cg M y=0→bH M y=M'→Calls S 7 #[.pointer (some ⟨w.heap.size,0,none⟩),H (dr (y,[])).toArray] W fun e w'=>e= O (V I 0)∧ct w w' w.heap.size M' Q∧Wr w.heap.size 0 153 W w'):=by
  intro W M M' Q y hk hL h0 hM
  refine (doL hL hr (y,[]) (nZ _)).mono ?_
  rintro e w' ⟨er,Q',rfl,f1,f2,f3⟩
  obtain ⟨rfl,rfl⟩:=f1.ok (by show y.k≠5;omega)
  rw[←hM]
  exact ⟨by rw[show cg M (y,([]:List UInt8)).1=0 from h0],f2,f3⟩
 have hI3:Hid (NInv 3 N3):=i3
 have hI6:Hid (NInv 5 N6∧∀i,i<4→(dd N6).s i=tRR):=⟨i6,hR⟩
 obtain ⟨sN,hs⟩:∃sN:Nat→NetM,sN 0=cZ∧sN 3=N3∧∀k (hk:k<sdH.length),sdH[k].1.k=1∧sdH[k].2=[]∧cg (sN k) sdH[k].1=0∧bH (sN k) sdH[k].1=sN (k+1) :=
  ⟨fun k=>match k with|0=>cZ|1=>N1|2=>N2|_=>N3,rfl,rfl,fun k hk=>match k,hk with|0,_=>⟨rfl,rfl,e1,m1⟩|1,_=>⟨rfl,rfl,e2,m2⟩|2,_=>⟨rfl,rfl,e3,m3⟩⟩
 have hE:Hid _:=hs
 have hE5:Hid (cg (dd N3) (kZ 2 7)=0∧bH (dd N3) (kZ 2 7)=N5):=⟨e5,m5⟩
 have hE6:Hid (cg N5 (eF 3 7 2 9)=0∧bH N5 (eF 3 7 2 9)=N6):=⟨e6,m6⟩
 clear hs e1 m1 e2 m2 e3 m3 i3 e5 m5 e6 m6 i6 hR hr
 go_enter Tryz.func5,Tryz.ntmps5
 go_wp2_with fail
 refine cM (show Calls _ _ _ _ _ from hN.out) ?_
 rintro e w1 ⟨rfl,f1,f2⟩
 have hI1:Hid (ct w w1 w.heap.size cZ (fun _=>[])):=ct.new (bR _ _) f1 f2
 clear f1 f2 hN
 go_wp2_with fail
 refine cM (hP1.out _) ?_
 rintro e w2 ⟨rfl,g2⟩
 have hg2:Hid (Gr w1 w2):=g2
 clear g2 hP1
 go_wp2_with fail
 refine cM (hP2.out _) ?_
 rintro e w3 ⟨rfl,g3⟩
 have hg3:Hid (Gr w1 w3):=hg2.out.trans g3
 clear g3 hP2 hg2
 go_wp2_with fail
 refine cM (hP3.out _) ?_
 rintro e w4 ⟨rfl,g4⟩
 have hg4:Hid (Gr w1 w4):=hg3.out.trans g4
 clear g4 hP3 hg3
 obtain ⟨w5,hw5⟩:∃W,w4.alloc (Z #[V I 1,V I 0,V I 0,V I 0,V I 1,V I 0,V I 3,V I 0,V I 4,J ⟨#[]⟩,V I 1,V I 1,V I 0,V I 0,V I 1,V I 0,V I 3,V I 1,V I 5,J ⟨#[]⟩,V I 1,V I 1,V I 0,V I 0,V I 1,V I 0,V I 7,V I 0,V I 1,J ⟨#[]⟩] 30)=W:=⟨_,rfl⟩
 have hI:Hid (ct w w5 w.heap.size (sN 0) (fun _=>[])∧Cls w5 w4.heap.size (aH dr sdH)∧w.heap.size<w4.heap.size):=by
  have hg:=hg4.out.below
  have hg5:Gr w4 w5:=by rw[←hw5];exact (gR w4).alloc _
  obtain ⟨⟨P,hP,_⟩,_⟩:=hI1.out
  rw[hE.out.1]
  exact ⟨(hI1.out.below hg).below hg5.below,by rw[←hw5];exact Cls.new w4 _ _,nL hP.lt hg.size⟩
 clear hg4 hI1
 go_wp2
 try rw[hw5]
 clear hw5
 go_loopw [15] (fun v15 wr=>∃k:Nat,k≤3∧v15= V I k∧Hid (ct w wr w.heap.size (sN k) (fun _=>[])∧Cls wr w4.heap.size (aH dr sdH)∧w.heap.size<w4.heap.size)) (fun v15 _=>3-(intOf v15).toNat)
 case atStart=>exact ⟨0,by omega,rfl,hI⟩
 clear hI
 rename World=>wr
 obtain ⟨k,hk,rfl,hI⟩:=hrel
 by_cases hk3:k<3
 ·have hkz:(k:Int)<3:=by omega
  obtain ⟨h1,h2,h3,h4⟩:=hE.out.2.2 k hk3
  obtain ⟨y,hy⟩:∃y,sdH[k]'hk3=(y,[]):=⟨(sdH[k]'hk3).1,by rw[←h2]⟩
  rw[hy] at h1 h3 h4
  have hf:=gS j8 sdH k hk3
  rw[hy] at hf
  have c0:=hI.out.2.1.cell (j:=k*10+0) (hf 0 (by omega))
  have c1:=hI.out.2.1.cell (j:=k*10+1) (hf 1 (by omega))
  have c2:=hI.out.2.1.cell (j:=k*10+2) (hf 2 (by omega))
  have c3:=hI.out.2.1.cell (j:=k*10+3) (hf 3 (by omega))
  have c4:=hI.out.2.1.cell (j:=k*10+4) (hf 4 (by omega))
  have c5:=hI.out.2.1.cell (j:=k*10+5) (hf 5 (by omega))
  have c6:=hI.out.2.1.cell (j:=k*10+6) (hf 6 (by omega))
  have c7:=hI.out.2.1.cell (j:=k*10+7) (hf 7 (by omega))
  have c8:=hI.out.2.1.cell (j:=k*10+8) (hf 8 (by omega))
  have c9:=hI.out.2.1.cell (j:=k*10+9) (hf 9 (by omega))
  rw[Nat.add_zero] at c0
  go_upto_region 5 with fail
  obtain ⟨wb,hwb⟩:∃W,wr.alloc (Z #[V I y.k,V I y.a,V I y.b,V I y.n,V I y.e1,V I y.e2,V I y.e3,V I y.e4,V I y.e5,J ⟨#[]⟩] 30)=W:=⟨_,rfl⟩
  have hgb:Gr wr wb:=by rw[←hwb];exact (gR _).alloc _
  have hBx:Cls wb wr.heap.size [V I y.k,V I y.a,V I y.b,V I y.n,V I y.e1,V I y.e2,V I y.e3,V I y.e4,V I y.e5,J ⟨#[]⟩]:=by rw[←hwb];exact Cls.new _ _ _
  obtain ⟨b0,b1,b2,b3,b4,b5,b6,b7,b8,b9⟩:=jU hBx
  have hD:Hid _:=one.out y h1 (hI.out.1.below hgb.below) h3 h4
  have hSb:Hid (Cls wb w4.heap.size (aH dr sdH)∧w.heap.size<w4.heap.size):=⟨hI.out.2.1.gr hgb,hI.out.2.2⟩
  rw[hwb]
  clear hgb hBx hf hy h1 h2 h3 h4 hI hwb c0 c1 c2 c3 c4 c5 c6 c7 c8 c9
  go_wp2_with fail
  refine cM (show Calls _ _ _ _ _ from hD.out) ?_
  rintro e wd ⟨rfl,f1,f2⟩
  have hF:Hid (ct w wd w.heap.size (sN (k+1)) (fun _=>[])∧Cls wd w4.heap.size (aH dr sdH)∧w.heap.size<w4.heap.size):=⟨f1,hSb.out.1.keep (f2.oth _ hSb.out.1.lt (by have:=hSb.out.2;omega)),hSb.out.2⟩
  clear f1 f2 hD hSb b0 b1 b2 b3 b4 b5 b6 b7 b8 b9
  go_wp2
  go_roundw
  case rel=>exact ⟨k+1,by omega,by go_num,hF⟩
  case measure=>simp[intOf];omega
 have hkz:¬(k:Int)<3:=by omega
 obtain rfl:k=3:=by omega
 rw[hE.out.2.1] at hI
 have hM1:Hid _:=uI hI.out.1 hI3.out
 go_wp2_with fail
 refine cM (show Calls _ _ _ _ _ from hM1.out) ?_
 rintro e w6 ⟨rfl,f1,f2⟩
 have hJ:Hid (ct w w6 w.heap.size (dd N3) (fun _=>[])):=f1
 clear f1 f2 hM1 hI
 go_wp2_with fail
 refine cM (hDl.out _) ?_
 rintro e w7 ⟨rfl,g7⟩
 have hD:Hid _:=one.out (kZ 2 7) rfl (hJ.out.below g7.below) hE5.out.1 hE5.out.2
 clear g7 hDl hJ
 go_wp2_with fail
 refine cM (show Calls _ _ _ _ _ from hD.out) ?_
 rintro e w8 ⟨rfl,f1,f2⟩
 have hJ:Hid (ct w w8 w.heap.size N5 (fun _=>[])):=f1
 clear f1 f2 hD
 go_wp2_with fail
 refine cM (hP4.out _) ?_
 rintro e w9 ⟨rfl,g9⟩
 have hD:Hid _:=one.out (eF 3 7 2 9) rfl (hJ.out.below g9.below) hE6.out.1 hE6.out.2
 clear g9 hP4 hJ
 go_wp2_with fail
 refine cM (show Calls _ _ _ _ _ from hD.out) ?_
 rintro e w10 ⟨rfl,f1,f2⟩
 have hJ:Hid (ct w w10 w.heap.size N6 (fun _=>[])):=f1
 clear f1 f2 hD
 have hM1:Hid _:=uI hJ.out hI6.out.1
 go_wp2_with fail
 refine cM (show Calls _ _ _ _ _ from hM1.out) ?_
 rintro e w11 ⟨rfl,f1,f2⟩
 have hK:Hid (ct w w11 w.heap.size (dd N6) (fun _=>[])):=f1
 clear f1 f2 hM1 hJ
 go_wp2
 go_loopw [44] (fun v44 wr=>∃i:Nat,i≤4∧v44= V I i∧Hid (ct w wr w.heap.size (dd N6) (fun _=>[]))) (fun v44 _=>4-(intOf v44).toNat)
 case atStart=>exact ⟨0,by omega,rfl,hK⟩
 case round =>
  obtain ⟨i,hi,rfl,hJ⟩:=hrel
  by_cases hi4:i<4
  rotate_left
  ·have hz:¬(i:Int)<4:=by omega
   go_wp2
   go_ret
   exact ⟨rfl,hJ.out.2.1⟩
  have hiz:(i:Int)<4:=by omega
  have t0:Calls S 17 #[.pointer (some ⟨w.heap.size,0,none⟩),V I i,V I 0] wr fun e w'=>∃v,e= O (.tuple #[v,V I 0])∧TbV wr.heap.size w' v tRR∧Below wr.heap.size wr w':=by
   obtain ⟨⟨P,hP,_⟩,_⟩:=hJ.out
   have:=xr hP i hi4
   rwa [hI6.out.2 i hi4] at this
  have hT0:Hid _:=t0
  clear t0
  go_wp2_with fail
  refine cM (show Calls _ _ _ _ _ from hT0.out) ?_
  rintro e w2 ⟨v,rfl,⟨A,ca,D,cd,rfl,f1⟩,f2⟩
  obtain ⟨w3,hw3⟩:∃W,w2.alloc (Z #[V I tRR.c.c0,V I tRR.c.c1,V I tRR.c.c2,V I tRR.c.c3,K A tRR.c.l.length ca,K D tRR.e.length cd] 43)=W:=⟨_,rfl⟩
  have hg3:Gr w2 w3:=by rw[←hw3];exact (gR w2).alloc _
  have hBx:Cls w3 w2.heap.size (T6 tRR A ca D cd):=by rw[←hw3];exact Cls.new w2 _ _
  obtain ⟨b0,b1,b2,b3,b4,b5⟩:=iB hBx
  have o0:=yo tRR A ca D cd w3 (by decide) (by decide) (f1.row.gr hg3) (f1.cel.gr hg3)
  rw[sd8.1,sd8.2] at o0
  have hO:Hid _:=o0
  have hB3:Hid (ct w w3 w.heap.size (dd N6) (fun _=>[])):=(hJ.out.below f2).below hg3.below
  clear o0 f1 f2 hg3 hBx hT0 hJ
  go_wp2_with fail
  try rw[hw3]
  clear hw3
  refine cM (show Calls _ _ _ _ _ from hO.out) ?_
  rintro e w4 ⟨L,C,c,rfl,g1,g2,g3,g4⟩
  obtain ⟨W,hW⟩:∃W,((w4.alloc (Z #[V I 3,V I 4,V I 5,V I 0] 3)).alloc (Z #[V I 7,V I 0,V I 0,V I 9] 3)).alloc (Z #[K (some ⟨w4.heap.size,0,none⟩) 4 4,V I 1,K (some ⟨w4.heap.size+1,0,none⟩) 4 4,V I 1] 62)=W:=⟨_,rfl⟩
  have hgW:Gr w4 W:=by rw[←hW];exact (((gR w4).alloc _).alloc _).alloc _
  have hS:Hid (Calls S 13 #[K C L.length c,K (some ⟨w4.heap.size+2,0,none⟩) 2 2] W fun e w'=>e= O (.bool true)∧Gr W w'):=by
   have h2:ax aJ 2 W (some ⟨w4.heap.size+2,0,none⟩) [⟨some ⟨w4.heap.size,0,none⟩,4,[3,4,5,0],1⟩,⟨some ⟨w4.heap.size+1,0,none⟩,4,[7,0,0,9],1⟩]:=by rw[←hW];exact kx bz (by simp) _ _ _ rfl
   have r1:ay W (some ⟨w4.heap.size,0,none⟩) [3,4,5,0]:=by rw[←hW];exact ((kx (enc:=fu) (k:=1) bT (W:=w4) rfl [3,4,5,0] 3 _ rfl).gr ((gR _).alloc _)).gr ((gR _).alloc _)
   have r2:ay W (some ⟨w4.heap.size+1,0,none⟩) [7,0,0,9]:=by rw[←hW];exact (kx (enc:=fu) (k:=1) bT (W:=w4.alloc (Z #[V I 3,V I 4,V I 5,V I 0] 3)) (by simp) [7,0,0,9] 3 _ rfl).gr ((gR _).alloc _)
   have hl:L.length≤maxLen:=by
    have:=congrArg List.length g1
    rw[List.length_map] at this
    rw[this]
    decide
   have hs:=nj L [⟨some ⟨w4.heap.size,0,none⟩,4,[3,4,5,0],1⟩,⟨some ⟨w4.heap.size+1,0,none⟩,4,[7,0,0,9],1⟩] C (some ⟨w4.heap.size+2,0,none⟩) c 2 W hl (g2.gr hgW) ⟨h2,fun x hx=>by
    rcases List.mem_cons.1 hx with rfl|hx
    ·exact ⟨r1,(show (4:Nat)≤maxLen by decide),fun h=>by cases h⟩
    ·rw[List.mem_singleton.1 hx]
     exact ⟨r2,(show (4:Nat)≤maxLen by decide),fun h=>by cases h⟩⟩
   rw[g1] at hs
   exact hs
  have hB4:Hid (ct w W w.heap.size (dd N6) (fun _=>[])):=(hB3.out.below g4).below hgW.below
  clear g1 g2 g3 g4 hgW hO hB3
  go_wp2_with fail
  try rw[hW]
  clear hW
  refine cM (show Calls _ _ _ _ _ from hS.out) ?_
  rintro e w5 ⟨rfl,g5⟩
  have hB5:Hid (ct w w5 w.heap.size (dd N6) (fun _=>[])):=hB4.out.below g5.below
  clear g5 hS hB4
  go_wp2
  go_roundw
  case rel=>exact ⟨i+1,by omega,by go_num,hB5⟩
  case measure=>simp[intOf];omega

section
variable {w wr w':World} {X Y:Nat} {M M' N:NetM} {Q Q' R:Nat→List (List Stp)}
end
end Go.Proofs.YtfedpiamlpflhaaGreatDoor
