/-
  viewtop.tables, same.
  What all of it is for, over plain data: packets in whatever order, what was missing, who puts while others delete, what is deleted.
  What happens at first, in numbers: sorts that can be reckoned with.
  viewtop.put, del; what happens at first, over plain data.
-/
import Derived.Test.YtfedpiamlpflhaaGreatDoorM41
set_option maxRecDepth 100000
set_option maxHeartbeats 8000000
open Go.IntKind renaming i64 → I
open Go.Value renaming int → V, slice → O, agg → J
namespace Go.Proofs.YtfedpiamlpflhaaGreatDoor
open Go.RowKit Go.Sort

theorem yc (a b c d e f g h i j k l:Value) (w:World):(Instr.build 44 #[(0,J #[a,b,c,d,e,f]),(1,J #[g,h,i,j,k,l])]).run Tryz.prog w= .ok (J #[a,b,c,d,e,f,g,h,i,j,k,l]) w:=by kernel_rfl
theorem tv {w:World} {B:Nat} {P:Nat→Prop} {M:NetM} {Q:Nat→List (List Stp)} (h:NetP w B P M Q) (i:Nat) (hi:i<4) :
  Calls Tryz.prog 9 #[.pointer (some ⟨B,0,none⟩),V I i] w fun e w'=>∃v,e= .returned (.tuple #[v,.bool true])∧PkW w.heap.size w' v (M.s i) (M.t i)∧Below w.heap.size w w':=by
 obtain ⟨w1,hw1⟩:∃W,w.alloc (.cells #[V I 0,V I 0,V I 0,V I 0,O none 0 0,O none 0 0,V I 0,V I 0,V I 0,V I 0,O none 0 0,O none 0 0] 44)=W:=⟨_,rfl⟩
 have hg1:Gr w w1:=by rw[←hw1];exact (gR w).alloc _
 have hC1:Hid (Cls w1 w.heap.size Z2∧Gr w w1):=⟨by rw[←hw1];exact Cls.new w _ _,hg1⟩
 have hH:Hid (NetP w1 B P M Q∧i<4):=⟨h.below hg1.below,hi⟩
 obtain ⟨S,hS⟩:∃S,M.s i=S:=⟨_,rfl⟩
 obtain ⟨T,hT⟩:∃T,M.t i=T:=⟨_,rfl⟩
 have t0:=rQ (h.below hg1.below) i hi
 rw[hS] at t0
 have hT0:Hid _:=t0
 have hTT:Hid (M.t i=T):=hT
 rw[hS,hT]
 clear h hi hg1 hS hT t0
 go_enter Tryz.func9,Tryz.ntmps9
 go_wp2_with fail
 try rw[hw1]
 clear hw1
 refine cM (show Calls _ _ _ _ _ from hT0.out) ?_
 rintro e w2 ⟨v,rfl,⟨EA,eca,EC,ecc,rfl,f1⟩,f2⟩
 obtain ⟨w3,hw3⟩:∃W,w2.alloc (.cells #[V I S.c.c0,V I S.c.c1,V I S.c.c2,V I S.c.c3,O EA S.c.l.length eca,O EC S.e.length ecc] 43)=W:=⟨_,rfl⟩
 have hg3:Gr w2 w3:=by rw[←hw3];exact (gR w2).alloc _
 have hb3:Below w1.heap.size w1 w3:=f2.trans (hg3.below.mono f2.size)
 have hF:Hid (TbW w1.heap.size w3 S EA eca EC ecc∧Below w1.heap.size w1 w3∧Cls w3 w2.heap.size (T6 S EA eca EC ecc)∧w1.heap.size≤w2.heap.size):=⟨f1.below hg3.below,hb3,by rw[←hw3];exact Cls.new w2 _ _,f2.size⟩
 have t1:=xA (hH.out.1.below hb3) i hH.out.2
 rw[hTT.out] at t1
 have hT1:Hid _:=t1
 clear f1 f2 hg3 hb3 t1 hT0
 go_wp2_with fail
 try rw[hw3]
 clear hw3
 refine cM (show Calls _ _ _ _ _ from hT1.out) ?_
 rintro e w4 ⟨v,rfl,⟨EB,ecb,ED,ecd,rfl,f1⟩,f2⟩
 obtain ⟨w5,hw5⟩:∃W,w4.alloc (.cells #[V I T.c.c0,V I T.c.c1,V I T.c.c2,V I T.c.c3,O EB T.c.l.length ecb,O ED T.e.length ecd] 43)=W:=⟨_,rfl⟩
 have hg5:Gr w4 w5:=by rw[←hw5];exact (gR w4).alloc _
 have hb5:Below w3.heap.size w3 w5:=f2.trans (hg5.below.mono f2.size)
 have hG:Hid (TbW w1.heap.size w5 S EA eca EC ecc∧TbW w1.heap.size w5 T EB ecb ED ecd∧Below w1.heap.size w1 w5∧Cls w5 w2.heap.size (T6 S EA eca EC ecc)∧Cls w5 w4.heap.size (T6 T EB ecb ED ecd)∧Cls w5 w.heap.size Z2):=⟨hF.out.1.below hb5,(f1.below hg5.below).mono hF.out.2.1.size,hF.out.2.1.trans (hb5.mono hF.out.2.1.size),hF.out.2.2.1.below hb5,by rw[←hw5];exact Cls.new w4 _ _,(hC1.out.1.below hF.out.2.1).below hb5⟩
 clear f1 f2 hg5 hb5 hT1
 have hx:=yc (V I S.c.c0) (V I S.c.c1) (V I S.c.c2) (V I S.c.c3) (O EA S.c.l.length eca) (O EC S.e.length ecc) (V I T.c.c0) (V I T.c.c1) (V I T.c.c2) (V I T.c.c3) (O EB T.c.l.length ecb) (O ED T.e.length ecd)
 obtain ⟨p0,p1,p2,p3,p4,p5,p6,p7,p8,p9,p10,p11⟩:=f8 hG.out.2.2.2.2.2
 obtain ⟨z0,z1,z2,z3,z4,z5,z6,z7,z8,z9,z10,z11⟩:=mD hG.out.2.2.2.2.2
 have a0:=hG.out.2.2.2.1.cell (j:=0) rfl
 have b0:=hG.out.2.2.2.2.1.cell (j:=0) rfl
 have a1:=hG.out.2.2.2.1.cell (j:=1) rfl
 have b1:=hG.out.2.2.2.2.1.cell (j:=1) rfl
 have a2:=hG.out.2.2.2.1.cell (j:=2) rfl
 have b2:=hG.out.2.2.2.2.1.cell (j:=2) rfl
 have a3:=hG.out.2.2.2.1.cell (j:=3) rfl
 have b3:=hG.out.2.2.2.2.1.cell (j:=3) rfl
 have a4:=hG.out.2.2.2.1.cell (j:=4) rfl
 have b4:=hG.out.2.2.2.2.1.cell (j:=4) rfl
 have a5:=hG.out.2.2.2.1.cell (j:=5) rfl
 have b5:=hG.out.2.2.2.2.1.cell (j:=5) rfl
 go_upto_region 3 with fail
 try rw[hw5]
 clear hw5
 go_wp2
 have hlt:w.heap.size<w1.heap.size:=hC1.out.1.lt
 have hb:Below w.heap.size w w5:=hC1.out.2.below.trans (hG.out.2.2.1.mono hC1.out.2.size)
 have hAg:Agr (fun b=>w1.heap.size≤b) w5 ((((((((((((w5.setCell ⟨w.heap.size,0,none⟩ (V I S.c.c0)).setCell ⟨w.heap.size,1,none⟩ (V I S.c.c1)).setCell ⟨w.heap.size,2,none⟩ (V I S.c.c2)).setCell ⟨w.heap.size,3,none⟩ (V I S.c.c3)).setCell ⟨w.heap.size,4,none⟩ (O EA S.c.l.length eca)).setCell ⟨w.heap.size,5,none⟩ (O EC S.e.length ecc)).setCell ⟨w.heap.size,6,none⟩ (V I T.c.c0)).setCell ⟨w.heap.size,7,none⟩ (V I T.c.c1)).setCell ⟨w.heap.size,8,none⟩ (V I T.c.c2)).setCell ⟨w.heap.size,9,none⟩ (V I T.c.c3)).setCell ⟨w.heap.size,10,none⟩ (O EB T.c.l.length ecb)).setCell ⟨w.heap.size,11,none⟩ (O ED T.e.length ecd)):=((((((((((((aS _ fun h=>by omega).trans (aS _ fun h=>by omega)).trans (aS _ fun h=>by omega)).trans (aS _ fun h=>by omega)).trans (aS _ fun h=>by omega)).trans (aS _ fun h=>by omega)).trans (aS _ fun h=>by omega)).trans (aS _ fun h=>by omega)).trans (aS _ fun h=>by omega)).trans (aS _ fun h=>by omega)).trans (aS _ fun h=>by omega)).trans (aS _ fun h=>by omega))
 have hfin:Hid (TbW w.heap.size ((((((((((((w5.setCell ⟨w.heap.size,0,none⟩ (V I S.c.c0)).setCell ⟨w.heap.size,1,none⟩ (V I S.c.c1)).setCell ⟨w.heap.size,2,none⟩ (V I S.c.c2)).setCell ⟨w.heap.size,3,none⟩ (V I S.c.c3)).setCell ⟨w.heap.size,4,none⟩ (O EA S.c.l.length eca)).setCell ⟨w.heap.size,5,none⟩ (O EC S.e.length ecc)).setCell ⟨w.heap.size,6,none⟩ (V I T.c.c0)).setCell ⟨w.heap.size,7,none⟩ (V I T.c.c1)).setCell ⟨w.heap.size,8,none⟩ (V I T.c.c2)).setCell ⟨w.heap.size,9,none⟩ (V I T.c.c3)).setCell ⟨w.heap.size,10,none⟩ (O EB T.c.l.length ecb)).setCell ⟨w.heap.size,11,none⟩ (O ED T.e.length ecd)) S EA eca EC ecc∧TbW w.heap.size ((((((((((((w5.setCell ⟨w.heap.size,0,none⟩ (V I S.c.c0)).setCell ⟨w.heap.size,1,none⟩ (V I S.c.c1)).setCell ⟨w.heap.size,2,none⟩ (V I S.c.c2)).setCell ⟨w.heap.size,3,none⟩ (V I S.c.c3)).setCell ⟨w.heap.size,4,none⟩ (O EA S.c.l.length eca)).setCell ⟨w.heap.size,5,none⟩ (O EC S.e.length ecc)).setCell ⟨w.heap.size,6,none⟩ (V I T.c.c0)).setCell ⟨w.heap.size,7,none⟩ (V I T.c.c1)).setCell ⟨w.heap.size,8,none⟩ (V I T.c.c2)).setCell ⟨w.heap.size,9,none⟩ (V I T.c.c3)).setCell ⟨w.heap.size,10,none⟩ (O EB T.c.l.length ecb)).setCell ⟨w.heap.size,11,none⟩ (O ED T.e.length ecd)) T EB ecb ED ecd∧Below w.heap.size w ((((((((((((w5.setCell ⟨w.heap.size,0,none⟩ (V I S.c.c0)).setCell ⟨w.heap.size,1,none⟩ (V I S.c.c1)).setCell ⟨w.heap.size,2,none⟩ (V I S.c.c2)).setCell ⟨w.heap.size,3,none⟩ (V I S.c.c3)).setCell ⟨w.heap.size,4,none⟩ (O EA S.c.l.length eca)).setCell ⟨w.heap.size,5,none⟩ (O EC S.e.length ecc)).setCell ⟨w.heap.size,6,none⟩ (V I T.c.c0)).setCell ⟨w.heap.size,7,none⟩ (V I T.c.c1)).setCell ⟨w.heap.size,8,none⟩ (V I T.c.c2)).setCell ⟨w.heap.size,9,none⟩ (V I T.c.c3)).setCell ⟨w.heap.size,10,none⟩ (O EB T.c.l.length ecb)).setCell ⟨w.heap.size,11,none⟩ (O ED T.e.length ecd))):=⟨(hG.out.1.agr hAg).mono (by omega),(hG.out.2.1.agr hAg).mono (by omega),((((((((((((hb.setCell (nR _) _).setCell (nR _) _).setCell (nR _) _).setCell (nR _) _).setCell (nR _) _).setCell (nR _) _).setCell (nR _) _).setCell (nR _) _).setCell (nR _) _).setCell (nR _) _).setCell (nR _) _).setCell (nR _) _)⟩
 clear hlt hb hAg
 exact bodyPost_ret (v:= .tuple #[J (T2 S EA eca EC ecc T EB ecb ED ecd).toArray,.bool true]) (by simp[results,Tryz.results9,go_sem,p0,p1,p2,p3,p4,p5,p6,p7,p8,p9,p10,p11]) rfl ⟨_,rfl,⟨EA,eca,EC,ecc,EB,ecb,ED,ecd,rfl,hfin.out.1,hfin.out.2.1⟩,hfin.out.2.2⟩

section
variable {U:List Cel} {x:Nat→Tab} {ps:List Tab}
end
section
open Go.Shelf Go.Lib
set_option linter.unusedSimpArgs false

def uD {α : Type} (le: α → α → Bool) (x: α):List α → List α
 | []=>[x]
 | y::l=>if le x y then x::y::l else y::uD le x l
def isr {α : Type} (le: α → α → Bool):List α → List α
 | []=>[]
 | x::l=>uD le x (isr le l)
theorem oY {α : Type} {le: α → α → Bool} {x: α}:∀(a b:List α),(∀y∈a,le x y=false)→(∀y∈b,le x y=true)→uD le x (a++b)=a++x::b
 | [],[],_,_=>rfl
 | [],y::b,_,h=>by simp[uD,h y (List.mem_cons_self ..)]
 | y::a,b,h,k=>by
  rw[List.cons_append,uD,if_neg (by simp[h y (List.mem_cons_self ..)]),oY a b (fun z hz=>h z (mC _ hz)) k]
  rfl
theorem nO {α : Type} {le: α → α → Bool} (tr:∀a b c,le a b=true→le b c=true→le a c=true) (tl:∀a b,(le a b || le b a)=true):∀l:List α,l.mergeSort le=isr le l
 | []=>by simp[isr]
 | x::l=>by
  obtain ⟨a,b,h1,h2,h3⟩:=List.mergeSort_cons tr tl x l
  have hs:=List.pairwise_mergeSort tr tl (x::l)
  rw[h1] at hs
  rw[isr,←nO tr tl l,h2,h1,oY a b (fun y hy=>by simpa using h3 y hy) fun y hy=> ?_]
  exact (List.pairwise_cons.1 (List.pairwise_append.1 hs).2.1).1 y hy
theorem iW (l:List (Int×Int)):srt l=isr (fun x y=> !ltOf dQ y x) l:=by
 unfold srt
 refine nO (fun a b c h1 h2=> ?_) (fun a b=> ?_) l
 ·simp only[ltD,Bool.not_eq_true'] at *
  exact gY (x:=a) (y:=b) (z:=c) h1 h2
 ·simp only[ltD,Bool.or_eq_true,Bool.not_eq_true']
  exact mO a b
theorem gh (l:List Cel):gg l=isr (fun x y=> !fl y x) l:=by
 unfold gg
 refine nO (fun a b c=> ?_) (fun a b=> ?_) l
 ·simp[fl,bq];omega
 ·simp[fl,bq];omega
theorem vb (l:List Int):cF l=compact (isr (fun x y=>decide (x≤y)) l):=by
 unfold cF
 rw[nO (fun a b c h1 h2=> ?_) (fun a b=> ?_) l]
 ·simp at h1 h2 ⊢;omega
 ·simp;omega
def tT0:Tab:=⟨⟨1,0,0,0,[]⟩,[((0,1),3,0,4)]⟩
def tTa:Tab:=⟨⟨0,1,0,0,[]⟩,[((1,1),3,1,5)]⟩
def tT1:Tab:=⟨⟨0,2,0,0,[]⟩,[((1,1),3,1,5),((1,2),7,0,1)]⟩
def tMM:Tab:=⟨⟨1,2,0,0,[]⟩,[((0,1),3,0,4),((1,1),3,1,5),((1,2),7,0,1)]⟩
def tD2:Tab:=⟨⟨1,2,0,0,[]⟩,[((0,1),3,0,4),((1,1),3,1,5)]⟩
def tE3:Tab:=⟨⟨1,2,0,1,[]⟩,[((0,1),3,0,4),((1,1),3,1,5),((1,2),7,0,1),((3,1),7,2,9)]⟩
def tRR:Tab:=⟨⟨1,2,0,1,[]⟩,[((0,1),3,0,4),((1,1),3,1,5),((3,1),7,2,9)]⟩
theorem sd1:doE dw 0 1 3 0 4=0∧doT dw 0 1 3 0 4=tT0:=by
 simp only[doT,doE,edE,edT,cY,cH,ak,ac,aD,aA,cS,dN,aB,mrg,iW,gh]
 exact ⟨by kernel_rfl,by kernel_rfl⟩
theorem sd2:doE dw 1 1 3 1 5=0∧doT dw 1 1 3 1 5=tTa:=by
 simp only[doT,doE,edE,edT,cY,cH,ak,ac,aD,aA,cS,dN,aB,mrg,iW,gh]
 exact ⟨by kernel_rfl,by kernel_rfl⟩
theorem sd3:doE tTa 1 1 7 0 1=0∧doT tTa 1 1 7 0 1=tT1:=by
 simp only[doT,doE,edE,edT,cY,cH,ak,ac,aD,aA,cS,dN,aB,mrg,iW,gh]
 exact ⟨by kernel_rfl,by kernel_rfl⟩
theorem sd4:ac (ac (ac tT0 tT1) dw) dw=tMM:=by
 simp only[ak,ac,aD,aA,cS,dN,mrg,iW,gh]
 kernel_rfl
theorem sd5:doE tMM 2 2 7 0 0=0∧doT tMM 2 2 7 0 0=tD2:=by
 simp only[doT,doE,edE,edT,ew,cC,ak,ac,aD,aA,cS,dN,aB,mrg,iW,gh]
 exact ⟨by kernel_rfl,by kernel_rfl⟩
theorem sd6:doE tMM 3 1 7 2 9=0∧doT tMM 3 1 7 2 9=tE3:=by
 simp only[doT,doE,edE,edT,cY,cH,ak,ac,aD,aA,cS,dN,aB,mrg,iW,gh]
 exact ⟨by kernel_rfl,by kernel_rfl⟩
theorem sd7:ac (ac (ac tMM tMM) tD2) tE3=tRR:=by
 simp only[ak,ac,aD,aA,cS,dN,mrg,iW,gh]
 kernel_rfl
theorem sd8:aq tRR=0∧ofR tRR=[([3,4,5,0],1),([7,0,0,9],1)]:=by
 simp only[ofR,ofL,cV,vb]
 exact ⟨by kernel_rfl,by kernel_rfl⟩
end

def eC (n key col v:Int):Hap:=⟨1,n,0,0,1,0,key,col,v⟩
def l6 (n key:Int):Hap:=⟨1,n,0,0,2,0,key,0,0⟩
theorem jh (n key col v:Int) (w:World):Calls Tryz.prog 15 #[V I n,V I key,V I col,V I v] w fun e w'=>e= .returned (J (fu (eC n key col v,[])).toArray)∧Gr w w':=by
 have hg:Hid (Gr w (w.alloc (.cells (fu (eC n key col v,[])).toArray 30))):=(gR w).alloc _
 go_enter Tryz.func15,Tryz.ntmps15
 go_wp2
 exact bodyPost_ret (v:= J (fu (eC n key col v,[])).toArray) (by simp[results,Tryz.results15,go_sem,fu,eC]) rfl ⟨rfl,hg.out⟩
theorem uB (n key:Int) (w:World):Calls Tryz.prog 16 #[V I n,V I key] w fun e w'=>e= .returned (J (fu (l6 n key,[])).toArray)∧Gr w w':=by
 have hg:Hid (Gr w (w.alloc (.cells (fu (l6 n key,[])).toArray 30))):=(gR w).alloc _
 go_enter Tryz.func16,Tryz.ntmps16
 go_wp2
 exact bodyPost_ret (v:= J (fu (l6 n key,[])).toArray) (by simp[results,Tryz.results16,go_sem,fu,l6]) rfl ⟨rfl,hg.out⟩
theorem hed (N:NetM) (y:Hap) (i:Nat) (hk:y.k=1) (ha:y.a=i) (hi:i<4) (h2:y.e2=0):ch N y=doE (N.s i) i y.e1 y.e3 y.e4 y.e5∧bE N y=⟨upd N.s i (doT (N.s i) i y.e1 y.e3 y.e4 y.e5),N.t,N.pk⟩:=by
 have hn:isN y.a:=⟨by omega,by omega⟩
 constructor
 ·unfold ch
  rw[if_pos hk,if_pos hn,ha,Int.toNat_natCast]
  unfold ndE
  rw[if_pos h2]
 ·unfold bE
  rw[if_pos hk,if_pos hn,ha,Int.toNat_natCast]
  unfold ru ndS ndT
  rw[if_pos h2,if_neg (by omega),fN]
theorem yG:∃N1 N2 N3 N5 N6,ch dn (eC 0 3 0 4)=0∧bE dn (eC 0 3 0 4)=N1∧ch N1 (eC 1 3 1 5)=0∧bE N1 (eC 1 3 1 5)=N2∧ch N2 (eC 1 7 0 1)=0∧bE N2 (eC 1 7 0 1)=N3∧NInv 3 N3∧ch (di N3) (l6 2 7)=0∧bE (di N3) (l6 2 7)=N5∧ch N5 (eC 3 7 2 9)=0∧bE N5 (eC 3 7 2 9)=N6∧NInv 5 N6∧∀i,i<4→(di N6).s i=tRR:=by
 obtain ⟨e1,m1⟩:=hed dn (eC 0 3 0 4) 0 rfl rfl (by omega) rfl
 have I1:=NInv.new.hap (by omega) (eC 0 3 0 4)
 have e1:=e1.trans sd1.1
 have m1:=m1.trans (congrArg (fun t=>NetM.mk (upd dn.s 0 t) dn.t dn.pk) sd1.2)
 rw[m1] at I1
 obtain ⟨e2,m2⟩:=hed ⟨upd dn.s 0 tT0,dn.t,dn.pk⟩ (eC 1 3 1 5) 1 rfl rfl (by omega) rfl
 have I2:=I1.hap (by omega) (eC 1 3 1 5)
 have e2:=e2.trans sd2.1
 have m2:=m2.trans (congrArg (fun t=>NetM.mk (upd (upd dn.s 0 tT0) 1 t) dn.t dn.pk) sd2.2)
 rw[m2] at I2
 obtain ⟨e3,m3⟩:=hed ⟨upd (upd dn.s 0 tT0) 1 tTa,dn.t,dn.pk⟩ (eC 1 7 0 1) 1 rfl rfl (by omega) rfl
 have I3:=I2.hap (by omega) (eC 1 7 0 1)
 have e3:=e3.trans sd3.1
 have m3:=m3.trans (congrArg (fun t=>NetM.mk (upd (upd (upd dn.s 0 tT0) 1 tTa) 1 t) dn.t dn.pk) sd3.2)
 rw[m3] at I3
 obtain ⟨I4,s4,_⟩:=I3.met
 obtain ⟨N4,h4⟩:∃N,di ⟨upd (upd (upd dn.s 0 tT0) 1 tTa) 1 tT1,dn.t,dn.pk⟩=N:=⟨_,rfl⟩
 rw[h4] at I4 s4
 have a4:∀j,j<4→N4.s j=tMM:=fun j hj=>(s4 j hj).trans sd4
 obtain ⟨e5,m5⟩:=hed N4 (l6 2 7) 2 rfl rfl (by omega) rfl
 have I5:=I4.hap (by omega) (l6 2 7)
 rw[a4 2 (by omega)] at e5 m5
 have e5:=e5.trans sd5.1
 have m5:=m5.trans (congrArg (fun t=>NetM.mk (upd N4.s 2 t) N4.t N4.pk) sd5.2)
 rw[m5] at I5
 obtain ⟨e6,m6⟩:=hed ⟨upd N4.s 2 tD2,N4.t,N4.pk⟩ (eC 3 7 2 9) 3 rfl rfl (by omega) rfl
 have I6:=I5.hap (by omega) (eC 3 7 2 9)
 have x3:upd N4.s 2 tD2 3=tMM:=(eh _ _ (by omega)).trans (a4 3 (by omega))
 rw[show (NetM.mk (upd N4.s 2 tD2) N4.t N4.pk).s 3=tMM from x3] at e6 m6
 have e6:=e6.trans sd6.1
 have m6:=m6.trans (congrArg (fun t=>NetM.mk (upd (upd N4.s 2 tD2) 3 t) N4.t N4.pk) sd6.2)
 rw[m6] at I6
 refine ⟨_,_,_,_,_,e1,m1,e2,m2,e3,m3,I3,by rw[h4];exact e5,by rw[h4];exact m5,e6,m6,I6,fun i hi=> ?_⟩
 obtain ⟨_,s7,_⟩:=I6.met
 rw[s7 i hi]
 show ac (ac (ac (upd (upd N4.s 2 tD2) 3 tE3 0) (upd (upd N4.s 2 tD2) 3 tE3 1)) (upd (upd N4.s 2 tD2) 3 tE3 2)) (upd (upd N4.s 2 tD2) 3 tE3 3)=tRR
 rw[show upd (upd N4.s 2 tD2) 3 tE3 0=tMM from a4 0 (by omega),show upd (upd N4.s 2 tD2) 3 tE3 1=tMM from a4 1 (by omega),show upd (upd N4.s 2 tD2) 3 tE3 2=tD2 from rfl,show upd (upd N4.s 2 tD2) 3 tE3 3=tE3 from rfl]
 exact sd7
end Go.Proofs.YtfedpiamlpflhaaGreatDoor
