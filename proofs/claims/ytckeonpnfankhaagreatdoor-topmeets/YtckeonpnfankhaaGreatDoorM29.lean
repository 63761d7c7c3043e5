/-
  viewtop.tables, same.
  What all of it is for, over plain data: packets in whatever order, what was missing, who puts while others delete, what is deleted.
  What happens at first, in numbers: sorts that can be reckoned with.
  viewtop.put, del; what happens at first, over plain data.
  viewtop.said: two nodes that edited apart come together.
  TopMeets: whatever happened, when all have met they have the same.
-/
import Derived.Test.YtckeonpnfankhaaGreatDoorM28
set_option maxRecDepth 100000
set_option maxHeartbeats 8000000
namespace Go.Proofs.YtckeonpnfankhaaGreatDoor
open Go.RowKit Go.Sort

theorem xF (a b c d e f g h i j k l:Value) (w:World):(Instr.build 48 #[(0,.agg #[a,b,c,d,e,f]),(1,.agg #[g,h,i,j,k,l])]).run Tryz.prog w= .ok (.agg #[a,b,c,d,e,f,g,h,i,j,k,l]) w:=by kernel_rfl
theorem sS {w:World} {B:Nat} {P:Nat→Prop} {M:NetM} {Q:Nat→List (List Stp)} (h:NetP w B P M Q) (i:Nat) (hi:i<4) :
  Calls Tryz.prog 19 #[.pointer (some ⟨B,0,none⟩),.int .i64 i] w fun e w'=>∃v,e= .returned (.tuple #[v,.bool true])∧PkW w.heap.size w' v (M.s i) (M.t i)∧Below w.heap.size w w':=by
 obtain ⟨w1,hw1⟩:∃W,w.alloc (.cells #[.int .i64 0,.int .i64 0,.int .i64 0,.int .i64 0,.slice none 0 0,.slice none 0 0,.int .i64 0,.int .i64 0,.int .i64 0,.int .i64 0,.slice none 0 0,.slice none 0 0] 48)=W:=⟨_,rfl⟩
 have hg1:Gr w w1:=by rw[←hw1];exact (gR w).alloc _
 have hC1:Hid (Cls w1 w.heap.size Z2∧Gr w w1):=⟨by rw[←hw1];exact Cls.new w _ _,hg1⟩
 have hH:Hid (NetP w1 B P M Q∧i<4):=⟨h.below hg1.below,hi⟩
 obtain ⟨S,hS⟩:∃S,M.s i=S:=⟨_,rfl⟩
 obtain ⟨T,hT⟩:∃T,M.t i=T:=⟨_,rfl⟩
 have t0:=qV (h.below hg1.below) i hi
 rw[hS] at t0
 have hT0:Hid _:=t0
 have hTT:Hid (M.t i=T):=hT
 rw[hS,hT]
 clear h hi hg1 hS hT t0
 go_enter Tryz.func19,Tryz.ntmps19
 go_wp2_with fail
 try rw[hw1]
 clear hw1
 refine cM (show Calls _ _ _ _ _ from hT0.out) ?_
 rintro e w2 ⟨v,rfl,⟨EA,eca,EC,ecc,rfl,f1⟩,f2⟩
 obtain ⟨w3,hw3⟩:∃W,w2.alloc (.cells #[.int .i64 S.c.c0,.int .i64 S.c.c1,.int .i64 S.c.c2,.int .i64 S.c.c3,.slice EA S.c.l.length eca,.slice EC S.e.length ecc] 41)=W:=⟨_,rfl⟩
 have hg3:Gr w2 w3:=by rw[←hw3];exact (gR w2).alloc _
 have hb3:Below w1.heap.size w1 w3:=f2.trans (hg3.below.mono f2.size)
 have hF:Hid (TbW w1.heap.size w3 S EA eca EC ecc∧Below w1.heap.size w1 w3∧Cls w3 w2.heap.size (T6 S EA eca EC ecc)∧w1.heap.size≤w2.heap.size):=⟨f1.below hg3.below,hb3,by rw[←hw3];exact Cls.new w2 _ _,f2.size⟩
 have t1:=wm (hH.out.1.below hb3) i hH.out.2
 rw[hTT.out] at t1
 have hT1:Hid _:=t1
 clear f1 f2 hg3 hb3 t1 hT0
 go_wp2_with fail
 try rw[hw3]
 clear hw3
 refine cM (show Calls _ _ _ _ _ from hT1.out) ?_
 rintro e w4 ⟨v,rfl,⟨EB,ecb,ED,ecd,rfl,f1⟩,f2⟩
 obtain ⟨w5,hw5⟩:∃W,w4.alloc (.cells #[.int .i64 T.c.c0,.int .i64 T.c.c1,.int .i64 T.c.c2,.int .i64 T.c.c3,.slice EB T.c.l.length ecb,.slice ED T.e.length ecd] 41)=W:=⟨_,rfl⟩
 have hg5:Gr w4 w5:=by rw[←hw5];exact (gR w4).alloc _
 have hb5:Below w3.heap.size w3 w5:=f2.trans (hg5.below.mono f2.size)
 have hG:Hid (TbW w1.heap.size w5 S EA eca EC ecc∧TbW w1.heap.size w5 T EB ecb ED ecd∧Below w1.heap.size w1 w5∧Cls w5 w2.heap.size (T6 S EA eca EC ecc)∧Cls w5 w4.heap.size (T6 T EB ecb ED ecd)∧Cls w5 w.heap.size Z2):=⟨hF.out.1.below hb5,(f1.below hg5.below).mono hF.out.2.1.size,hF.out.2.1.trans (hb5.mono hF.out.2.1.size),hF.out.2.2.1.below hb5,by rw[←hw5];exact Cls.new w4 _ _,(hC1.out.1.below hF.out.2.1).below hb5⟩
 clear f1 f2 hg5 hb5 hT1
 have hx:=xF (.int .i64 S.c.c0) (.int .i64 S.c.c1) (.int .i64 S.c.c2) (.int .i64 S.c.c3) (.slice EA S.c.l.length eca) (.slice EC S.e.length ecc) (.int .i64 T.c.c0) (.int .i64 T.c.c1) (.int .i64 T.c.c2) (.int .i64 T.c.c3) (.slice EB T.c.l.length ecb) (.slice ED T.e.length ecd)
 obtain ⟨p0,p1,p2,p3,p4,p5,p6,p7,p8,p9,p10,p11⟩:=eS hG.out.2.2.2.2.2
 obtain ⟨z0,z1,z2,z3,z4,z5,z6,z7,z8,z9,z10,z11⟩:=mA hG.out.2.2.2.2.2
 have a0:=hG.out.2.2.2.1.cell (j:=0) rfl
 have b0:=hG.out.2.2.2.2.1.cell (j:=0) rfl
 have a1:=hG.out.2.2.2.1.cell (j:=1) rfl
 have b1:=hG.out.2.2.2.2.1.cell (j:=1) rfl
 have a2:=hG.out.2.2.2.1.cell (j:=2) rfl
 have b2:=hG.out.2.2.2.2.1.cell (j:=2) rfl
 have a3:=hG.out.2.2.2.1.cell (j:=3) rfl
 have b3:=hG.out.2.2.2.2.1.cell (j:=3) rfl
 have a4:=hG.out.2.2.2.1.cell (j:=4) rfl
 have b4:=hG.out.2.2.2.2.1.cell (j:=4) rfl
 have a5:=hG.out.2.2.2.1.cell (j:=5) rfl
 have b5:=hG.out.2.2.2.2.1.cell (j:=5) rfl
 go_upto_region 3 with fail
 try rw[hw5]
 clear hw5
 go_wp2
 have hlt:w.heap.size<w1.heap.size:=hC1.out.1.lt
 have hb:Below w.heap.size w w5:=hC1.out.2.below.trans (hG.out.2.2.1.mono hC1.out.2.size)
 have hAg:Agr (fun b=>w1.heap.size≤b) w5 ((((((((((((w5.setCell ⟨w.heap.size,0,none⟩ (.int .i64 S.c.c0)).setCell ⟨w.heap.size,1,none⟩ (.int .i64 S.c.c1)).setCell ⟨w.heap.size,2,none⟩ (.int .i64 S.c.c2)).setCell ⟨w.heap.size,3,none⟩ (.int .i64 S.c.c3)).setCell ⟨w.heap.size,4,none⟩ (.slice EA S.c.l.length eca)).setCell ⟨w.heap.size,5,none⟩ (.slice EC S.e.length ecc)).setCell ⟨w.heap.size,6,none⟩ (.int .i64 T.c.c0)).setCell ⟨w.heap.size,7,none⟩ (.int .i64 T.c.c1)).setCell ⟨w.heap.size,8,none⟩ (.int .i64 T.c.c2)).setCell ⟨w.heap.size,9,none⟩ (.int .i64 T.c.c3)).setCell ⟨w.heap.size,10,none⟩ (.slice EB T.c.l.length ecb)).setCell ⟨w.heap.size,11,none⟩ (.slice ED T.e.length ecd)):=((((((((((((aS _ fun h=>by omega).trans (aS _ fun h=>by omega)).trans (aS _ fun h=>by omega)).trans (aS _ fun h=>by omega)).trans (aS _ fun h=>by omega)).trans (aS _ fun h=>by omega)).trans (aS _ fun h=>by omega)).trans (aS _ fun h=>by omega)).trans (aS _ fun h=>by omega)).trans (aS _ fun h=>by omega)).trans (aS _ fun h=>by omega)).trans (aS _ fun h=>by omega))
 have hfin:Hid (TbW w.heap.size ((((((((((((w5.setCell ⟨w.heap.size,0,none⟩ (.int .i64 S.c.c0)).setCell ⟨w.heap.size,1,none⟩ (.int .i64 S.c.c1)).setCell ⟨w.heap.size,2,none⟩ (.int .i64 S.c.c2)).setCell ⟨w.heap.size,3,none⟩ (.int .i64 S.c.c3)).setCell ⟨w.heap.size,4,none⟩ (.slice EA S.c.l.length eca)).setCell ⟨w.heap.size,5,none⟩ (.slice EC S.e.length ecc)).setCell ⟨w.heap.size,6,none⟩ (.int .i64 T.c.c0)).setCell ⟨w.heap.size,7,none⟩ (.int .i64 T.c.c1)).setCell ⟨w.heap.size,8,none⟩ (.int .i64 T.c.c2)).setCell ⟨w.heap.size,9,none⟩ (.int .i64 T.c.c3)).setCell ⟨w.heap.size,10,none⟩ (.slice EB T.c.l.length ecb)).setCell ⟨w.heap.size,11,none⟩ (.slice ED T.e.length ecd)) S EA eca EC ecc∧TbW w.heap.size ((((((((((((w5.setCell ⟨w.heap.size,0,none⟩ (.int .i64 S.c.c0)).setCell ⟨w.heap.size,1,none⟩ (.int .i64 S.c.c1)).setCell ⟨w.heap.size,2,none⟩ (.int .i64 S.c.c2)).setCell ⟨w.heap.size,3,none⟩ (.int .i64 S.c.c3)).setCell ⟨w.heap.size,4,none⟩ (.slice EA S.c.l.length eca)).setCell ⟨w.heap.size,5,none⟩ (.slice EC S.e.length ecc)).setCell ⟨w.heap.size,6,none⟩ (.int .i64 T.c.c0)).setCell ⟨w.heap.size,7,none⟩ (.int .i64 T.c.c1)).setCell ⟨w.heap.size,8,none⟩ (.int .i64 T.c.c2)).setCell ⟨w.heap.size,9,none⟩ (.int .i64 T.c.c3)).setCell ⟨w.heap.size,10,none⟩ (.slice EB T.c.l.length ecb)).setCell ⟨w.heap.size,11,none⟩ (.slice ED T.e.length ecd)) T EB ecb ED ecd∧Below w.heap.size w ((((((((((((w5.setCell ⟨w.heap.size,0,none⟩ (.int .i64 S.c.c0)).setCell ⟨w.heap.size,1,none⟩ (.int .i64 S.c.c1)).setCell ⟨w.heap.size,2,none⟩ (.int .i64 S.c.c2)).setCell ⟨w.heap.size,3,none⟩ (.int .i64 S.c.c3)).setCell ⟨w.heap.size,4,none⟩ (.slice EA S.c.l.length eca)).setCell ⟨w.heap.size,5,none⟩ (.slice EC S.e.length ecc)).setCell ⟨w.heap.size,6,none⟩ (.int .i64 T.c.c0)).setCell ⟨w.heap.size,7,none⟩ (.int .i64 T.c.c1)).setCell ⟨w.heap.size,8,none⟩ (.int .i64 T.c.c2)).setCell ⟨w.heap.size,9,none⟩ (.int .i64 T.c.c3)).setCell ⟨w.heap.size,10,none⟩ (.slice EB T.c.l.length ecb)).setCell ⟨w.heap.size,11,none⟩ (.slice ED T.e.length ecd))):=⟨(hG.out.1.agr hAg).mono (by omega),(hG.out.2.1.agr hAg).mono (by omega),((((((((((((hb.setCell (nR _) _).setCell (nR _) _).setCell (nR _) _).setCell (nR _) _).setCell (nR _) _).setCell (nR _) _).setCell (nR _) _).setCell (nR _) _).setCell (nR _) _).setCell (nR _) _).setCell (nR _) _).setCell (nR _) _)⟩
 clear hlt hb hAg
 exact bodyPost_ret (v:= .tuple #[.agg (T2 S EA eca EC ecc T EB ecb ED ecd).toArray,.bool true]) (by simp[results,Tryz.results19,go_sem,p0,p1,p2,p3,p4,p5,p6,p7,p8,p9,p10,p11]) rfl ⟨_,rfl,⟨EA,eca,EC,ecc,EB,ecb,ED,ecd,rfl,hfin.out.1,hfin.out.2.1⟩,hfin.out.2.2⟩
theorem uN {w:World} {n m:Nat} {v u:Value} {S T U V:Tab} (h:PkW n w v S T) (k:PkW m w u U V) (hS:aq S=0) (hT:aq T=0) (hU:aq U=0) (hV:aq V=0) :
  Calls Tryz.prog 20 #[v,u] w fun e w'=>e= .returned (.bool (eQ S U && eQ T V))∧Gr w w':=by
 obtain ⟨EA,eca,EC,ecc,EB,ecb,ED,ecd,rfl,f1,f2⟩:=h
 obtain ⟨FA,fca,FC,fcc,FB,fcb,FD,fcd,rfl,g1,g2⟩:=k
 obtain ⟨w1,hw1⟩:∃W,(w.alloc (.cells #[.int .i64 S.c.c0,.int .i64 S.c.c1,.int .i64 S.c.c2,.int .i64 S.c.c3,.slice EA S.c.l.length eca,.slice EC S.e.length ecc,.int .i64 T.c.c0,.int .i64 T.c.c1,.int .i64 T.c.c2,.int .i64 T.c.c3,.slice EB T.c.l.length ecb,.slice ED T.e.length ecd] 48)).alloc (.cells #[.int .i64 U.c.c0,.int .i64 U.c.c1,.int .i64 U.c.c2,.int .i64 U.c.c3,.slice FA U.c.l.length fca,.slice FC U.e.length fcc,.int .i64 V.c.c0,.int .i64 V.c.c1,.int .i64 V.c.c2,.int .i64 V.c.c3,.slice FB V.c.l.length fcb,.slice FD V.e.length fcd] 48)=W:=⟨_,rfl⟩
 have hg1:Gr w w1:=by rw[←hw1];exact ((gR w).alloc _).alloc _
 have hC1:Cls w1 w.heap.size (T2 S EA eca EC ecc T EB ecb ED ecd):=by rw[←hw1];exact (Cls.new w _ _).gr ((gR _).alloc _)
 have hC2:Cls w1 (w.heap.size+1) (T2 U FA fca FC fcc V FB fcb FD fcd):=by
  have:=Cls.new (w.alloc (.cells #[.int .i64 S.c.c0,.int .i64 S.c.c1,.int .i64 S.c.c2,.int .i64 S.c.c3,.slice EA S.c.l.length eca,.slice EC S.e.length ecc,.int .i64 T.c.c0,.int .i64 T.c.c1,.int .i64 T.c.c2,.int .i64 T.c.c3,.slice EB T.c.l.length ecb,.slice ED T.e.length ecd] 48)) #[.int .i64 U.c.c0,.int .i64 U.c.c1,.int .i64 U.c.c2,.int .i64 U.c.c3,.slice FA U.c.l.length fca,.slice FC U.e.length fcc,.int .i64 V.c.c0,.int .i64 V.c.c1,.int .i64 V.c.c2,.int .i64 V.c.c3,.slice FB V.c.l.length fcb,.slice FD V.e.length fcd] 48
  rw[hw1,show (w.alloc (.cells #[.int .i64 S.c.c0,.int .i64 S.c.c1,.int .i64 S.c.c2,.int .i64 S.c.c3,.slice EA S.c.l.length eca,.slice EC S.e.length ecc,.int .i64 T.c.c0,.int .i64 T.c.c1,.int .i64 T.c.c2,.int .i64 T.c.c3,.slice EB T.c.l.length ecb,.slice ED T.e.length ecd] 48)).heap.size=w.heap.size+1 by simp] at this
  exact this
 have ln:∀ {t:Tab},aq t=0→t.c.l.length≤maxLen∧t.e.length≤maxLen:=fun {t} ht=>by
  have h1:=(bw (ag ht).1).2.1
  have h2:=(ag ht).2.1
  unfold maxLen
  omega
 have hA:Hid (∀W,Gr w1 W→Calls Tryz.prog 15 #[.agg (T6 S EA eca EC ecc).toArray,.agg (T6 U FA fca FC fcc).toArray] W fun e w'=>e= .returned (.bool (eQ S U))∧Gr W w'):=fun W hW=>mr S U EA EC FA FC eca ecc fca fcc W (ln hS).1 (ln hU).1 (ln hS).2 (ln hU).2 (f1.row.gr (hg1.trans hW)) (g1.row.gr (hg1.trans hW)) (f1.cel.gr (hg1.trans hW)) (g1.cel.gr (hg1.trans hW))
 have hB:Hid (∀W,Gr w1 W→Calls Tryz.prog 15 #[.agg (T6 T EB ecb ED ecd).toArray,.agg (T6 V FB fcb FD fcd).toArray] W fun e w'=>e= .returned (.bool (eQ T V))∧Gr W w'):=fun W hW=>mr T V EB ED FB FD ecb ecd fcb fcd W (ln hT).1 (ln hV).1 (ln hT).2 (ln hV).2 (f2.row.gr (hg1.trans hW)) (g2.row.gr (hg1.trans hW)) (f2.cel.gr (hg1.trans hW)) (g2.cel.gr (hg1.trans hW))
 have hgH:Hid (Gr w w1∧Cls w1 w.heap.size (T2 S EA eca EC ecc T EB ecb ED ecd)∧Cls w1 (w.heap.size+1) (T2 U FA fca FC fcc V FB fcb FD fcd)):=⟨hg1,hC1,hC2⟩
 obtain ⟨x,hx⟩:∃x,eQ S U=x:=⟨_,rfl⟩
 obtain ⟨y,hy⟩:∃y,eQ T V=y:=⟨_,rfl⟩
 rw[hx] at hA
 rw[hy] at hB
 rw[hx,hy]
 clear f1 f2 g1 g2 hg1 ln hS hT hU hV hx hy
 have a0:=hC1.cell (j:=0) rfl
 have b0:=hC2.cell (j:=0) rfl
 have a1:=hC1.cell (j:=1) rfl
 have b1:=hC2.cell (j:=1) rfl
 have a2:=hC1.cell (j:=2) rfl
 have b2:=hC2.cell (j:=2) rfl
 have a3:=hC1.cell (j:=3) rfl
 have b3:=hC2.cell (j:=3) rfl
 have a4:=hC1.cell (j:=4) rfl
 have b4:=hC2.cell (j:=4) rfl
 have a5:=hC1.cell (j:=5) rfl
 have b5:=hC2.cell (j:=5) rfl
 go_enter Tryz.func20,Tryz.ntmps20
 go_wp2_with fail
 try rw[hw1]
 clear hw1 hC1 hC2 a0 b0 a1 b1 a2 b2 a3 b3 a4 b4 a5 b5
 refine cM (hA.out _ (gR _)) ?_
 rintro e w2 ⟨rfl,h2⟩
 have h2H:Hid (Gr w1 w2):=h2
 cases x with
 | false =>
  clear h2
  go_wp2
  go_ret
  exact ⟨rfl,hgH.out.1.trans h2H.out⟩
 | true =>
  have a6:=(hgH.out.2.1.gr h2).cell (j:=6) rfl
  have b6:=(hgH.out.2.2.gr h2).cell (j:=6) rfl
  have a7:=(hgH.out.2.1.gr h2).cell (j:=7) rfl
  have b7:=(hgH.out.2.2.gr h2).cell (j:=7) rfl
  have a8:=(hgH.out.2.1.gr h2).cell (j:=8) rfl
  have b8:=(hgH.out.2.2.gr h2).cell (j:=8) rfl
  have a9:=(hgH.out.2.1.gr h2).cell (j:=9) rfl
  have b9:=(hgH.out.2.2.gr h2).cell (j:=9) rfl
  have a10:=(hgH.out.2.1.gr h2).cell (j:=10) rfl
  have b10:=(hgH.out.2.2.gr h2).cell (j:=10) rfl
  have a11:=(hgH.out.2.1.gr h2).cell (j:=11) rfl
  have b11:=(hgH.out.2.2.gr h2).cell (j:=11) rfl
  clear h2
  go_wp2_with fail
  refine cM (hB.out _ h2H.out) ?_
  rintro e w3 ⟨rfl,h3⟩
  have h3H:Hid (Gr w w3):=(hgH.out.1.trans h2H.out).trans h3
  clear h3 a6 b6 a7 b7 a8 b8 a9 b9 a10 b10 a11 b11
  go_wp2
  go_ret
  exact ⟨rfl,h3H.out⟩

section
variable {U:List Cel} {x:Nat→Tab} {ps:List Tab}
end
end Go.Proofs.YtckeonpnfankhaaGreatDoor

namespace Go.Proofs.YtckeonpnfankhaaGreatDoor
open Go.RowKit Go.Sort Go.Shelf Go.Lib
set_option linter.unusedSimpArgs false

def uy {α : Type} (le: α → α → Bool) (x: α):List α → List α
 | []=>[x]
 | y::l=>if le x y then x::y::l else y::uy le x l
def isr {α : Type} (le: α → α → Bool):List α → List α
 | []=>[]
 | x::l=>uy le x (isr le l)
theorem ox {α : Type} {le: α → α → Bool} {x: α}:∀(a b:List α),(∀y∈a,le x y=false)→(∀y∈b,le x y=true)→uy le x (a++b)=a++x::b
 | [],[],_,_=>rfl
 | [],y::b,_,h=>by simp[uy,h y (List.mem_cons_self ..)]
 | y::a,b,h,k=>by
  rw[List.cons_append,uy,if_neg (by simp[h y (List.mem_cons_self ..)]),ox a b (fun z hz=>h z (mC _ hz)) k]
  rfl
theorem o6 {α : Type} {le: α → α → Bool} (tr:∀a b c,le a b=true→le b c=true→le a c=true) (tl:∀a b,(le a b || le b a)=true):∀l:List α,l.mergeSort le=isr le l
 | []=>by simp[isr]
 | x::l=>by
  obtain ⟨a,b,h1,h2,h3⟩:=List.mergeSort_cons tr tl x l
  have hs:=List.pairwise_mergeSort tr tl (x::l)
  rw[h1] at hs
  rw[isr,←o6 tr tl l,h2,h1,ox a b (fun y hy=>by simpa using h3 y hy) fun y hy=> ?_]
  exact (List.pairwise_cons.1 (List.pairwise_append.1 hs).2.1).1 y hy
theorem iD (l:List (Int×Int)):srt l=isr (fun x y=> !ltOf dO y x) l:=by
 unfold srt
 refine o6 (fun a b c h1 h2=> ?_) (fun a b=> ?_) l
 ·simp only[ltD,Bool.not_eq_true'] at *
  exact i7 (x:=a) (y:=b) (z:=c) h1 h2
 ·simp only[ltD,Bool.or_eq_true,Bool.not_eq_true']
  exact mO a b
theorem fL (l:List Cel):fP l=isr (fun x y=> !fm y x) l:=by
 unfold fP
 refine o6 (fun a b c=> ?_) (fun a b=> ?_) l
 ·simp[fm,bq];omega
 ·simp[fm,bq];omega
theorem vM (l:List Int):cF l=compact (isr (fun x y=>decide (x≤y)) l):=by
 unfold cF
 rw[o6 (fun a b c h1 h2=> ?_) (fun a b=> ?_) l]
 ·simp at h1 h2 ⊢;omega
 ·simp;omega
def tT0:Tab:=⟨⟨1,0,0,0,[]⟩,[((0,1),3,0,4)]⟩
def tTa:Tab:=⟨⟨0,1,0,0,[]⟩,[((1,1),3,1,5)]⟩
def tT1:Tab:=⟨⟨0,2,0,0,[]⟩,[((1,1),3,1,5),((1,2),7,0,1)]⟩
def tMM:Tab:=⟨⟨1,2,0,0,[]⟩,[((0,1),3,0,4),((1,1),3,1,5),((1,2),7,0,1)]⟩
def tD2:Tab:=⟨⟨1,2,0,0,[]⟩,[((0,1),3,0,4),((1,1),3,1,5)]⟩
def tE3:Tab:=⟨⟨1,2,0,1,[]⟩,[((0,1),3,0,4),((1,1),3,1,5),((1,2),7,0,1),((3,1),7,2,9)]⟩
def tRR:Tab:=⟨⟨1,2,0,1,[]⟩,[((0,1),3,0,4),((1,1),3,1,5),((3,1),7,2,9)]⟩
theorem sd1:doE dr 0 1 3 0 4=0∧doT dr 0 1 3 0 4=tT0:=by
 simp only[doT,doE,edE,edT,cZ,cD,ak,ac,aD,az,cX,dS,aA,mrg,iD,fL]
 exact ⟨by kernel_rfl,by kernel_rfl⟩
theorem sd2:doE dr 1 1 3 1 5=0∧doT dr 1 1 3 1 5=tTa:=by
 simp only[doT,doE,edE,edT,cZ,cD,ak,ac,aD,az,cX,dS,aA,mrg,iD,fL]
 exact ⟨by kernel_rfl,by kernel_rfl⟩
theorem sd3:doE tTa 1 1 7 0 1=0∧doT tTa 1 1 7 0 1=tT1:=by
 simp only[doT,doE,edE,edT,cZ,cD,ak,ac,aD,az,cX,dS,aA,mrg,iD,fL]
 exact ⟨by kernel_rfl,by kernel_rfl⟩
theorem sd4:ac (ac (ac tT0 tT1) dr) dr=tMM:=by
 simp only[ak,ac,aD,az,cX,dS,mrg,iD,fL]
 kernel_rfl
theorem sd5:doE tMM 2 2 7 0 0=0∧doT tMM 2 2 7 0 0=tD2:=by
 simp only[doT,doE,edE,edT,eD,cC,ak,ac,aD,az,cX,dS,aA,mrg,iD,fL]
 exact ⟨by kernel_rfl,by kernel_rfl⟩
theorem sd6:doE tMM 3 1 7 2 9=0∧doT tMM 3 1 7 2 9=tE3:=by
 simp only[doT,doE,edE,edT,cZ,cD,ak,ac,aD,az,cX,dS,aA,mrg,iD,fL]
 exact ⟨by kernel_rfl,by kernel_rfl⟩
theorem sd7:ac (ac (ac tMM tMM) tD2) tE3=tRR:=by
 simp only[ak,ac,aD,az,cX,dS,mrg,iD,fL]
 kernel_rfl
theorem sd8:aq tRR=0∧ofR tRR=[([3,4,5,0],1),([7,0,0,9],1)]:=by
 simp only[ofR,ofL,cW,vM]
 exact ⟨by kernel_rfl,by kernel_rfl⟩
end Go.Proofs.YtckeonpnfankhaaGreatDoor

namespace Go.Proofs.YtckeonpnfankhaaGreatDoor
open Go.RowKit Go.Sort

def du (n key col v:Int):Hap:=⟨1,n,0,0,1,0,key,col,v⟩
def lI (n key:Int):Hap:=⟨1,n,0,0,2,0,key,0,0⟩
theorem j0 (n key col v:Int) (w:World):Calls Tryz.prog 37 #[.int .i64 n,.int .i64 key,.int .i64 col,.int .i64 v] w fun e w'=>e= .returned (.agg (gH (du n key col v,[])).toArray)∧Gr w w':=by
 have hg:Hid (Gr w (w.alloc (.cells (gH (du n key col v,[])).toArray 30))):=(gR w).alloc _
 go_enter Tryz.func37,Tryz.ntmps37
 go_wp2
 exact bodyPost_ret (v:= .agg (gH (du n key col v,[])).toArray) (by simp[results,Tryz.results37,go_sem,gH,du]) rfl ⟨rfl,hg.out⟩
theorem tT (n key:Int) (w:World):Calls Tryz.prog 38 #[.int .i64 n,.int .i64 key] w fun e w'=>e= .returned (.agg (gH (lI n key,[])).toArray)∧Gr w w':=by
 have hg:Hid (Gr w (w.alloc (.cells (gH (lI n key,[])).toArray 30))):=(gR w).alloc _
 go_enter Tryz.func38,Tryz.ntmps38
 go_wp2
 exact bodyPost_ret (v:= .agg (gH (lI n key,[])).toArray) (by simp[results,Tryz.results38,go_sem,gH,lI]) rfl ⟨rfl,hg.out⟩
theorem hed (N:NetM) (y:Hap) (i:Nat) (hk:y.k=1) (ha:y.a=i) (hi:i<4) (h2:y.e2=0):bT N y=doE (N.s i) i y.e1 y.e3 y.e4 y.e5∧bK N y=⟨upd N.s i (doT (N.s i) i y.e1 y.e3 y.e4 y.e5),N.t,N.pk⟩:=by
 have hn:isN y.a:=⟨by omega,by omega⟩
 constructor
 ·unfold bT
  rw[if_pos hk,if_pos hn,ha,Int.toNat_natCast]
  unfold ndE
  rw[if_pos h2]
 ·unfold bK
  rw[if_pos hk,if_pos hn,ha,Int.toNat_natCast]
  unfold qS ndS ndT
  rw[if_pos h2,if_neg (by omega),fI]
theorem xO:∃N1 N2 N3 N5 N6,bT cT (du 0 3 0 4)=0∧bK cT (du 0 3 0 4)=N1∧bT N1 (du 1 3 1 5)=0∧bK N1 (du 1 3 1 5)=N2∧bT N2 (du 1 7 0 1)=0∧bK N2 (du 1 7 0 1)=N3∧NInv 3 N3∧bT (de N3) (lI 2 7)=0∧bK (de N3) (lI 2 7)=N5∧bT N5 (du 3 7 2 9)=0∧bK N5 (du 3 7 2 9)=N6∧NInv 5 N6∧∀i,i<4→(de N6).s i=tRR:=by
 obtain ⟨e1,m1⟩:=hed cT (du 0 3 0 4) 0 rfl rfl (by omega) rfl
 have I1:=NInv.new.hap (by omega) (du 0 3 0 4)
 have e1:=e1.trans sd1.1
 have m1:=m1.trans (congrArg (fun t=>NetM.mk (upd cT.s 0 t) cT.t cT.pk) sd1.2)
 rw[m1] at I1
 obtain ⟨e2,m2⟩:=hed ⟨upd cT.s 0 tT0,cT.t,cT.pk⟩ (du 1 3 1 5) 1 rfl rfl (by omega) rfl
 have I2:=I1.hap (by omega) (du 1 3 1 5)
 have e2:=e2.trans sd2.1
 have m2:=m2.trans (congrArg (fun t=>NetM.mk (upd (upd cT.s 0 tT0) 1 t) cT.t cT.pk) sd2.2)
 rw[m2] at I2
 obtain ⟨e3,m3⟩:=hed ⟨upd (upd cT.s 0 tT0) 1 tTa,cT.t,cT.pk⟩ (du 1 7 0 1) 1 rfl rfl (by omega) rfl
 have I3:=I2.hap (by omega) (du 1 7 0 1)
 have e3:=e3.trans sd3.1
 have m3:=m3.trans (congrArg (fun t=>NetM.mk (upd (upd (upd cT.s 0 tT0) 1 tTa) 1 t) cT.t cT.pk) sd3.2)
 rw[m3] at I3
 obtain ⟨I4,s4,_⟩:=I3.met
 obtain ⟨N4,h4⟩:∃N,de ⟨upd (upd (upd cT.s 0 tT0) 1 tTa) 1 tT1,cT.t,cT.pk⟩=N:=⟨_,rfl⟩
 rw[h4] at I4 s4
 have a4:∀j,j<4→N4.s j=tMM:=fun j hj=>(s4 j hj).trans sd4
 obtain ⟨e5,m5⟩:=hed N4 (lI 2 7) 2 rfl rfl (by omega) rfl
 have I5:=I4.hap (by omega) (lI 2 7)
 rw[a4 2 (by omega)] at e5 m5
 have e5:=e5.trans sd5.1
 have m5:=m5.trans (congrArg (fun t=>NetM.mk (upd N4.s 2 t) N4.t N4.pk) sd5.2)
 rw[m5] at I5
 obtain ⟨e6,m6⟩:=hed ⟨upd N4.s 2 tD2,N4.t,N4.pk⟩ (du 3 7 2 9) 3 rfl rfl (by omega) rfl
 have I6:=I5.hap (by omega) (du 3 7 2 9)
 have x3:upd N4.s 2 tD2 3=tMM:=(eh _ _ (by omega)).trans (a4 3 (by omega))
 rw[show (NetM.mk (upd N4.s 2 tD2) N4.t N4.pk).s 3=tMM from x3] at e6 m6
 have e6:=e6.trans sd6.1
 have m6:=m6.trans (congrArg (fun t=>NetM.mk (upd (upd N4.s 2 tD2) 3 t) N4.t N4.pk) sd6.2)
 rw[m6] at I6
 refine ⟨_,_,_,_,_,e1,m1,e2,m2,e3,m3,I3,by rw[h4];exact e5,by rw[h4];exact m5,e6,m6,I6,fun i hi=> ?_⟩
 obtain ⟨_,s7,_⟩:=I6.met
 rw[s7 i hi]
 show ac (ac (ac (upd (upd N4.s 2 tD2) 3 tE3 0) (upd (upd N4.s 2 tD2) 3 tE3 1)) (upd (upd N4.s 2 tD2) 3 tE3 2)) (upd (upd N4.s 2 tD2) 3 tE3 3)=tRR
 rw[show upd (upd N4.s 2 tD2) 3 tE3 0=tMM from a4 0 (by omega),show upd (upd N4.s 2 tD2) 3 tE3 1=tMM from a4 1 (by omega),show upd (upd N4.s 2 tD2) 3 tE3 2=tD2 from rfl,show upd (upd N4.s 2 tD2) 3 tE3 3=tE3 from rfl]
 exact sd7

theorem nV {α : Type} {enc: α → List Value} {k:Nat} (hk:∀x,(enc x).length=k) {W:World} {n:Nat} (hn:W.heap.size=n) (l:List α) (T:TypeId) (cs:Array Value) (hcs:cs.toList=aM enc l):ax enc k (W.alloc (.cells cs T)) (some ⟨n,0,none⟩) l:=by
 subst hn
 refine oR ⟨W.heap.size,0,rfl,by simp,fun j hj i hi=> ?_⟩
 have hg:=jQ hk l j hj i hi
 obtain ⟨v,hv⟩:∃v,(enc l[j])[i]? = some v:=⟨(enc l[j])[i]'(by rw[hk];exact hi),List.getElem?_eq_getElem _⟩
 rw[Nat.zero_add]
 refine ((Cls.new W cs T).cell (v:=v) ?_).trans hv.symm
 rw[hcs,hg]
 exact hv
theorem wk.ok {x:List UInt8} {N:NetM} {y:Hap} {Q Q':Nat→List (List Stp)} {er:Int} (h:wk x N y Q er Q') (hk:y.k≠5):er=bT N y∧Q'=Q:=by
 rcases h with h|h
 ·exact ⟨h.2.1,h.2.2⟩
 ·exact absurd h.1 hk
theorem tL (w:World) (hr:Reads w):Calls Tryz.prog 16 #[] w fun e w'=>e= .returned (.bool true)∧Below w.heap.size w w':=by
 obtain ⟨N1,N2,N3,N5,N6,e1,m1,e2,m2,e3,m3,i3,e5,m5,e6,m6,i6,hR⟩:=xO
 have hN:Hid _:=lz w
 have hP1:Hid (∀W,Calls Tryz.prog 37 #[.int .i64 0,.int .i64 3,.int .i64 0,.int .i64 4] W fun e w'=>e= .returned (.agg #[.int .i64 1,.int .i64 0,.int .i64 0,.int .i64 0,.int .i64 1,.int .i64 0,.int .i64 3,.int .i64 0,.int .i64 4,.string ⟨#[]⟩])∧Gr W w'):=fun W=>j0 0 3 0 4 W
 have hP2:Hid (∀W,Calls Tryz.prog 37 #[.int .i64 1,.int .i64 3,.int .i64 1,.int .i64 5] W fun e w'=>e= .returned (.agg #[.int .i64 1,.int .i64 1,.int .i64 0,.int .i64 0,.int .i64 1,.int .i64 0,.int .i64 3,.int .i64 1,.int .i64 5,.string ⟨#[]⟩])∧Gr W w'):=fun W=>j0 1 3 1 5 W
 have hP3:Hid (∀W,Calls Tryz.prog 37 #[.int .i64 1,.int .i64 7,.int .i64 0,.int .i64 1] W fun e w'=>e= .returned (.agg #[.int .i64 1,.int .i64 1,.int .i64 0,.int .i64 0,.int .i64 1,.int .i64 0,.int .i64 7,.int .i64 0,.int .i64 1,.string ⟨#[]⟩])∧Gr W w'):=fun W=>j0 1 7 0 1 W
 have hDl:Hid (∀W,Calls Tryz.prog 38 #[.int .i64 2,.int .i64 7] W fun e w'=>e= .returned (.agg #[.int .i64 1,.int .i64 2,.int .i64 0,.int .i64 0,.int .i64 2,.int .i64 0,.int .i64 7,.int .i64 0,.int .i64 0,.string ⟨#[]⟩])∧Gr W w'):=fun W=>tT 2 7 W
 have hP4:Hid (∀W,Calls Tryz.prog 37 #[.int .i64 3,.int .i64 7,.int .i64 2,.int .i64 9] W fun e w'=>e= .returned (.agg #[.int .i64 1,.int .i64 3,.int .i64 0,.int .i64 0,.int .i64 1,.int .i64 0,.int .i64 7,.int .i64 2,.int .i64 9,.string ⟨#[]⟩])∧Gr W w'):=fun W=>j0 3 7 2 9 W
 have one:Hid (∀ {W:World} {M M':NetM} {Q:Nat→List (List Stp)} (y:Hap),y.k=1→cN w W w.heap.size M Q→bT M y=0→bK M y=M'→Calls Tryz.prog 11 #[.pointer (some ⟨w.heap.size,0,none⟩),.agg (gH (y,[])).toArray] W fun e w'=>e= .returned (.int .i64 0)∧cN w w' w.heap.size M' Q∧Wr w.heap.size 0 153 W w'):=by
  intro W M M' Q y hk hL h0 hM
  refine (doL hL hr (y,[]) (nZ _)).mono ?_
  rintro e w' ⟨er,Q',rfl,f1,f2,f3⟩
  obtain ⟨rfl,rfl⟩:=f1.ok (by show y.k≠5;omega)
  rw[←hM]
  exact ⟨by rw[show bT M (y,([]:List UInt8)).1=0 from h0],f2,f3⟩
 have hI3:Hid (NInv 3 N3):=i3
 have hI6:Hid (NInv 5 N6∧∀i,i<4→(de N6).s i=tRR):=⟨i6,hR⟩
 have hE1:Hid (bT cT (du 0 3 0 4)=0∧bK cT (du 0 3 0 4)=N1):=⟨e1,m1⟩
 have hE2:Hid (bT N1 (du 1 3 1 5)=0∧bK N1 (du 1 3 1 5)=N2):=⟨e2,m2⟩
 have hE3:Hid (bT N2 (du 1 7 0 1)=0∧bK N2 (du 1 7 0 1)=N3):=⟨e3,m3⟩
 have hE5:Hid (bT (de N3) (lI 2 7)=0∧bK (de N3) (lI 2 7)=N5):=⟨e5,m5⟩
 have hE6:Hid (bT N5 (du 3 7 2 9)=0∧bK N5 (du 3 7 2 9)=N6):=⟨e6,m6⟩
 clear e1 m1 e2 m2 e3 m3 i3 e5 m5 e6 m6 i6 hR hr
 go_enter Tryz.func16,Tryz.ntmps16
 go_wp2_with fail
 refine cM (show Calls _ _ _ _ _ from hN.out) ?_
 rintro e w1 ⟨rfl,f1,f2⟩
 have hI1:Hid (cN w w1 w.heap.size cT (fun _=>[])):=cN.new (bR _ _) f1 f2
 clear f1 f2 hN
 go_wp2_with fail
 refine cM (hP1.out _) ?_
 rintro e w2 ⟨rfl,g2⟩
 have hg2:Hid (Gr w1 w2):=g2
 clear g2 hP1
 go_wp2_with fail
 refine cM (hP2.out _) ?_
 rintro e w3 ⟨rfl,g3⟩
 have hg3:Hid (Gr w1 w3):=hg2.out.trans g3
 clear g3 hP2 hg2
 go_wp2_with fail
 refine cM (hP3.out _) ?_
 rintro e w4 ⟨rfl,g4⟩
 have hg4:Hid (Gr w1 w4):=hg3.out.trans g4
 clear g4 hP3 hg3
 obtain ⟨w5,hw5⟩:∃W,w4.alloc (.cells #[.int .i64 1,.int .i64 0,.int .i64 0,.int .i64 0,.int .i64 1,.int .i64 0,.int .i64 3,.int .i64 0,.int .i64 4,.string ⟨#[]⟩,.int .i64 1,.int .i64 1,.int .i64 0,.int .i64 0,.int .i64 1,.int .i64 0,.int .i64 3,.int .i64 1,.int .i64 5,.string ⟨#[]⟩,.int .i64 1,.int .i64 1,.int .i64 0,.int .i64 0,.int .i64 1,.int .i64 0,.int .i64 7,.int .i64 0,.int .i64 1,.string ⟨#[]⟩] 30)=W:=⟨_,rfl⟩
 have hI:Hid (cN w w5 w.heap.size cT (fun _=>[])∧Cls w5 w4.heap.size [.int .i64 1,.int .i64 0,.int .i64 0,.int .i64 0,.int .i64 1,.int .i64 0,.int .i64 3,.int .i64 0,.int .i64 4,.string ⟨#[]⟩,.int .i64 1,.int .i64 1,.int .i64 0,.int .i64 0,.int .i64 1,.int .i64 0,.int .i64 3,.int .i64 1,.int .i64 5,.string ⟨#[]⟩,.int .i64 1,.int .i64 1,.int .i64 0,.int .i64 0,.int .i64 1,.int .i64 0,.int .i64 7,.int .i64 0,.int .i64 1,.string ⟨#[]⟩]∧w.heap.size<w4.heap.size):=by
  have hg:=hg4.out.below
  have hg5:Gr w4 w5:=by rw[←hw5];exact (gR w4).alloc _
  obtain ⟨⟨P,hP,_⟩,_⟩:=hI1.out
  exact ⟨(hI1.out.below hg).below hg5.below,by rw[←hw5];exact Cls.new w4 _ _,nL hP.lt hg.size⟩
 clear hg4 hI1
 go_wp2
 try rw[hw5]
 clear hw5
 refine wp_loop_rounds 4 ?_
 rw[rounds_succ]
 obtain ⟨c0,c1,c2,c3,c4,c5,c6,c7,c8,c9⟩:=kd hI.out.2.1
 go_upto_region 5 with fail
 obtain ⟨wb0,hwb⟩:∃W,w5.alloc (.cells #[.int .i64 1,.int .i64 0,.int .i64 0,.int .i64 0,.int .i64 1,.int .i64 0,.int .i64 3,.int .i64 0,.int .i64 4,.string ⟨#[]⟩] 30)=W:=⟨_,rfl⟩
 have hgb:Gr w5 wb0:=by rw[←hwb];exact (gR _).alloc _
 have hBx:Cls wb0 w5.heap.size [.int .i64 1,.int .i64 0,.int .i64 0,.int .i64 0,.int .i64 1,.int .i64 0,.int .i64 3,.int .i64 0,.int .i64 4,.string ⟨#[]⟩]:=by rw[←hwb];exact Cls.new _ _ _
 obtain ⟨b0,b1,b2,b3,b4,b5,b6,b7,b8,b9⟩:=kd hBx
 have hD:Hid _:=one.out (du 0 3 0 4) rfl (hI.out.1.below hgb.below) hE1.out.1 hE1.out.2
 have hSb:Hid (Cls wb0 w4.heap.size [.int .i64 1,.int .i64 0,.int .i64 0,.int .i64 0,.int .i64 1,.int .i64 0,.int .i64 3,.int .i64 0,.int .i64 4,.string ⟨#[]⟩,.int .i64 1,.int .i64 1,.int .i64 0,.int .i64 0,.int .i64 1,.int .i64 0,.int .i64 3,.int .i64 1,.int .i64 5,.string ⟨#[]⟩,.int .i64 1,.int .i64 1,.int .i64 0,.int .i64 0,.int .i64 1,.int .i64 0,.int .i64 7,.int .i64 0,.int .i64 1,.string ⟨#[]⟩]):=hI.out.2.1.gr hgb
 rw[hwb]
 clear hgb hBx hwb c0 c1 c2 c3 c4 c5 c6 c7 c8 c9
 go_wp2_with fail
 refine cM (show Calls _ _ _ _ _ from hD.out) ?_
 rintro e wd0 ⟨rfl,f1,f2⟩
 have hI':Hid (cN w wd0 w.heap.size N1 (fun _=>[])∧Cls wd0 w4.heap.size [.int .i64 1,.int .i64 0,.int .i64 0,.int .i64 0,.int .i64 1,.int .i64 0,.int .i64 3,.int .i64 0,.int .i64 4,.string ⟨#[]⟩,.int .i64 1,.int .i64 1,.int .i64 0,.int .i64 0,.int .i64 1,.int .i64 0,.int .i64 3,.int .i64 1,.int .i64 5,.string ⟨#[]⟩,.int .i64 1,.int .i64 1,.int .i64 0,.int .i64 0,.int .i64 1,.int .i64 0,.int .i64 7,.int .i64 0,.int .i64 1,.string ⟨#[]⟩]∧w.heap.size<w4.heap.size):=⟨f1,hSb.out.keep (f2.oth _ hSb.out.lt (by have:=hI.out.2.2;omega)),hI.out.2.2⟩
 clear f1 f2 hD hSb hI b0 b1 b2 b3 b4 b5 b6 b7 b8 b9
 have hI:=hI'
 clear hI'
 go_wp2
 rw[rounds_succ]
 obtain ⟨c0,c1,c2,c3,c4,c5,c6,c7,c8,c9⟩:=xJ hI.out.2.1
 go_upto_region 5 with fail
 obtain ⟨wb1,hwb⟩:∃W,wd0.alloc (.cells #[.int .i64 1,.int .i64 1,.int .i64 0,.int .i64 0,.int .i64 1,.int .i64 0,.int .i64 3,.int .i64 1,.int .i64 5,.string ⟨#[]⟩] 30)=W:=⟨_,rfl⟩
 have hgb:Gr wd0 wb1:=by rw[←hwb];exact (gR _).alloc _
 have hBx:Cls wb1 wd0.heap.size [.int .i64 1,.int .i64 1,.int .i64 0,.int .i64 0,.int .i64 1,.int .i64 0,.int .i64 3,.int .i64 1,.int .i64 5,.string ⟨#[]⟩]:=by rw[←hwb];exact Cls.new _ _ _
 obtain ⟨b0,b1,b2,b3,b4,b5,b6,b7,b8,b9⟩:=kd hBx
 have hD:Hid _:=one.out (du 1 3 1 5) rfl (hI.out.1.below hgb.below) hE2.out.1 hE2.out.2
 have hSb:Hid (Cls wb1 w4.heap.size [.int .i64 1,.int .i64 0,.int .i64 0,.int .i64 0,.int .i64 1,.int .i64 0,.int .i64 3,.int .i64 0,.int .i64 4,.string ⟨#[]⟩,.int .i64 1,.int .i64 1,.int .i64 0,.int .i64 0,.int .i64 1,.int .i64 0,.int .i64 3,.int .i64 1,.int .i64 5,.string ⟨#[]⟩,.int .i64 1,.int .i64 1,.int .i64 0,.int .i64 0,.int .i64 1,.int .i64 0,.int .i64 7,.int .i64 0,.int .i64 1,.string ⟨#[]⟩]):=hI.out.2.1.gr hgb
 rw[hwb]
 clear hgb hBx hwb c0 c1 c2 c3 c4 c5 c6 c7 c8 c9
 go_wp2_with fail
 refine cM (show Calls _ _ _ _ _ from hD.out) ?_
 rintro e wd1 ⟨rfl,f1,f2⟩
 have hI':Hid (cN w wd1 w.heap.size N2 (fun _=>[])∧Cls wd1 w4.heap.size [.int .i64 1,.int .i64 0,.int .i64 0,.int .i64 0,.int .i64 1,.int .i64 0,.int .i64 3,.int .i64 0,.int .i64 4,.string ⟨#[]⟩,.int .i64 1,.int .i64 1,.int .i64 0,.int .i64 0,.int .i64 1,.int .i64 0,.int .i64 3,.int .i64 1,.int .i64 5,.string ⟨#[]⟩,.int .i64 1,.int .i64 1,.int .i64 0,.int .i64 0,.int .i64 1,.int .i64 0,.int .i64 7,.int .i64 0,.int .i64 1,.string ⟨#[]⟩]∧w.heap.size<w4.heap.size):=⟨f1,hSb.out.keep (f2.oth _ hSb.out.lt (by have:=hI.out.2.2;omega)),hI.out.2.2⟩
 clear f1 f2 hD hSb hI b0 b1 b2 b3 b4 b5 b6 b7 b8 b9
 have hI:=hI'
 clear hI'
 go_wp2
 rw[rounds_succ]
 obtain ⟨c0,c1,c2,c3,c4,c5,c6,c7,c8,c9⟩:=xR hI.out.2.1
 go_upto_region 5 with fail
 obtain ⟨wb2,hwb⟩:∃W,wd1.alloc (.cells #[.int .i64 1,.int .i64 1,.int .i64 0,.int .i64 0,.int .i64 1,.int .i64 0,.int .i64 7,.int .i64 0,.int .i64 1,.string ⟨#[]⟩] 30)=W:=⟨_,rfl⟩
 have hgb:Gr wd1 wb2:=by rw[←hwb];exact (gR _).alloc _
 have hBx:Cls wb2 wd1.heap.size [.int .i64 1,.int .i64 1,.int .i64 0,.int .i64 0,.int .i64 1,.int .i64 0,.int .i64 7,.int .i64 0,.int .i64 1,.string ⟨#[]⟩]:=by rw[←hwb];exact Cls.new _ _ _
 obtain ⟨b0,b1,b2,b3,b4,b5,b6,b7,b8,b9⟩:=kd hBx
 have hD:Hid _:=one.out (du 1 7 0 1) rfl (hI.out.1.below hgb.below) hE3.out.1 hE3.out.2
 have hSb:Hid (Cls wb2 w4.heap.size [.int .i64 1,.int .i64 0,.int .i64 0,.int .i64 0,.int .i64 1,.int .i64 0,.int .i64 3,.int .i64 0,.int .i64 4,.string ⟨#[]⟩,.int .i64 1,.int .i64 1,.int .i64 0,.int .i64 0,.int .i64 1,.int .i64 0,.int .i64 3,.int .i64 1,.int .i64 5,.string ⟨#[]⟩,.int .i64 1,.int .i64 1,.int .i64 0,.int .i64 0,.int .i64 1,.int .i64 0,.int .i64 7,.int .i64 0,.int .i64 1,.string ⟨#[]⟩]):=hI.out.2.1.gr hgb
 rw[hwb]
 clear hgb hBx hwb c0 c1 c2 c3 c4 c5 c6 c7 c8 c9
 go_wp2_with fail
 refine cM (show Calls _ _ _ _ _ from hD.out) ?_
 rintro e wd2 ⟨rfl,f1,f2⟩
 have hI':Hid (cN w wd2 w.heap.size N3 (fun _=>[])∧Cls wd2 w4.heap.size [.int .i64 1,.int .i64 0,.int .i64 0,.int .i64 0,.int .i64 1,.int .i64 0,.int .i64 3,.int .i64 0,.int .i64 4,.string ⟨#[]⟩,.int .i64 1,.int .i64 1,.int .i64 0,.int .i64 0,.int .i64 1,.int .i64 0,.int .i64 3,.int .i64 1,.int .i64 5,.string ⟨#[]⟩,.int .i64 1,.int .i64 1,.int .i64 0,.int .i64 0,.int .i64 1,.int .i64 0,.int .i64 7,.int .i64 0,.int .i64 1,.string ⟨#[]⟩]∧w.heap.size<w4.heap.size):=⟨f1,hSb.out.keep (f2.oth _ hSb.out.lt (by have:=hI.out.2.2;omega)),hI.out.2.2⟩
 clear f1 f2 hD hSb hI b0 b1 b2 b3 b4 b5 b6 b7 b8 b9
 have hI:=hI'
 clear hI'
 go_wp2
 rw[rounds_succ]
 have hM1:Hid _:=tK hI.out.1 hI3.out
 go_wp2_with fail
 refine cM (show Calls _ _ _ _ _ from hM1.out) ?_
 rintro e w6 ⟨rfl,f1,f2⟩
 have hJ:Hid (cN w w6 w.heap.size (de N3) (fun _=>[])):=f1
 clear f1 f2 hM1 hI
 go_wp2_with fail
 refine cM (hDl.out _) ?_
 rintro e w7 ⟨rfl,g7⟩
 have hD:Hid _:=one.out (lI 2 7) rfl (hJ.out.below g7.below) hE5.out.1 hE5.out.2
 clear g7 hDl hJ
 go_wp2_with fail
 refine cM (show Calls _ _ _ _ _ from hD.out) ?_
 rintro e w8 ⟨rfl,f1,f2⟩
 have hJ:Hid (cN w w8 w.heap.size N5 (fun _=>[])):=f1
 clear f1 f2 hD
 go_wp2_with fail
 refine cM (hP4.out _) ?_
 rintro e w9 ⟨rfl,g9⟩
 have hD:Hid _:=one.out (du 3 7 2 9) rfl (hJ.out.below g9.below) hE6.out.1 hE6.out.2
 clear g9 hP4 hJ
 go_wp2_with fail
 refine cM (show Calls _ _ _ _ _ from hD.out) ?_
 rintro e w10 ⟨rfl,f1,f2⟩
 have hJ:Hid (cN w w10 w.heap.size N6 (fun _=>[])):=f1
 clear f1 f2 hD
 have hM1:Hid _:=tK hJ.out hI6.out.1
 go_wp2_with fail
 refine cM (show Calls _ _ _ _ _ from hM1.out) ?_
 rintro e w11 ⟨rfl,f1,f2⟩
 have hK:Hid (cN w w11 w.heap.size (de N6) (fun _=>[])):=f1
 clear f1 f2 hM1 hJ
 go_wp2
 go_loopw [44] (fun v44 wr=>∃i:Nat,i≤4∧v44= .int .i64 i∧Hid (cN w wr w.heap.size (de N6) (fun _=>[]))) (fun v44 _=>4-(intOf v44).toNat)
 case atStart=>exact ⟨0,by omega,rfl,hK⟩
 case round =>
  obtain ⟨i,hi,rfl,hJ⟩:=hrel
  by_cases hi4:i<4
  rotate_left
  ·have hz:¬(i:Int)<4:=by omega
   go_wp2
   go_ret
   exact ⟨rfl,hJ.out.2.1⟩
  have hiz:(i:Int)<4:=by omega
  have t0:Calls Tryz.prog 14 #[.pointer (some ⟨w.heap.size,0,none⟩),.int .i64 i,.int .i64 0] wr fun e w'=>∃v,e= .returned (.tuple #[v,.int .i64 0])∧TbV wr.heap.size w' v tRR∧Below wr.heap.size wr w':=by
   obtain ⟨⟨P,hP,_⟩,_⟩:=hJ.out
   have:=qV hP i hi4
   rwa [hI6.out.2 i hi4] at this
  have hT0:Hid _:=t0
  clear t0
  go_wp2_with fail
  refine cM (show Calls _ _ _ _ _ from hT0.out) ?_
  rintro e w2 ⟨v,rfl,⟨A,ca,D,cd,rfl,f1⟩,f2⟩
  obtain ⟨w3,hw3⟩:∃W,w2.alloc (.cells #[.int .i64 tRR.c.c0,.int .i64 tRR.c.c1,.int .i64 tRR.c.c2,.int .i64 tRR.c.c3,.slice A tRR.c.l.length ca,.slice D tRR.e.length cd] 41)=W:=⟨_,rfl⟩
  have hg3:Gr w2 w3:=by rw[←hw3];exact (gR w2).alloc _
  have hBx:Cls w3 w2.heap.size (T6 tRR A ca D cd):=by rw[←hw3];exact Cls.new w2 _ _
  obtain ⟨b0,b1,b2,b3,b4,b5⟩:=ii hBx
  have o0:=xC tRR A ca D cd w3 (by decide) (by decide) (f1.row.gr hg3) (f1.cel.gr hg3)
  rw[sd8.1,sd8.2] at o0
  have hO:Hid _:=o0
  have hB3:Hid (cN w w3 w.heap.size (de N6) (fun _=>[])):=(hJ.out.below f2).below hg3.below
  clear o0 f1 f2 hg3 hBx hT0 hJ
  go_wp2_with fail
  try rw[hw3]
  clear hw3
  refine cM (show Calls _ _ _ _ _ from hO.out) ?_
  rintro e w4 ⟨L,C,c,rfl,g1,g2,g3,g4⟩
  obtain ⟨W,hW⟩:∃W,((w4.alloc (.cells #[.int .i64 3,.int .i64 4,.int .i64 5,.int .i64 0] 3)).alloc (.cells #[.int .i64 7,.int .i64 0,.int .i64 0,.int .i64 9] 3)).alloc (.cells #[.slice (some ⟨w4.heap.size,0,none⟩) 4 4,.int .i64 1,.slice (some ⟨w4.heap.size+1,0,none⟩) 4 4,.int .i64 1] 101)=W:=⟨_,rfl⟩
  have hgW:Gr w4 W:=by rw[←hW];exact (((gR w4).alloc _).alloc _).alloc _
  have hS:Hid (Calls Tryz.prog 25 #[.slice C L.length c,.slice (some ⟨w4.heap.size+2,0,none⟩) 2 2] W fun e w'=>e= .returned (.bool true)∧Gr W w'):=by
   have h2:ax aI 2 W (some ⟨w4.heap.size+2,0,none⟩) [⟨some ⟨w4.heap.size,0,none⟩,4,[3,4,5,0],1⟩,⟨some ⟨w4.heap.size+1,0,none⟩,4,[7,0,0,9],1⟩]:=by rw[←hW];exact nV bB (by simp) _ _ _ rfl
   have r1:ay W (some ⟨w4.heap.size,0,none⟩) [3,4,5,0]:=by rw[←hW];exact ((nV (enc:=fK) (k:=1) bV (W:=w4) rfl [3,4,5,0] 3 _ rfl).gr ((gR _).alloc _)).gr ((gR _).alloc _)
   have r2:ay W (some ⟨w4.heap.size+1,0,none⟩) [7,0,0,9]:=by rw[←hW];exact (nV (enc:=fK) (k:=1) bV (W:=w4.alloc (.cells #[.int .i64 3,.int .i64 4,.int .i64 5,.int .i64 0] 3)) (by simp) [7,0,0,9] 3 _ rfl).gr ((gR _).alloc _)
   have hl:L.length≤maxLen:=by
    have:=congrArg List.length g1
    rw[List.length_map] at this
    rw[this]
    decide
   have hs:=tw L [⟨some ⟨w4.heap.size,0,none⟩,4,[3,4,5,0],1⟩,⟨some ⟨w4.heap.size+1,0,none⟩,4,[7,0,0,9],1⟩] C (some ⟨w4.heap.size+2,0,none⟩) c 2 W hl (g2.gr hgW) ⟨h2,fun x hx=>by
    rcases List.mem_cons.1 hx with rfl|hx
    ·exact ⟨r1,(show (4:Nat)≤maxLen by decide),fun h=>by cases h⟩
    ·rw[List.mem_singleton.1 hx]
     exact ⟨r2,(show (4:Nat)≤maxLen by decide),fun h=>by cases h⟩⟩
   rw[g1] at hs
   exact hs
  have hB4:Hid (cN w W w.heap.size (de N6) (fun _=>[])):=(hB3.out.below g4).below hgW.below
  clear g1 g2 g3 g4 hgW hO hB3
  go_wp2_with fail
  try rw[hW]
  clear hW
  refine cM (show Calls _ _ _ _ _ from hS.out) ?_
  rintro e w5 ⟨rfl,g5⟩
  have hB5:Hid (cN w w5 w.heap.size (de N6) (fun _=>[])):=hB4.out.below g5.below
  clear g5 hS hB4
  go_wp2
  go_roundw
  case rel=>exact ⟨i+1,by omega,by go_num,hB5⟩
  case measure=>simp[intOf];omega

theorem nU (A:Option Addr) (cap:Nat) (l:List (Hap×List UInt8)) (w:World) (hr:Reads w) (hl:l.length≤maxLen) (row:ax gH 10 w A l) (hx:∀p∈l,p.2.length≤maxLen) :
  Calls Tryz.prog 4 #[.slice A l.length cap] w fun e w'=>e= .returned (.bool true)∧Below w.heap.size w w':=by
 have hS:Hid _:=tL w hr
 have hH:Hid (Reads w∧ax gH 10 w A l∧∀p∈l,p.2.length≤maxLen):=⟨hr,row,hx⟩
 clear hr row hx
 go_enter Tryz.func4,Tryz.ntmps4
 go_wp2_with fail
 refine cM (show Calls _ _ _ _ _ from hS.out) ?_
 rintro e w1 ⟨rfl,f1⟩
 have hb1:Hid (Below w.heap.size w w1):=f1
 clear f1 hS
 by_cases h60:60<l.length
 ·have hz:(60:Int)<(l.length:Int):=by omega
  go_wp2
  go_ret
  exact ⟨rfl,hb1.out⟩
 have hz:¬(60:Int)<(l.length:Int):=by omega
 have hP:Hid _:=qa w1 A cap l hl hH.out.2.1 hH.out.2.2 hH.out.1 hb1.out
 have hI:Hid (NInv (0+(l.map (·.1)).length) ((l.map (·.1)).foldl bK cT)):=NInv.play _ NInv.new (by rw[List.length_map];omega)
 obtain ⟨M,hM⟩:∃M,(l.map (·.1)).foldl bK cT=M:=⟨_,rfl⟩
 rw[hM] at hP hI
 clear hM
 go_wp2_with fail
 refine cM (show Calls _ _ _ _ _ from hP.out) ?_
 rintro e w2 ⟨B,Q,rfl,f1⟩
 have hE:Hid _:=tK f1 hI.out
 clear f1 hP
 go_wp2_with fail
 refine cM (show Calls _ _ _ _ _ from hE.out) ?_
 rintro e w3 ⟨rfl,f1,_⟩
 obtain ⟨N,hN⟩:∃N,de M=N:=⟨_,rfl⟩
 have hmet:=hI.out.met
 rw[hN] at f1 hmet
 obtain ⟨_,m1,m2,_⟩:=hmet
 obtain ⟨S,hSe⟩:∃S,lV M.s=S:=⟨_,rfl⟩
 obtain ⟨T,hTe⟩:∃S,lV M.t=S:=⟨_,rfl⟩
 rw[hSe] at m1
 rw[hTe] at m2
 have hL:Hid (cN w1 w3 B N Q∧(∀j,j<4→N.s j=S∧N.t j=T)∧aq S=0∧aq T=0):=by
  refine ⟨f1,fun j hj=>⟨m1 j hj,m2 j hj⟩,?_,?_⟩
  ·obtain ⟨⟨P,h1,_⟩,_⟩:=f1
   rw[←m1 0 (by omega)]
   exact (h1.nd 0 (by omega)).ts.ok
  ·obtain ⟨⟨P,h1,_⟩,_⟩:=f1
   rw[←m2 0 (by omega)]
   exact (h1.nd 0 (by omega)).tt.ok
 have tab:Hid (∀W,cN w1 W B N Q→∀i:Nat,i<4→Calls Tryz.prog 19 #[.pointer (some ⟨B,0,none⟩),.int .i64 i] W fun e w'=>∃v,e= .returned (.tuple #[v,.bool true])∧PkW W.heap.size w' v S T∧Below W.heap.size W w'):=fun W hW i hi=>by
  obtain ⟨⟨P,h1,_⟩,_⟩:=hW
  have:=sS h1 i hi
  rwa [(hL.out.2.1 i hi).1,(hL.out.2.1 i hi).2] at this
 clear f1 hE hI hN m1 m2 hSe hTe
 have hT0:Hid _:=tab.out w3 hL.out.1 0 (by omega)
 go_wp2_with fail
 refine cM (show Calls _ _ _ _ _ from hT0.out) ?_
 rintro e w4 ⟨v,rfl,⟨EA,eca,EC,ecc,EB,ecb,ED,ecd,rfl,f1,f2⟩,f3⟩
 obtain ⟨w5,hw5⟩:∃W,w4.alloc (.cells #[.int .i64 S.c.c0,.int .i64 S.c.c1,.int .i64 S.c.c2,.int .i64 S.c.c3,.slice EA S.c.l.length eca,.slice EC S.e.length ecc,.int .i64 T.c.c0,.int .i64 T.c.c1,.int .i64 T.c.c2,.int .i64 T.c.c3,.slice EB T.c.l.length ecb,.slice ED T.e.length ecd] 48)=W:=⟨_,rfl⟩
 have hK:Hid (cN w1 w5 B N Q∧Cls w5 w4.heap.size (T2 S EA eca EC ecc T EB ecb ED ecd)∧PkW w3.heap.size w5 (.agg (T2 S EA eca EC ecc T EB ecb ED ecd).toArray) S T):=by
  have hg:Gr w4 w5:=by rw[←hw5];exact (gR _).alloc _
  exact ⟨(hL.out.1.below f3).below hg.below,by rw[←hw5];exact Cls.new w4 _ _,EA,eca,EC,ecc,EB,ecb,ED,ecd,rfl,f1.below hg.below,f2.below hg.below⟩
 clear f1 f2 f3 hT0
 go_wp2
 try rw[hw5]
 clear hw5
 go_loopw [24] (fun v24 wr=>∃i:Nat,i≤4∧v24= .int .i64 i∧Hid (cN w1 wr B N Q∧Cls wr w4.heap.size (T2 S EA eca EC ecc T EB ecb ED ecd)∧PkW w3.heap.size wr (.agg (T2 S EA eca EC ecc T EB ecb ED ecd).toArray) S T)) (fun v24 _=>4-(intOf v24).toNat)
 case atStart=>exact ⟨0,by omega,rfl,hK⟩
 case round =>
  obtain ⟨i,hi,rfl,hJ⟩:=hrel
  by_cases hi4:i<4
  rotate_left
  ·have hz:¬(i:Int)<4:=by omega
   go_wp2
   go_ret
   exact ⟨rfl,hb1.out.trans (hJ.out.1.2.1.mono hb1.out.size)⟩
  have hiz:(i:Int)<4:=by omega
  have hT:Hid _:=tab.out wr hJ.out.1 i hi4
  go_wp2_with fail
  refine cM (show Calls _ _ _ _ _ from hT.out) ?_
  rintro e w6 ⟨v,rfl,⟨FA,fca,FC,fcc,FB,fcb,FD,fcd,rfl,f1,f2⟩,f3⟩
  obtain ⟨w7,hw7⟩:∃W,w6.alloc (.cells #[.int .i64 S.c.c0,.int .i64 S.c.c1,.int .i64 S.c.c2,.int .i64 S.c.c3,.slice FA S.c.l.length fca,.slice FC S.e.length fcc,.int .i64 T.c.c0,.int .i64 T.c.c1,.int .i64 T.c.c2,.int .i64 T.c.c3,.slice FB T.c.l.length fcb,.slice FD T.e.length fcd] 48)=W:=⟨_,rfl⟩
  have hg:Gr w6 w7:=by rw[←hw7];exact (gR _).alloc _
  have hBx:Cls w7 w6.heap.size (T2 S FA fca FC fcc T FB fcb FD fcd):=by rw[←hw7];exact Cls.new w6 _ _
  have hb7:Below wr.heap.size wr w7:=f3.trans (hg.below.mono f3.size)
  have hFx:=hJ.out.2.1.below hb7
  obtain ⟨a0,a1,a2,a3,a4,a5,a6,a7,a8,a9,a10,a11⟩:=eS hBx
  obtain ⟨b0,b1,b2,b3,b4,b5,b6,b7,b8,b9,b10,b11⟩:=eS hFx
  have hSm:Hid (Calls Tryz.prog 20 #[.agg (T2 S FA fca FC fcc T FB fcb FD fcd).toArray,.agg (T2 S EA eca EC ecc T EB ecb ED ecd).toArray] w7 fun e w'=>e= .returned (.bool true)∧Gr w7 w'):=by
   obtain ⟨A',a',C',c',B',b',D',d',e',g1,g2⟩:=hJ.out.2.2
   have:=uN (w:=w7) (v:= .agg (T2 S FA fca FC fcc T FB fcb FD fcd).toArray) (u:= .agg (T2 S EA eca EC ecc T EB ecb ED ecd).toArray) ⟨FA,fca,FC,fcc,FB,fcb,FD,fcd,rfl,f1.below hg.below,f2.below hg.below⟩ ⟨A',a',C',c',B',b',D',d',e',g1.below hb7,g2.below hb7⟩ hL.out.2.2.1 hL.out.2.2.2 hL.out.2.2.1 hL.out.2.2.2
   rw[lG,lG] at this
   exact this
  have hQ:Hid (cN w1 w7 B N Q∧Cls w7 w4.heap.size (T2 S EA eca EC ecc T EB ecb ED ecd)∧PkW w3.heap.size w7 (.agg (T2 S EA eca EC ecc T EB ecb ED ecd).toArray) S T):=by
   refine ⟨hJ.out.1.below hb7,hFx,?_⟩
   obtain ⟨A',a',C',c',B',b',D',d',e',g1,g2⟩:=hJ.out.2.2
   exact ⟨A',a',C',c',B',b',D',d',e',g1.below hb7,g2.below hb7⟩
  clear f1 f2 f3 hg hBx hb7 hFx hT hJ
  go_wp2_with fail
  try rw[hw7]
  clear hw7
  refine cM (show Calls _ _ _ _ _ from hSm.out) ?_
  rintro e w8 ⟨rfl,g8⟩
  have hQ8:Hid (cN w1 w8 B N Q∧Cls w8 w4.heap.size (T2 S EA eca EC ecc T EB ecb ED ecd)∧PkW w3.heap.size w8 (.agg (T2 S EA eca EC ecc T EB ecb ED ecd).toArray) S T):=by
   refine ⟨hQ.out.1.below g8.below,hQ.out.2.1.gr g8,?_⟩
   obtain ⟨A',a',C',c',B',b',D',d',e',g1,g2⟩:=hQ.out.2.2
   exact ⟨A',a',C',c',B',b',D',d',e',g1.below g8.below,g2.below g8.below⟩
  clear g8 hSm hQ a0 b0 a1 b1 a2 b2 a3 b3 a4 b4 a5 b5 a6 b6 a7 b7 a8 b8 a9 b9 a10 b10 a11 b11
  go_wp2
  go_roundw
  case rel=>exact ⟨i+1,by omega,by go_num,hQ8⟩
  case measure=>simp[intOf];omega
end Go.Proofs.YtckeonpnfankhaaGreatDoor
