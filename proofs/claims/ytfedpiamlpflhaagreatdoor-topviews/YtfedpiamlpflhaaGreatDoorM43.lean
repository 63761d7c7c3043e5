/-
  viewtop.said: two nodes that edited apart come together.
  What is handed in, opened: a list of happenings.
  From what the rows lay and from the world's shape: what the library's texts read.
-/
import Derived.Test.YtfedpiamlpflhaaGreatDoorM42
import Derived.ChangeMaps5
import Derived.Test.YtfedpiamlpflhaaGreatDoorCards
import Derived.Test.YtfedpiamlpflhaaGreatDoorTie
import Derived.LaidMore
import Derived.Stop.Joined
import Derived.SevenTiedAt
import Derived.HandedShaped
import Derived.Stop.LaidErr
import Derived.Lay
set_option maxRecDepth 100000
set_option maxHeartbeats 8000000
open Go.Ending renaming returned → S
open Go.IntKind renaming i64 → I
open Go.Obj renaming cells → O
open Go.Proofs.Tryz renaming prog → V
namespace Go.Proofs.YtfedpiamlpflhaaGreatDoor
open Go.RowKit Go.Sort

theorem kx {α : Type} {enc: α → List Value} {k:Nat} (hk:∀x,(enc x).length=k) {W:World} {n:Nat} (hn:W.heap.size=n) (l:List α) (T:TypeId) (cs:Array Value) (hcs:cs.toList=aE enc l):ax enc k (W.alloc (O cs T)) (some ⟨n,0,none⟩) l:=by
 subst hn
 refine oR ⟨W.heap.size,0,rfl,by simp,fun j hj i hi=> ?_⟩
 have hg:=gU hk l j hj i hi
 obtain ⟨v,hv⟩:∃v,(enc l[j])[i]? = some v:=⟨(enc l[j])[i]'(by rw[hk];exact hi),List.getElem?_eq_getElem _⟩
 rw[Nat.zero_add]
 refine ((Cls.new W cs T).cell (v:=v) ?_).trans hv.symm
 rw[hcs,hg]
 exact hv
theorem pQ.ok {x:List UInt8} {N:NetM} {y:Hap} {Q Q':Nat→List (List Stp)} {er:Int} (h:pQ x N y Q er Q') (hk:y.k≠5):er=ch N y∧Q'=Q:=by
 rcases h with h|h
 ·exact ⟨h.2.1,h.2.2⟩
 ·exact absurd h.1 hk
def sdH:List (Hap×List UInt8):=[(eC 0 3 0 4,[]),(eC 1 3 1 5,[]),(eC 1 7 0 1,[])]
theorem vy (w:World) (hr:Reads w):Calls V 5 #[] w fun e w'=>e= S (.bool true)∧Below w.heap.size w w':=by
 obtain ⟨N1,N2,N3,N5,N6,e1,m1,e2,m2,e3,m3,i3,e5,m5,e6,m6,i6,hR⟩:=yG
 have hN:Hid _:=lm w
 have hP1:Hid (∀W,Calls V 15 #[.int I 0,.int I 3,.int I 0,.int I 4] W fun e w'=>e= S (.agg #[.int I 1,.int I 0,.int I 0,.int I 0,.int I 1,.int I 0,.int I 3,.int I 0,.int I 4,.string ⟨#[]⟩])∧Gr W w'):=fun W=>jh 0 3 0 4 W
 have hP2:Hid (∀W,Calls V 15 #[.int I 1,.int I 3,.int I 1,.int I 5] W fun e w'=>e= S (.agg #[.int I 1,.int I 1,.int I 0,.int I 0,.int I 1,.int I 0,.int I 3,.int I 1,.int I 5,.string ⟨#[]⟩])∧Gr W w'):=fun W=>jh 1 3 1 5 W
 have hP3:Hid (∀W,Calls V 15 #[.int I 1,.int I 7,.int I 0,.int I 1] W fun e w'=>e= S (.agg #[.int I 1,.int I 1,.int I 0,.int I 0,.int I 1,.int I 0,.int I 7,.int I 0,.int I 1,.string ⟨#[]⟩])∧Gr W w'):=fun W=>jh 1 7 0 1 W
 have hDl:Hid (∀W,Calls V 16 #[.int I 2,.int I 7] W fun e w'=>e= S (.agg #[.int I 1,.int I 2,.int I 0,.int I 0,.int I 2,.int I 0,.int I 7,.int I 0,.int I 0,.string ⟨#[]⟩])∧Gr W w'):=fun W=>uB 2 7 W
 have hP4:Hid (∀W,Calls V 15 #[.int I 3,.int I 7,.int I 2,.int I 9] W fun e w'=>e= S (.agg #[.int I 1,.int I 3,.int I 0,.int I 0,.int I 1,.int I 0,.int I 7,.int I 2,.int I 9,.string ⟨#[]⟩])∧Gr W w'):=fun W=>jh 3 7 2 9 W
 have one:Hid (∀ {W:World} {M M':NetM} {Q:Nat→List (List Stp)} (y:Hap),y.k=1→dX w W w.heap.size M Q→ch M y=0→bE M y=M'→Calls V 7 #[.pointer (some ⟨w.heap.size,0,none⟩),.agg (fu (y,[])).toArray] W fun e w'=>e= S (.int I 0)∧dX w w' w.heap.size M' Q∧Wr w.heap.size 0 153 W w'):=by
  intro W M M' Q y hk hL h0 hM
  refine (doL hL hr (y,[]) (nZ _)).mono ?_
  rintro e w' ⟨er,Q',rfl,f1,f2,f3⟩
  obtain ⟨rfl,rfl⟩:=f1.ok (by show y.k≠5;omega)
  rw[←hM]
  exact ⟨by rw[show ch M (y,([]:List UInt8)).1=0 from h0],f2,f3⟩
 have hI3:Hid (NInv 3 N3):=i3
 have hI6:Hid (NInv 5 N6∧∀i,i<4→(di N6).s i=tRR):=⟨i6,hR⟩
 obtain ⟨sN,hs⟩:∃sN:Nat→NetM,sN 0=dn∧sN 3=N3∧∀k (hk:k<sdH.length),sdH[k].1.k=1∧sdH[k].2=[]∧ch (sN k) sdH[k].1=0∧bE (sN k) sdH[k].1=sN (k+1) :=
  ⟨fun k=>match k with|0=>dn|1=>N1|2=>N2|_=>N3,rfl,rfl,fun k hk=>match k,hk with|0,_=>⟨rfl,rfl,e1,m1⟩|1,_=>⟨rfl,rfl,e2,m2⟩|2,_=>⟨rfl,rfl,e3,m3⟩⟩
 have hE:Hid _:=hs
 have hE5:Hid (ch (di N3) (l6 2 7)=0∧bE (di N3) (l6 2 7)=N5):=⟨e5,m5⟩
 have hE6:Hid (ch N5 (eC 3 7 2 9)=0∧bE N5 (eC 3 7 2 9)=N6):=⟨e6,m6⟩
 clear hs e1 m1 e2 m2 e3 m3 i3 e5 m5 e6 m6 i6 hR hr
 go_enter Tryz.func5,Tryz.ntmps5
 go_wp2_with fail
 refine cM (show Calls _ _ _ _ _ from hN.out) ?_
 rintro e w1 ⟨rfl,f1,f2⟩
 have hI1:Hid (dX w w1 w.heap.size dn (fun _=>[])):=dX.new (bR _ _) f1 f2
 clear f1 f2 hN
 go_wp2_with fail
 refine cM (hP1.out _) ?_
 rintro e w2 ⟨rfl,g2⟩
 have hg2:Hid (Gr w1 w2):=g2
 clear g2 hP1
 go_wp2_with fail
 refine cM (hP2.out _) ?_
 rintro e w3 ⟨rfl,g3⟩
 have hg3:Hid (Gr w1 w3):=hg2.out.trans g3
 clear g3 hP2 hg2
 go_wp2_with fail
 refine cM (hP3.out _) ?_
 rintro e w4 ⟨rfl,g4⟩
 have hg4:Hid (Gr w1 w4):=hg3.out.trans g4
 clear g4 hP3 hg3
 obtain ⟨w5,hw5⟩:∃W,w4.alloc (O #[.int I 1,.int I 0,.int I 0,.int I 0,.int I 1,.int I 0,.int I 3,.int I 0,.int I 4,.string ⟨#[]⟩,.int I 1,.int I 1,.int I 0,.int I 0,.int I 1,.int I 0,.int I 3,.int I 1,.int I 5,.string ⟨#[]⟩,.int I 1,.int I 1,.int I 0,.int I 0,.int I 1,.int I 0,.int I 7,.int I 0,.int I 1,.string ⟨#[]⟩] 30)=W:=⟨_,rfl⟩
 have hI:Hid (dX w w5 w.heap.size (sN 0) (fun _=>[])∧Cls w5 w4.heap.size (aE fu sdH)∧w.heap.size<w4.heap.size):=by
  have hg:=hg4.out.below
  have hg5:Gr w4 w5:=by rw[←hw5];exact (gR w4).alloc _
  obtain ⟨⟨P,hP,_⟩,_⟩:=hI1.out
  rw[hE.out.1]
  exact ⟨(hI1.out.below hg).below hg5.below,by rw[←hw5];exact Cls.new w4 _ _,nL hP.lt hg.size⟩
 clear hg4 hI1
 go_wp2
 try rw[hw5]
 clear hw5
 go_loopw [15] (fun v15 wr=>∃k:Nat,k≤3∧v15= .int I k∧Hid (dX w wr w.heap.size (sN k) (fun _=>[])∧Cls wr w4.heap.size (aE fu sdH)∧w.heap.size<w4.heap.size)) (fun v15 _=>3-(intOf v15).toNat)
 case atStart=>exact ⟨0,by omega,rfl,hI⟩
 clear hI
 rename World=>wr
 obtain ⟨k,hk,rfl,hI⟩:=hrel
 by_cases hk3:k<3
 ·have hkz:(k:Int)<3:=by omega
  obtain ⟨h1,h2,h3,h4⟩:=hE.out.2.2 k hk3
  obtain ⟨y,hy⟩:∃y,sdH[k]'hk3=(y,[]):=⟨(sdH[k]'hk3).1,by rw[←h2]⟩
  rw[hy] at h1 h3 h4
  have hf:=gU uh sdH k hk3
  rw[hy] at hf
  have c0:=hI.out.2.1.cell (j:=k*10+0) (hf 0 (by omega))
  have c1:=hI.out.2.1.cell (j:=k*10+1) (hf 1 (by omega))
  have c2:=hI.out.2.1.cell (j:=k*10+2) (hf 2 (by omega))
  have c3:=hI.out.2.1.cell (j:=k*10+3) (hf 3 (by omega))
  have c4:=hI.out.2.1.cell (j:=k*10+4) (hf 4 (by omega))
  have c5:=hI.out.2.1.cell (j:=k*10+5) (hf 5 (by omega))
  have c6:=hI.out.2.1.cell (j:=k*10+6) (hf 6 (by omega))
  have c7:=hI.out.2.1.cell (j:=k*10+7) (hf 7 (by omega))
  have c8:=hI.out.2.1.cell (j:=k*10+8) (hf 8 (by omega))
  have c9:=hI.out.2.1.cell (j:=k*10+9) (hf 9 (by omega))
  rw[Nat.add_zero] at c0
  go_upto_region 5 with fail
  obtain ⟨wb,hwb⟩:∃W,wr.alloc (O #[.int I y.k,.int I y.a,.int I y.b,.int I y.n,.int I y.e1,.int I y.e2,.int I y.e3,.int I y.e4,.int I y.e5,.string ⟨#[]⟩] 30)=W:=⟨_,rfl⟩
  have hgb:Gr wr wb:=by rw[←hwb];exact (gR _).alloc _
  have hBx:Cls wb wr.heap.size [.int I y.k,.int I y.a,.int I y.b,.int I y.n,.int I y.e1,.int I y.e2,.int I y.e3,.int I y.e4,.int I y.e5,.string ⟨#[]⟩]:=by rw[←hwb];exact Cls.new _ _ _
  obtain ⟨b0,b1,b2,b3,b4,b5,b6,b7,b8,b9⟩:=oB hBx
  have hD:Hid _:=one.out y h1 (hI.out.1.below hgb.below) h3 h4
  have hSb:Hid (Cls wb w4.heap.size (aE fu sdH)∧w.heap.size<w4.heap.size):=⟨hI.out.2.1.gr hgb,hI.out.2.2⟩
  rw[hwb]
  clear hgb hBx hf hy h1 h2 h3 h4 hI hwb c0 c1 c2 c3 c4 c5 c6 c7 c8 c9
  go_wp2_with fail
  refine cM (show Calls _ _ _ _ _ from hD.out) ?_
  rintro e wd ⟨rfl,f1,f2⟩
  have hF:Hid (dX w wd w.heap.size (sN (k+1)) (fun _=>[])∧Cls wd w4.heap.size (aE fu sdH)∧w.heap.size<w4.heap.size):=⟨f1,hSb.out.1.keep (f2.oth _ hSb.out.1.lt (by have:=hSb.out.2;omega)),hSb.out.2⟩
  clear f1 f2 hD hSb b0 b1 b2 b3 b4 b5 b6 b7 b8 b9
  go_wp2
  go_roundw
  case rel=>exact ⟨k+1,by omega,by go_num,hF⟩
  case measure=>simp[intOf];omega
 have hkz:¬(k:Int)<3:=by omega
 obtain rfl:k=3:=by omega
 rw[hE.out.2.1] at hI
 have hM1:Hid _:=xE hI.out.1 hI3.out
 go_wp2_with fail
 refine cM (show Calls _ _ _ _ _ from hM1.out) ?_
 rintro e w6 ⟨rfl,f1,f2⟩
 have hJ:Hid (dX w w6 w.heap.size (di N3) (fun _=>[])):=f1
 clear f1 f2 hM1 hI
 go_wp2_with fail
 refine cM (hDl.out _) ?_
 rintro e w7 ⟨rfl,g7⟩
 have hD:Hid _:=one.out (l6 2 7) rfl (hJ.out.below g7.below) hE5.out.1 hE5.out.2
 clear g7 hDl hJ
 go_wp2_with fail
 refine cM (show Calls _ _ _ _ _ from hD.out) ?_
 rintro e w8 ⟨rfl,f1,f2⟩
 have hJ:Hid (dX w w8 w.heap.size N5 (fun _=>[])):=f1
 clear f1 f2 hD
 go_wp2_with fail
 refine cM (hP4.out _) ?_
 rintro e w9 ⟨rfl,g9⟩
 have hD:Hid _:=one.out (eC 3 7 2 9) rfl (hJ.out.below g9.below) hE6.out.1 hE6.out.2
 clear g9 hP4 hJ
 go_wp2_with fail
 refine cM (show Calls _ _ _ _ _ from hD.out) ?_
 rintro e w10 ⟨rfl,f1,f2⟩
 have hJ:Hid (dX w w10 w.heap.size N6 (fun _=>[])):=f1
 clear f1 f2 hD
 have hM1:Hid _:=xE hJ.out hI6.out.1
 go_wp2_with fail
 refine cM (show Calls _ _ _ _ _ from hM1.out) ?_
 rintro e w11 ⟨rfl,f1,f2⟩
 have hK:Hid (dX w w11 w.heap.size (di N6) (fun _=>[])):=f1
 clear f1 f2 hM1 hJ
 go_wp2
 go_loopw [44] (fun v44 wr=>∃i:Nat,i≤4∧v44= .int I i∧Hid (dX w wr w.heap.size (di N6) (fun _=>[]))) (fun v44 _=>4-(intOf v44).toNat)
 case atStart=>exact ⟨0,by omega,rfl,hK⟩
 case round =>
  obtain ⟨i,hi,rfl,hJ⟩:=hrel
  by_cases hi4:i<4
  rotate_left
  ·have hz:¬(i:Int)<4:=by omega
   go_wp2
   go_ret
   exact ⟨rfl,hJ.out.2.1⟩
  have hiz:(i:Int)<4:=by omega
  have t0:Calls V 17 #[.pointer (some ⟨w.heap.size,0,none⟩),.int I i,.int I 0] wr fun e w'=>∃v,e= S (.tuple #[v,.int I 0])∧TbV wr.heap.size w' v tRR∧Below wr.heap.size wr w':=by
   obtain ⟨⟨P,hP,_⟩,_⟩:=hJ.out
   have:=rQ hP i hi4
   rwa [hI6.out.2 i hi4] at this
  have hT0:Hid _:=t0
  clear t0
  go_wp2_with fail
  refine cM (show Calls _ _ _ _ _ from hT0.out) ?_
  rintro e w2 ⟨v,rfl,⟨A,ca,D,cd,rfl,f1⟩,f2⟩
  obtain ⟨w3,hw3⟩:∃W,w2.alloc (O #[.int I tRR.c.c0,.int I tRR.c.c1,.int I tRR.c.c2,.int I tRR.c.c3,.slice A tRR.c.l.length ca,.slice D tRR.e.length cd] 43)=W:=⟨_,rfl⟩
  have hg3:Gr w2 w3:=by rw[←hw3];exact (gR w2).alloc _
  have hBx:Cls w3 w2.heap.size (T6 tRR A ca D cd):=by rw[←hw3];exact Cls.new w2 _ _
  obtain ⟨b0,b1,b2,b3,b4,b5⟩:=io hBx
  have o0:=va tRR A ca D cd w3 (by decide) (by decide) (f1.row.gr hg3) (f1.cel.gr hg3)
  rw[sd8.1,sd8.2] at o0
  have hO:Hid _:=o0
  have hB3:Hid (dX w w3 w.heap.size (di N6) (fun _=>[])):=(hJ.out.below f2).below hg3.below
  clear o0 f1 f2 hg3 hBx hT0 hJ
  go_wp2_with fail
  try rw[hw3]
  clear hw3
  refine cM (show Calls _ _ _ _ _ from hO.out) ?_
  rintro e w4 ⟨L,C,c,rfl,g1,g2,g3,g4⟩
  obtain ⟨W,hW⟩:∃W,((w4.alloc (O #[.int I 3,.int I 4,.int I 5,.int I 0] 3)).alloc (O #[.int I 7,.int I 0,.int I 0,.int I 9] 3)).alloc (O #[.slice (some ⟨w4.heap.size,0,none⟩) 4 4,.int I 1,.slice (some ⟨w4.heap.size+1,0,none⟩) 4 4,.int I 1] 62)=W:=⟨_,rfl⟩
  have hgW:Gr w4 W:=by rw[←hW];exact (((gR w4).alloc _).alloc _).alloc _
  have hS:Hid (Calls V 13 #[.slice C L.length c,.slice (some ⟨w4.heap.size+2,0,none⟩) 2 2] W fun e w'=>e= S (.bool true)∧Gr W w'):=by
   have h2:ax aJ 2 W (some ⟨w4.heap.size+2,0,none⟩) [⟨some ⟨w4.heap.size,0,none⟩,4,[3,4,5,0],1⟩,⟨some ⟨w4.heap.size+1,0,none⟩,4,[7,0,0,9],1⟩]:=by rw[←hW];exact kx bA (by simp) _ _ _ rfl
   have r1:ay W (some ⟨w4.heap.size,0,none⟩) [3,4,5,0]:=by rw[←hW];exact ((kx (enc:=fv) (k:=1) bU (W:=w4) rfl [3,4,5,0] 3 _ rfl).gr ((gR _).alloc _)).gr ((gR _).alloc _)
   have r2:ay W (some ⟨w4.heap.size+1,0,none⟩) [7,0,0,9]:=by rw[←hW];exact (kx (enc:=fv) (k:=1) bU (W:=w4.alloc (O #[.int I 3,.int I 4,.int I 5,.int I 0] 3)) (by simp) [7,0,0,9] 3 _ rfl).gr ((gR _).alloc _)
   have hl:L.length≤maxLen:=by
    have:=congrArg List.length g1
    rw[List.length_map] at this
    rw[this]
    decide
   have hs:=nj L [⟨some ⟨w4.heap.size,0,none⟩,4,[3,4,5,0],1⟩,⟨some ⟨w4.heap.size+1,0,none⟩,4,[7,0,0,9],1⟩] C (some ⟨w4.heap.size+2,0,none⟩) c 2 W hl (g2.gr hgW) ⟨h2,fun x hx=>by
    rcases List.mem_cons.1 hx with rfl|hx
    ·exact ⟨r1,(show (4:Nat)≤maxLen by decide),fun h=>by cases h⟩
    ·rw[List.mem_singleton.1 hx]
     exact ⟨r2,(show (4:Nat)≤maxLen by decide),fun h=>by cases h⟩⟩
   rw[g1] at hs
   exact hs
  have hB4:Hid (dX w W w.heap.size (di N6) (fun _=>[])):=(hB3.out.below g4).below hgW.below
  clear g1 g2 g3 g4 hgW hO hB3
  go_wp2_with fail
  try rw[hW]
  clear hW
  refine cM (show Calls _ _ _ _ _ from hS.out) ?_
  rintro e w5 ⟨rfl,g5⟩
  have hB5:Hid (dX w w5 w.heap.size (di N6) (fun _=>[])):=hB4.out.below g5.below
  clear g5 hS hB4
  go_wp2
  go_roundw
  case rel=>exact ⟨i+1,by omega,by go_num,hB5⟩
  case measure=>simp[intOf];omega
section
open Go.ChangeShapes Go.WideShapes Go.ChangeAt Go.Deep

variable {H:Type} {enc:TypeId×Value→H} {W:World}

theorem yr {cs:List Value} (h:cs.length=10):∃a b c d e f g h i j,cs=[a,b,c,d,e,f,g,h,i,j]:=by
 match cs,h with
 | [a,b,c,d,e,f,g,h,i,j],_=>exact ⟨a,b,c,d,e,f,g,h,i,j,rfl⟩
theorem xj {fuel:Nat} {v0 v1 v2 v3 v4:Value} {x:DataW H×List MemPlace} (h:DataW.trod enc V W 0 (fun _=>true) true fuel 28 [v0,v1,v2,v3,v4]=some x):∃z0 z1 z2 z3 z4:Int,[v0,v1,v2,v3,v4]=[.int I z0,.int I z1,.int I z2,.int I z3,.int I z4]:=by
 obtain ⟨xs,n,_,_,_,hxl,hf⟩:=DataW.trod_struct Tryz.underlying28 h
 have c1:Tryz.prog.cellsOf 3=1:=by kernel_rfl
 have hx5:xs.length=5:=hxl
 match xs,hx5 with
 | [y0,y1,y2,y3,y4],_ =>
  have g0:=hf 0 _ rfl
  have g1:=hf 1 _ rfl
  have g2:=hf 2 _ rfl
  have g3:=hf 3 _ rfl
  have g4:=hf 4 _ rfl
  simp[c1] at g0 g1 g2 g3 g4
  obtain ⟨z0,e0,_⟩:=DataW.trod_int Tryz.underlying3 g0
  obtain ⟨z1,e1,_⟩:=DataW.trod_int Tryz.underlying3 g1
  obtain ⟨z2,e2,_⟩:=DataW.trod_int Tryz.underlying3 g2
  obtain ⟨z3,e3,_⟩:=DataW.trod_int Tryz.underlying3 g3
  obtain ⟨z4,e4,_⟩:=DataW.trod_int Tryz.underlying3 g4
  simp only[List.cons.injEq,and_true] at e0 e1 e2 e3 e4
  exact ⟨z0,z1,z2,z3,z4,by rw[e0,e1,e2,e3,e4]⟩
theorem vg {fuel:Nat} {cs:List Value} {x:DataW H×List MemPlace} (hl:cs.length=10) (h:DataW.trod enc V W 0 (fun _=>true) true fuel 30 cs=some x):∃y:Hap×List UInt8,cs=fu y∧y.2.length≤maxLen:=by
 obtain ⟨v0,v1,v2,v3,v4,v5,v6,v7,v8,v9,rfl⟩:=yr hl
 obtain ⟨xs,n,_,_,_,hxl,hf⟩:=DataW.trod_struct Tryz.underlying30 h
 have c1:Tryz.prog.cellsOf 3=1:=by kernel_rfl
 have c5:Tryz.prog.cellsOf 28=5:=by kernel_rfl
 have cs:Tryz.prog.cellsOf 9=1:=by kernel_rfl
 have hx6:xs.length=6:=hxl
 match xs,hx6 with
 | [y0,y1,y2,y3,y4,y5],_ =>
  have g0:=hf 0 _ rfl
  have g1:=hf 1 _ rfl
  have g2:=hf 2 _ rfl
  have g3:=hf 3 _ rfl
  have g4:=hf 4 _ rfl
  have g5:=hf 5 _ rfl
  simp[c1,c5,cs] at g0 g1 g2 g3 g4 g5
  obtain ⟨z0,e0,_⟩:=DataW.trod_int Tryz.underlying3 g0
  obtain ⟨z1,e1,_⟩:=DataW.trod_int Tryz.underlying3 g1
  obtain ⟨z2,e2,_⟩:=DataW.trod_int Tryz.underlying3 g2
  obtain ⟨z3,e3,_⟩:=DataW.trod_int Tryz.underlying3 g3
  obtain ⟨k1,k2,k3,k4,k5,e4⟩:=xj g4
  obtain ⟨s,e5,_,hs⟩:=DataW.trod_string Tryz.underlying9 g5
  simp only[List.cons.injEq,and_true] at e0 e1 e2 e3 e4 e5
  refine ⟨(⟨z0,z1,z2,z3,k1,k2,k3,k4,k5⟩,s.data.toList),?_,by simpa using hs⟩
  rw[e0,e1,e2,e3,e4.1,e4.2.1,e4.2.2.1,e4.2.2.2.1,e4.2.2.2.2,e5]
  rfl
theorem sS {r:Reach} {b0:Nat} {v:Value} {d:DataW H} {p:List MemPlace} (hv:Value.okWide V W r b0 22 v) (h:DataW.Trod enc V W 0 (fun _=>true) true 22 v d p) :
  ∃A cap l,v= .slice A (l:List (Hap×List UInt8)).length cap∧ax fu 10 W A l∧l.length≤maxLen∧∀x∈l,x.2.length≤maxLen:=by
 obtain ⟨aL,lenL,capL,rfl⟩:=okWide_slice Tryz.underlying22 hv
 obtain ⟨fuel,hf⟩:=h
 rcases open_slice Tryz.underlying22 hf with ⟨hcs,_⟩|⟨a,len,cap,m,n,D,Pl,hcs,_,hl,hm,hmm,hx,hi⟩
 ·simp[Value.cells] at hcs
  obtain ⟨rfl,rfl,rfl⟩:=hcs
  exact ⟨none,0,[],rfl,oL rfl,by simp,fun x hx=>by cases hx⟩
 ·simp[Value.cells] at hcs
  obtain ⟨rfl,rfl,rfl⟩:=hcs
  have c2:Tryz.prog.cellsOf 30=10:=by kernel_rfl
  have hlm:lenL≤m:=by rw[hmm];simp;exact hl
  haveI:Inhabited (Hap×List UInt8):=⟨(⟨0,0,0,0,0,0,0,0,0⟩,[])⟩
  obtain ⟨Z,hZ⟩:=choose_lt (α := Hap×List UInt8) (n:=lenL) (p:=fun i z=>(∀j,j<10→W.cell? (a.add (i*10+j))=(fu z)[j]?)∧z.2.length≤maxLen) (fun i hi'=>by
   obtain ⟨cs',h1,h2⟩:=hi i (by omega)
   rw[c2] at h1
   obtain ⟨_,hlen,hcell⟩:=World.cells?_some h1
   obtain ⟨y,hy,hy2⟩:=vg hlen h2
   refine ⟨y,fun j hj=> ?_,hy2⟩
   have:=hcell j (by omega)
   rw[add_add] at this
   rw[this,←hy,List.getElem?_eq_getElem (by omega)])
  refine ⟨some a,capL,(List.range lenL).map Z,by simp,?_,by simp;omega,fun x hx=> ?_⟩
  ·by_cases h0:lenL=0
   ·exact oL (by rw[h0];rfl)
   ·have hc0:=(hZ 0 (by omega)).1 0 (by omega)
    obtain ⟨b,off,spot⟩:=a
    have hc1:W.cell? (Addr.add ⟨b,off,spot⟩ (0*10+0))=some (.int I (Z 0).1.k):=hc0
    have hspot:spot=none:=by simpa[Addr.add] using World.cell?_spot hc1
    subst hspot
    refine oR ⟨b,off,rfl,?_,fun j hj i hi5=> ?_⟩
    ·have:=World.block_lt_of_cell? W _ hc1
     simpa[Addr.add_lit] using this
    ·have hj':j<lenL:=by simpa using hj
     have:=(hZ j hj').1 i hi5
     simp only[Addr.add_lit,←Nat.add_assoc] at this
     simpa using this
  ·obtain ⟨i,hi',rfl⟩:=List.mem_map.1 hx
   exact (hZ i (by simpa using hi')).2
end
section
open Go.ChangeShapes Go.WideShapes Go.ChangeAt

theorem zy : ((Tryz.prog.globalNamed "internal/strconv.uint64pow10").bind fun g => (Tryz.prog.globals[g]?).map (·.type)) = some 308 := by kernel_rfl
theorem tx {H:Type}:(Rows.laid_internal_strconv_uint64pow10:DataW H)=Lib.tabData .u64 Lib.pow10Tab:=rfl
theorem gES : Tryz.prog.globalNamed "strconv.ErrSyntax" = some (Tryz.lays172_ren.g 15) := by kernel_rfl
theorem wP:(Tryz.prog.globals[Tryz.lays172_ren.g 15]?).map (·.type)=some 184:=by kernel_rfl
theorem rI {W:World} (h:laidMetH V Rows.topAlikeRow.laid W):nF W∧∃ev,W.cell? ⟨Tryz.lays172_ren.g 15,0,none⟩=some ev∧(ev= .nilIface∨∃te pe,ev= .iface te pe):=by
 rw[MakeChecks.laidMetH_plain _ _ _ (by kernel_rfl)] at h
 obtain ⟨ps,⟨g0,t0,cs0,f0,p0,q0,hg0,ht0,hv0,hd0,⟨g1,t1,cs1,f1,p1,q1,hg1,ht1,hv1,hd1,⟨g2,t2,cs2,f2,p2,q2,hg2,ht2,hv2,hd2,⟨g3,t3,cs3,f3,p3,q3,hg3,ht3,hv3,hd3,⟨g4,t4,cs4,f4,p4,q4,hg4,ht4,hv4,hd4,h5,_⟩,_⟩,_⟩,_⟩,_⟩,_,_⟩:=h
 constructor
 ·have hT:=zy
  rw[hg2] at hT
  obtain rfl:=sI (ht2.symm.trans hT)
  rw[tx] at hd2
  have:=Lib.cells_of_tab Tryz.underlying308 Tryz.underlying238 (by kernel_rfl) (by kernel_rfl) hd2
  show W.var? V _=some _
  rw[hv2,←this]
 ·obtain ⟨g5,t5,cs5,f5,p5,q5,hg5,ht5,hv5,hd5,_,_⟩:=h5
  rw[←Option.some.inj (gES.symm.trans hg5),wP] at ht5
  obtain rfl:=sI ht5
  obtain ⟨_,u,v,hcs,_,_⟩:=iface_of_trod Tryz.underlying184 hd5
  refine ⟨.iface u v,?_,oR ⟨u,v,rfl⟩⟩
  rw[World.var?_cell gES hv5 0]
  have h1:cs5.toList[0]? = some (.iface u v):=by rw[hcs];rfl
  simpa using h1
theorem vr {W:World} (h:W.ShapedOpen V) (hL:laidMetH V Rows.topAlikeRow.laid W):Reads W:=⟨Tryz.lays145.s1_3 W h,(rI hL).2,(rI hL).1⟩
theorem ja {H:Type} {enc:TypeId×Value→H} {a:Assume} {C:Checked} {os:Os} {f:FuncId} {fn:Func} {s:ChangeSpec} {conds:List PathCond} {apart fresh handsOn again:Bool} {X:World→Array Value→Prop}
  (hX:∀(w w':World) (args:Array Value),w.heap=w'.heap→X w args→X w' args)
  (own:ownKnob C.prog.godebug=none) (started:os.Started) (noInit:C.prog.inits.idxOf? f=none) (hfn:C.prog.funcs[f]? = some fn)
  (witness:∃(w:World) (tape:Tape) (i:Input),w.os=os∧(w.forCall tape i).Shaped C.prog∧i.vars=[]∧Input.okWide C.prog (w.forCall tape i) .any w.heap.size f i ∧
   ((s.pre enc C.prog fn conds apart (w.forCall tape i).memory i.args∧X (w.forCall tape i).memory i.args)∧sizedMet enc C.prog fn (OpenSpec.ofChange s) apart (w.forCall tape i).memory i.args)∧a.holds C.prog (lone (Frame.enter C.prog f i.args .normal) [] (w.forCall tape i)))
  (contract:∀(W:World) (base:Nat) (args:Array Value) (ds gs:List (DataW H)) (before:List MemPlace),
   (∀(j:Nat) t v,fn.params[j]? = some t→args[j]? = some v→Value.okWide C.prog W .any base t v) →
   DataW.Whole enc C.prog fn.params.toList s.vars apart W args.toList ds gs before→X W args→W.ShapedOpen C.prog →
   Calls C.prog f args W fun e W'=>∃v,e= S v∧s.post enc C.prog fn apart fresh handsOn again W args v W') :
  ReturnsInHanded a C os f .any (fun w args=>(s.pre enc C.prog fn conds apart w args∧X w args)∧sizedMet enc C.prog fn (OpenSpec.ofChange s) apart w args) (s.post enc C.prog fn apart fresh handsOn again):=by
 refine returnsInHanded_of_calls own started noInit witness ?_
 intro w tape i _ hsh _ hok hpre _
 obtain ⟨_,_,_,fn',hfn',_,_,_,_,hval⟩:=hok
 obtain rfl:fn'=fn:=sI (hfn'.symm.trans hfn)
 obtain ⟨⟨⟨ds,gs,before,hw,hc⟩,hx⟩,hz⟩:=hpre
 refine (contract (w.forCall tape i) w.heap.size i.args ds gs before hval (DataW.Whole.of_heap (w':=w.forCall tape i) (by rfl) hw) (hX _ _ _ (by rfl) hx) hsh).mono fun e W' ⟨v,he,hp⟩=> ?_
 subst he
 exact ChangeSpec.post_blind hp
end
end Go.Proofs.YtfedpiamlpflhaaGreatDoor
