import Derived.Test.YtkefkplnamkicabGreatDoorM13
import Derived.Deep.RegionHeld
set_option maxRecDepth 100000
set_option maxHeartbeats 8000000
open Go.IntKind renaming i64 → I
open Go.Obj renaming cells → J
open Go.Proofs.Tryz renaming prog → Z
open Go.Value renaming int → S, slice → O, agg → H, tuple → Y
namespace Go.Proofs.YtkefkplnamkicabGreatDoor
open Go.RowKit Go.Sort

def kg (a b:Ctx):Ctx:=⟨max a.c0 b.c0,max a.c1 b.c1,max a.c2 b.c2,max a.c3 b.c3,[]⟩
def d7 (a b:Ctx):Ctx:=dU (kg a b) (a.l++b.l)
def aC (a b:Ctx):Int:=if eU a b=0 then (if 400<(d7 a b).l.length then 2 else 0) else eU a b
def az (a b:Ctx):Ctx:=if aC a b=0 then d7 a b else aH

theorem mA (a b:Ctx) (x:Int):clk (kg a b) x=max (clk a x) (clk b x):=by
 unfold clk kg
 by_cases h0:x=0
 ·simp[h0]
 ·by_cases h1:x=1
  ·simp[h1]
  ·by_cases h2:x=2
   ·simp[h2]
   ·simp[h0,h1,h2]
theorem oZ {a b:Ctx} (ha:bw a=true) (hb:bw b=true):bw (kg a b)=true:=by
 refine lE fun x h0 h4=> ?_
 have h1:=cz ha x h0 h4
 have h2:=cz hb x h0 h4
 rw[mA]
 simp only[inB,Bool.and_eq_true,decide_eq_true_eq]
 omega

structure ClkAt (w:World) (B:Nat) (x0 x1 x2 x3:Int):Prop where
 k0:w.cell? ⟨B,0,none⟩=some (S I x0)
 k1:w.cell? ⟨B,1,none⟩=some (S I x1)
 k2:w.cell? ⟨B,2,none⟩=some (S I x2)
 k3:w.cell? ⟨B,3,none⟩=some (S I x3)
 fz:∀j,w.frozen? ⟨B,j,none⟩=false
 lt:B<w.heap.size

def jO (a b:Ctx) (k:Nat):Int×Int×Int×Int:=(if 0<k then max a.c0 b.c0 else a.c0,if 1<k then max a.c1 b.c1 else a.c1,if 2<k then max a.c2 b.c2 else a.c2,if 3<k then max a.c3 b.c3 else a.c3)

theorem ClkAt.set {w:World} {B:Nat} {x0 x1 x2 x3:Int} (h:ClkAt w B x0 x1 x2 x3) (j:Nat) (u:Int):ClkAt (w.setCell ⟨B,j,none⟩ (S I u)) B (if 0=j then u else x0) (if 1=j then u else x1) (if 2=j then u else x2) (if 3=j then u else x3):=by
 refine ⟨?_,?_,?_,?_,fun i=>by rw[World.frozen?_setCell];exact h.fz i,by simpa[World.setCell] using h.lt⟩
 ·rw[aa h.k0];split<;>rfl
 ·rw[aa h.k1];split<;>rfl
 ·rw[aa h.k2];split<;>rfl
 ·rw[aa h.k3];split<;>rfl

theorem pd (a b:Ctx) (A B:Option Addr) (ca cb:Nat) (w:World) (hal:a.l.length≤maxLen) (hbl:b.l.length≤maxLen) (hra:Row w A a.l) (hrb:Row w B b.l) (hA:A=none→ca=0) (hB:B=none→cb=0) :
  Calls Z 68 #[H #[S I a.c0,S I a.c1,S I a.c2,S I a.c3,O A a.l.length ca],H #[S I b.c0,S I b.c1,S I b.c2,S I b.c3,O B b.l.length cb]] w fun e w'=>∃C cp,e= .returned (Y #[H #[S I (az a b).c0,S I (az a b).c1,S I (az a b).c2,S I (az a b).c3,O C (az a b).l.length cp],S I (aC a b)])∧Row w' C (az a b).l∧(C=none→cp=0)∧(∀x,C=some x→w.heap.size≤x.block)∧Below w.heap.size w w':=by
 have hg0:Gr w (((w.alloc (J #[S I a.c0,S I a.c1,S I a.c2,S I a.c3,O A a.l.length ca] 39)).alloc (J #[S I b.c0,S I b.c1,S I b.c2,S I b.c3,O B b.l.length cb] 39)).alloc (J #[S I 0,S I 0,S I 0,S I 0,O none 0 0] 39)):=(((gR w).alloc _).alloc _).alloc _
 have ha0:CtxAt (((w.alloc (J #[S I a.c0,S I a.c1,S I a.c2,S I a.c3,O A a.l.length ca] 39)).alloc (J #[S I b.c0,S I b.c1,S I b.c2,S I b.c3,O B b.l.length cb] 39)).alloc (J #[S I 0,S I 0,S I 0,S I 0,O none 0 0] 39)) w.heap.size a A ca:=(CtxAt.new 39 hra rfl).gr (((gR _).alloc _).alloc _)
 have hb0:CtxAt (((w.alloc (J #[S I a.c0,S I a.c1,S I a.c2,S I a.c3,O A a.l.length ca] 39)).alloc (J #[S I b.c0,S I b.c1,S I b.c2,S I b.c3,O B b.l.length cb] 39)).alloc (J #[S I 0,S I 0,S I 0,S I 0,O none 0 0] 39)) (w.heap.size+1) b B cb:=(CtxAt.new 39 (hrb.gr ((gR _).alloc _)) (by simp)).gr ((gR _).alloc _)
 have hz0:CtxAt (((w.alloc (J #[S I a.c0,S I a.c1,S I a.c2,S I a.c3,O A a.l.length ca] 39)).alloc (J #[S I b.c0,S I b.c1,S I b.c2,S I b.c3,O B b.l.length cb] 39)).alloc (J #[S I 0,S I 0,S I 0,S I 0,O none 0 0] 39)) (w.heap.size+1+1) aH none 0:=CtxAt.new (c:=aH) (A:=none) (cap:=0) 39 (oL rfl) (by simp)
 have hzf0:∀j,(((w.alloc (J #[S I a.c0,S I a.c1,S I a.c2,S I a.c3,O A a.l.length ca] 39)).alloc (J #[S I b.c0,S I b.c1,S I b.c2,S I b.c3,O B b.l.length cb] 39)).alloc (J #[S I 0,S I 0,S I 0,S I 0,O none 0 0] 39)).frozen? ⟨w.heap.size+1+1,j,none⟩=false:=fun j=>by
  have:=eC (w:=(w.alloc (J #[S I a.c0,S I a.c1,S I a.c2,S I a.c3,O A a.l.length ca] 39)).alloc (J #[S I b.c0,S I b.c1,S I b.c2,S I b.c3,O B b.l.length cb] 39)) (gR (((w.alloc (J #[S I a.c0,S I a.c1,S I a.c2,S I a.c3,O A a.l.length ca] 39)).alloc (J #[S I b.c0,S I b.c1,S I b.c2,S I b.c3,O B b.l.length cb] 39)).alloc (J #[S I 0,S I 0,S I 0,S I 0,O none 0 0] 39))) j
  simpa using this
 have hck:=lZ a b A B ca cb (((w.alloc (J #[S I a.c0,S I a.c1,S I a.c2,S I a.c3,O A a.l.length ca] 39)).alloc (J #[S I b.c0,S I b.c1,S I b.c2,S I b.c3,O B b.l.length cb] 39)).alloc (J #[S I 0,S I 0,S I 0,S I 0,O none 0 0] 39)) hal hbl (hra.gr hg0) (hrb.gr hg0)
 have hckH:Hid _:=hck
 clear hck
 unfold maxLen at hal hbl
 go_enter Tryz.func68,Tryz.ntmps68
 go_wp2_with fail
 refine cM (show Calls _ _ _ _ _ from hckH.out) ?_
 rintro e w1 ⟨rfl,hg1⟩
 clear hckH
 have ha1:=ha0.gr hg1
 have hb1:=hb0.gr hg1
 have hz1:=hz0.gr hg1
 have hzf1:∀j,w1.frozen? ⟨w.heap.size+1+1,j,none⟩=false:=fun j=>(hg1.below.frozen (p:=⟨w.heap.size+1+1,j,none⟩) hz0.lt).trans (hzf0 j)
 have hbw1:Hid (Below w.heap.size w w1):=(hg0.trans hg1).below
 clear ha0 hb0 hz0 hzf0 hg1 hg0
 obtain ⟨z0,z1,z2,z3,z4,zlt,_⟩:=(show CtxAt _ _ _ _ _ from hz1)
 by_cases he:eU a b=0
 ·have heb:(eU a b != 0)=false:=by simpa using he
  have heH:Hid (eU a b=0):=he
  clear he
  have hab:=kC heH.out
  have hpa:=bE hab.1
  have hpb:=bE hab.2
  have hal4:a.l.length≤400:=hpa.2.1
  have hbl4:b.l.length≤400:=hpb.2.1
  have hHH:Hid (bw (kg a b)=true∧(∀x∈srt (a.l++b.l),al x=true)):=⟨oZ hpa.1 hpb.1,fun x hx=>by
   rcases List.mem_append.1 (jx hx) with h|h
   ·exact iI hab.1 x h
   ·exact iI hab.2 x h⟩
  clear hpa hpb hab
  obtain ⟨a0,a1,a2,a3,a4,alt,_⟩:=(show CtxAt _ _ _ _ _ from ha1)
  obtain ⟨b0,b1,b2,b3,b4,blt,_⟩:=(show CtxAt _ _ _ _ _ from hb1)
  have i0:∀w,(Instr.index 36 (H #[S I b.c0,S I b.c1,S I b.c2,S I b.c3]) (S I 0)).run Z w= .ok (S I b.c0) w:=fun _=>by kernel_rfl
  have i1:∀w,(Instr.index 36 (H #[S I b.c0,S I b.c1,S I b.c2,S I b.c3]) (S I 1)).run Z w= .ok (S I b.c1) w:=fun _=>by kernel_rfl
  have i2:∀w,(Instr.index 36 (H #[S I b.c0,S I b.c1,S I b.c2,S I b.c3]) (S I 2)).run Z w= .ok (S I b.c2) w:=fun _=>by kernel_rfl
  have i3:∀w,(Instr.index 36 (H #[S I b.c0,S I b.c1,S I b.c2,S I b.c3]) (S I 3)).run Z w= .ok (S I b.c3) w:=fun _=>by kernel_rfl
  have hk0:ClkAt (w1.alloc (J #[S I a.c0,S I a.c1,S I a.c2,S I a.c3] 36)) w1.heap.size a.c0 a.c1 a.c2 a.c3:=⟨ab (gR _) rfl,ab (gR _) rfl,ab (gR _) rfl,ab (gR _) rfl,fun j=>eC (gR _) j,by simp⟩
  go_wp2
  clear a0 a1 a2 a3 a4 b0 b1 b2 b3 b4
  go_loopw [22] (fun i wr=>∃k:Nat,k≤4∧i= S I k∧ClkAt wr w1.heap.size (jO a b k).1 (jO a b k).2.1 (jO a b k).2.2.1 (jO a b k).2.2.2∧Below w1.heap.size w1 wr) (fun i _=>4-(intOf i).toNat)
  case atStart=>exact ⟨0,by omega,rfl,hk0,(bR _ _).alloc (nR _) _⟩
  case round =>
   obtain ⟨k,hk,rfl,hck,hbel⟩:=hrel
   have hf0:=hck.fz 0
   have hf1:=hck.fz 1
   have hf2:=hck.fz 2
   have hf3:=hck.fz 3
   by_cases hlt:k<4
   ·have h4:k=0∨k=1∨k=2∨k=3:=by omega
    obtain ⟨c0,c1,c2,c3,cf,clt⟩:=(show ClkAt _ _ _ _ _ _ from hck)
    rcases h4 with rfl|rfl|rfl|rfl
    ·simp only[jO] at c0 c1 c2 c3 hck
     go_wp2
     go_roundw
     case rel=>exact ⟨1,by omega,by go_num,by have:=hck.set 0 (max a.c0 b.c0);simpa[jO] using this,hbel.setCell (nR _) _⟩
     case measure=>simp[intOf]
    ·simp only[jO] at c0 c1 c2 c3 hck
     go_wp2
     go_roundw
     case rel=>exact ⟨2,by omega,by go_num,by have:=hck.set 1 (max a.c1 b.c1);simpa[jO] using this,hbel.setCell (nR _) _⟩
     case measure=>simp[intOf]
    ·simp only[jO] at c0 c1 c2 c3 hck
     go_wp2
     go_roundw
     case rel=>exact ⟨3,by omega,by go_num,by have:=hck.set 2 (max a.c2 b.c2);simpa[jO] using this,hbel.setCell (nR _) _⟩
     case measure=>simp[intOf]
    ·simp only[jO] at c0 c1 c2 c3 hck
     go_wp2
     go_roundw
     case rel=>exact ⟨4,by omega,by go_num,by have:=hck.set 3 (max a.c3 b.c3);simpa[jO] using this,hbel.setCell (nR _) _⟩
     case measure=>simp[intOf]
   ·obtain rfl:k=4:=by omega
    simp only[jO] at hck
    simp only[show (0<4)=True from by simp,show (1<4)=True from by simp,show (2<4)=True from by simp,show (3<4)=True from by simp,if_true] at hck
    have haR:=ha1.below hbel
    have hbR:=hb1.below hbel
    have hzR:=hz1.below hbel
    have hzfR:∀j,wr.frozen? ⟨w.heap.size+1+1,j,none⟩=false:=fun j=>(hbel.frozen (p:=⟨w.heap.size+1+1,j,none⟩) zlt).trans (hzf1 j)
    have hbwR:Hid (Below w.heap.size w wr):=hbw1.out.trans (hbel.mono hbw1.out.size)
    obtain ⟨F,hF⟩:∃F,au (kg a b) (srt (a.l++b.l)) (srt (a.l++b.l)).length=F:=⟨_,rfl⟩
    have hris:∀(W:World),Below wr.heap.size wr W→Calls Z 101 #[O A a.l.length ca,O B b.l.length cb] W fun e w'=>∃C1 cp1,e= .returned (O C1 (srt (a.l++b.l)).length cp1)∧Row w' C1 (srt (a.l++b.l))∧Below wr.heap.size wr w'∧Below W.heap.size W w':=fun W hb =>
     (lK a.l b.l A B ca cb W (haR.row.below hb) (hbR.row.below hb) hA hB hal4 hbl4).mono fun e w' ⟨C1,cp1,h1,h2,h3⟩=>⟨C1,cp1,h1,h2,hb.trans (h3.mono hb.size),h3⟩
    have hfold:∀(W:World) (C1:Option Addr) (cp1:Nat),Row W C1 (srt (a.l++b.l))→Below wr.heap.size wr W→Calls Z 100 #[H #[S I (max a.c0 b.c0),S I (max a.c1 b.c1),S I (max a.c2 b.c2),S I (max a.c3 b.c3)],O C1 (srt (a.l++b.l)).length cp1] W fun e w'=>∃C2 cp2,e= .returned (H #[S I F.c0,S I F.c1,S I F.c2,S I F.c3,O C2 F.l.length cp2])∧Row w' C2 F.l∧(C2=none→cp2=0)∧(∀x,C2=some x→W.heap.size≤x.block)∧Below wr.heap.size wr w'∧Below W.heap.size W w':=fun W C1 cp1 hr1 hb=>by
     have h:=oP (kg a b) (srt (a.l++b.l)) C1 cp1 W rfl hHH.out.1 (by rw[eY,List.length_append];omega) hHH.out.2 hr1
     rw[hF] at h
     exact h.mono fun e w' ⟨C2,cp2,h1,h2,h3,h4,h5⟩=>⟨C2,cp2,h1,h2,h3,h4,hb.trans (h5.mono hb.size),h5⟩
    have hFF:Hid (d7 a b=F):=hF
    have hrisH:Hid (∀(W:World),Below wr.heap.size wr W→_):=hris
    have hfoldH:Hid (∀(W:World) (C1:Option Addr) (cp1:Nat),Row W C1 (srt (a.l++b.l))→Below wr.heap.size wr W→_):=hfold
    clear hris hfold i0 i1 i2 i3 hF
    obtain ⟨c0,c1,c2,c3,cf,clt⟩:=(show ClkAt _ _ _ _ _ _ from hck)
    obtain ⟨a0,a1,a2,a3,a4,alt',_⟩:=(show CtxAt _ _ _ _ _ from haR)
    obtain ⟨b0,b1,b2,b3,b4,blt',_⟩:=(show CtxAt _ _ _ _ _ from hbR)
    have hKeep:Hid (∀w':World,Below wr.heap.size wr w'→(fun w'=>w'.cell? ⟨w1.heap.size,0,none⟩=some (S I (max a.c0 b.c0))∧w'.cell? ⟨w1.heap.size,1,none⟩=some (S I (max a.c1 b.c1))∧w'.cell? ⟨w1.heap.size,2,none⟩=some (S I (max a.c2 b.c2))∧w'.cell? ⟨w1.heap.size,3,none⟩=some (S I (max a.c3 b.c3))∧w'.cell? ⟨w.heap.size,4,none⟩=some (O A a.l.length ca)∧w'.cell? ⟨w.heap.size+1,4,none⟩=some (O B b.l.length cb)) w'):=fun w' hb=>⟨(hb.cell (p:=⟨w1.heap.size,0,none⟩) clt).trans c0,(hb.cell (p:=⟨w1.heap.size,1,none⟩) clt).trans c1,(hb.cell (p:=⟨w1.heap.size,2,none⟩) clt).trans c2,(hb.cell (p:=⟨w1.heap.size,3,none⟩) clt).trans c3,(hb.cell (p:=⟨w.heap.size,4,none⟩) alt').trans a4,(hb.cell (p:=⟨w.heap.size+1,4,none⟩) blt').trans b4⟩
    have hZR:Hid (ZAt wr (w.heap.size+1+1)):=⟨hzR.k0,hzR.k1,hzR.k2,hzR.k3,hzR.k4,hzfR,hzR.lt⟩
    go_wp2
    have hbd:Below wr.heap.size wr wr.drew:=(bR _ _).drew
    have hbdA:Hid (Below wr.heap.size wr (wr.drew.alloc (J #[S I 0,S I 0,S I 0,S I 0,O none 0 0] 39))):=hbd.alloc (nR _) _
    clear a0 a1 a2 a3 a4 b0 b1 b2 b3 b4 c0 c1 c2 c3 cf hck haR hbR hzR z0 z1 z2 z3 z4 hf0 hf1 hf2 hf3 hk0 hzf1 hzfR ha1 hb1 hz1
    go_region_held (fun w'=>w'.cell? ⟨w1.heap.size,0,none⟩=some (S I (max a.c0 b.c0))∧w'.cell? ⟨w1.heap.size,1,none⟩=some (S I (max a.c1 b.c1))∧w'.cell? ⟨w1.heap.size,2,none⟩=some (S I (max a.c2 b.c2))∧w'.cell? ⟨w1.heap.size,3,none⟩=some (S I (max a.c3 b.c3))∧w'.cell? ⟨w.heap.size,4,none⟩=some (O A a.l.length ca)∧w'.cell? ⟨w.heap.size+1,4,none⟩=some (O B b.l.length cb)) (first|exact hKeep.out _ hbd|exact hKeep.out _ hbdA.out|exact hKeep.out _ hbX.out|exact hKeep.out _ (hbX.out.alloc hbX.out.size _)|exact hKeep.out _ hbY.out|exact hKeep.out _ (hbY.out.alloc hbY.out.size _)|exact hKeep.out _ (aZ hbY.out (by first|exact nR _|exact hbX.out.size) _ _ _ _ _)) (first|(go_at_call 101;(first|refine cM (show Calls _ _ _ _ _ from hrisH.out _ hbd) ?_|refine cM (show Calls _ _ _ _ _ from hrisH.out _ hbdA.out) ?_);rintro e wX ⟨C1,cp1,rfl,hrowX,hbX0,hX0⟩;have hbX:Hid (Below wr.heap.size wr wX):=hbX0;have hrX:Hid (Row wX C1 (srt (a.l++b.l))):=hrowX;clear hbX0 hrowX;first|(have hzX:Hid (ZAt wX wr.heap.size):=(ZAt.new wr.drew 39 rfl).below hX0;clear hX0)|clear hX0)|(go_at_call 100;(first|refine cM (show Calls _ _ _ _ _ from hfoldH.out _ C1 cp1 hrX.out hbX.out) ?_|refine cM (show Calls _ _ _ _ _ from hfoldH.out _ C1 cp1 (hrX.out.gr ((gR _).alloc _)) (hbX.out.alloc hbX.out.size _)) ?_);rintro e wY ⟨C2,cp2,rfl,hrowY,hCY,hCbY0,hbY0,hY0⟩;have hbY:Hid (Below wr.heap.size wr wY):=hbY0;have hrY:Hid (Row wY C2 F.l):=hrowY;have hCbY:Hid (∀x,C2=some x→_):=hCbY0;clear hbY0 hrowY hCbY0;first|(have hzY:Hid (ZAt wY wr.heap.size):=hzX.out.below hY0;obtain ⟨y0,y1,y2,y3,y4,yf,ylt⟩:=hzY.out)|(have hzY:Hid (ZAt wY wX.heap.size):=(ZAt.new wX 39 rfl).below hY0;obtain ⟨y0,y1,y2,y3,y4,yf,ylt⟩:=hzY.out)|skip))
    ·have hwr:w.heap.size+1+1<wr.heap.size:=hZR.out.lt
     have hFV:CtxAt (wY.alloc (J #[S I F.c0,S I F.c1,S I F.c2,S I F.c3,O C2 F.l.length cp2] 39)) wY.heap.size F C2 cp2:=CtxAt.new 39 hrY.out rfl
     have hZV:ZAt (wY.alloc (J #[S I F.c0,S I F.c1,S I F.c2,S I F.c3,O C2 F.l.length cp2] 39)) (w.heap.size+1+1):=(hZR.out.below hbY.out).below ((bR _ _).alloc (nR _) _)
     have hbV:Hid (Below w.heap.size w (wY.alloc (J #[S I F.c0,S I F.c1,S I F.c2,S I F.c3,O C2 F.l.length cp2] 39))):=(hbwR.out.trans (hbY.out.mono hbwR.out.size)).alloc (nT hbwR.out.size hbY.out.size) _
     have hC2:Hid (∀x,C2=some x→w.heap.size+1+1<x.block):=fun x hx=>by have h1:=hCbY.out x hx;have h2:=hbX.out.size;first|omega|(simp at h1;omega)
     generalize (wY.alloc (J #[S I F.c0,S I F.c1,S I F.c2,S I F.c3,O C2 F.l.length cp2] 39))=V at hFV hZV hbV ⊢
     obtain ⟨f0,f1,f2,f3,f4,flt,frow⟩:=(show CtxAt _ _ _ _ _ from hFV)
     obtain ⟨z0,z1,z2,z3,z4,zf,zl⟩:=(show ZAt _ _ from hZV)
     by_cases h400:400<F.l.length
     ·have h400z:(400:Int)<(F.l.length:Int):=by omega
      have hfin:Hid (aC a b=2∧az a b=aH):=by
       have h1:aC a b=2:=by unfold aC;rw[if_pos heH.out,hFF.out,if_pos h400]
       exact ⟨h1,by simp[az,h1]⟩
      go_wp2
      rw[hfin.out.1,hfin.out.2]
      exact bodyPost_ret (v:= Y #[H #[S I 0,S I 0,S I 0,S I 0,O none 0 0],S I 2]) (by simp[results,Tryz.results68,go_sem,z0,z1,z2,z3,z4]) rfl ⟨none,0,rfl,oL rfl,fun _=>rfl,(fun x hx=>by cases hx),aZ hbV.out (by omega) _ _ _ _ _⟩
     ·have h400z:¬(400:Int)<(F.l.length:Int):=by omega
      have hfin:Hid (aC a b=0∧az a b=F):=by
       have h1:aC a b=0:=by unfold aC;rw[if_pos heH.out,hFF.out,if_neg h400]
       exact ⟨h1,by simp[az,h1,hFF.out]⟩
      have hCn:∀x,C2=some x→x.block≠w.heap.size+1+1:=fun x hx=>by have:=hC2.out x hx;omega
      go_wp2
      rw[hfin.out.1,hfin.out.2]
      refine bodyPost_ret (v:= Y #[H #[S I F.c0,S I F.c1,S I F.c2,S I F.c3,O C2 F.l.length cp2],S I 0]) (by simp[results,Tryz.results68,go_sem,z0,z1,z2,z3,z4]) rfl ⟨C2,cp2,rfl,?_,hCY,fun x hx=>by have:=hC2.out x hx;omega,aZ hbV.out (by omega) _ _ _ _ _⟩
      exact ((((frow.setCell _ hCn).setCell _ hCn).setCell _ hCn).setCell _ hCn).setCell _ hCn
    ·have hwr:w.heap.size+1+1<wr.heap.size:=hZR.out.lt
     have hFV:CtxAt (((((wY.setCell ⟨wX.heap.size,0,none⟩ (S I F.c0)).setCell ⟨wX.heap.size,1,none⟩ (S I F.c1)).setCell ⟨wX.heap.size,2,none⟩ (S I F.c2)).setCell ⟨wX.heap.size,3,none⟩ (S I F.c3)).setCell ⟨wX.heap.size,4,none⟩ (O C2 F.l.length cp2)) wX.heap.size F C2 cp2:=(hzY.out.ctx).set hrY.out (fun x hx=>by have:=hCbY.out x hx;first|omega|(simp at this;omega))
     have hZV:ZAt (((((wY.setCell ⟨wX.heap.size,0,none⟩ (S I F.c0)).setCell ⟨wX.heap.size,1,none⟩ (S I F.c1)).setCell ⟨wX.heap.size,2,none⟩ (S I F.c2)).setCell ⟨wX.heap.size,3,none⟩ (S I F.c3)).setCell ⟨wX.heap.size,4,none⟩ (O C2 F.l.length cp2)) (w.heap.size+1+1):=(hZR.out.below hbY.out).other5 _ _ _ _ _ (by have:=hbX.out.size;omega)
     have hbV:Hid (Below w.heap.size w (((((wY.setCell ⟨wX.heap.size,0,none⟩ (S I F.c0)).setCell ⟨wX.heap.size,1,none⟩ (S I F.c1)).setCell ⟨wX.heap.size,2,none⟩ (S I F.c2)).setCell ⟨wX.heap.size,3,none⟩ (S I F.c3)).setCell ⟨wX.heap.size,4,none⟩ (O C2 F.l.length cp2))):=aZ (hbwR.out.trans (hbY.out.mono hbwR.out.size)) (by have:=hbX.out.size;omega) _ _ _ _ _
     have hC2:Hid (∀x,C2=some x→w.heap.size+1+1<x.block):=fun x hx=>by have h1:=hCbY.out x hx;have h2:=hbX.out.size;first|omega|(simp at h1;omega)
     generalize (((((wY.setCell ⟨wX.heap.size,0,none⟩ (S I F.c0)).setCell ⟨wX.heap.size,1,none⟩ (S I F.c1)).setCell ⟨wX.heap.size,2,none⟩ (S I F.c2)).setCell ⟨wX.heap.size,3,none⟩ (S I F.c3)).setCell ⟨wX.heap.size,4,none⟩ (O C2 F.l.length cp2))=V at hFV hZV hbV ⊢
     obtain ⟨f0,f1,f2,f3,f4,flt,frow⟩:=(show CtxAt _ _ _ _ _ from hFV)
     obtain ⟨z0,z1,z2,z3,z4,zf,zl⟩:=(show ZAt _ _ from hZV)
     by_cases h400:400<F.l.length
     ·have h400z:(400:Int)<(F.l.length:Int):=by omega
      have hfin:Hid (aC a b=2∧az a b=aH):=by
       have h1:aC a b=2:=by unfold aC;rw[if_pos heH.out,hFF.out,if_pos h400]
       exact ⟨h1,by simp[az,h1]⟩
      go_wp2
      rw[hfin.out.1,hfin.out.2]
      exact bodyPost_ret (v:= Y #[H #[S I 0,S I 0,S I 0,S I 0,O none 0 0],S I 2]) (by simp[results,Tryz.results68,go_sem,z0,z1,z2,z3,z4]) rfl ⟨none,0,rfl,oL rfl,fun _=>rfl,(fun x hx=>by cases hx),aZ hbV.out (by omega) _ _ _ _ _⟩
     ·have h400z:¬(400:Int)<(F.l.length:Int):=by omega
      have hfin:Hid (aC a b=0∧az a b=F):=by
       have h1:aC a b=0:=by unfold aC;rw[if_pos heH.out,hFF.out,if_neg h400]
       exact ⟨h1,by simp[az,h1,hFF.out]⟩
      have hCn:∀x,C2=some x→x.block≠w.heap.size+1+1:=fun x hx=>by have:=hC2.out x hx;omega
      go_wp2
      rw[hfin.out.1,hfin.out.2]
      refine bodyPost_ret (v:= Y #[H #[S I F.c0,S I F.c1,S I F.c2,S I F.c3,O C2 F.l.length cp2],S I 0]) (by simp[results,Tryz.results68,go_sem,z0,z1,z2,z3,z4]) rfl ⟨C2,cp2,rfl,?_,hCY,fun x hx=>by have:=hC2.out x hx;omega,aZ hbV.out (by omega) _ _ _ _ _⟩
      exact ((((frow.setCell _ hCn).setCell _ hCn).setCell _ hCn).setCell _ hCn).setCell _ hCn
    ·have hwr:w.heap.size+1+1<wr.heap.size:=hZR.out.lt
     have hFV:CtxAt (((((wY.setCell ⟨wr.heap.size,0,none⟩ (S I F.c0)).setCell ⟨wr.heap.size,1,none⟩ (S I F.c1)).setCell ⟨wr.heap.size,2,none⟩ (S I F.c2)).setCell ⟨wr.heap.size,3,none⟩ (S I F.c3)).setCell ⟨wr.heap.size,4,none⟩ (O C2 F.l.length cp2)) wr.heap.size F C2 cp2:=(hzY.out.ctx).set hrY.out (fun x hx=>by have:=hCbY.out x hx;have:=hzX.out.lt;omega)
     have hZV:ZAt (((((wY.setCell ⟨wr.heap.size,0,none⟩ (S I F.c0)).setCell ⟨wr.heap.size,1,none⟩ (S I F.c1)).setCell ⟨wr.heap.size,2,none⟩ (S I F.c2)).setCell ⟨wr.heap.size,3,none⟩ (S I F.c3)).setCell ⟨wr.heap.size,4,none⟩ (O C2 F.l.length cp2)) (w.heap.size+1+1):=(hZR.out.below hbY.out).other5 _ _ _ _ _ (by omega)
     have hbV:Hid (Below w.heap.size w (((((wY.setCell ⟨wr.heap.size,0,none⟩ (S I F.c0)).setCell ⟨wr.heap.size,1,none⟩ (S I F.c1)).setCell ⟨wr.heap.size,2,none⟩ (S I F.c2)).setCell ⟨wr.heap.size,3,none⟩ (S I F.c3)).setCell ⟨wr.heap.size,4,none⟩ (O C2 F.l.length cp2))):=aZ (hbwR.out.trans (hbY.out.mono hbwR.out.size)) (by omega) _ _ _ _ _
     have hC2:Hid (∀x,C2=some x→w.heap.size+1+1<x.block):=fun x hx=>by have h1:=hCbY.out x hx;have h2:=hbX.out.size;first|omega|(simp at h1;omega)
     generalize (((((wY.setCell ⟨wr.heap.size,0,none⟩ (S I F.c0)).setCell ⟨wr.heap.size,1,none⟩ (S I F.c1)).setCell ⟨wr.heap.size,2,none⟩ (S I F.c2)).setCell ⟨wr.heap.size,3,none⟩ (S I F.c3)).setCell ⟨wr.heap.size,4,none⟩ (O C2 F.l.length cp2))=V at hFV hZV hbV ⊢
     obtain ⟨f0,f1,f2,f3,f4,flt,frow⟩:=(show CtxAt _ _ _ _ _ from hFV)
     obtain ⟨z0,z1,z2,z3,z4,zf,zl⟩:=(show ZAt _ _ from hZV)
     by_cases h400:400<F.l.length
     ·have h400z:(400:Int)<(F.l.length:Int):=by omega
      have hfin:Hid (aC a b=2∧az a b=aH):=by
       have h1:aC a b=2:=by unfold aC;rw[if_pos heH.out,hFF.out,if_pos h400]
       exact ⟨h1,by simp[az,h1]⟩
      go_wp2
      rw[hfin.out.1,hfin.out.2]
      exact bodyPost_ret (v:= Y #[H #[S I 0,S I 0,S I 0,S I 0,O none 0 0],S I 2]) (by simp[results,Tryz.results68,go_sem,z0,z1,z2,z3,z4]) rfl ⟨none,0,rfl,oL rfl,fun _=>rfl,(fun x hx=>by cases hx),aZ hbV.out (by omega) _ _ _ _ _⟩
     ·have h400z:¬(400:Int)<(F.l.length:Int):=by omega
      have hfin:Hid (aC a b=0∧az a b=F):=by
       have h1:aC a b=0:=by unfold aC;rw[if_pos heH.out,hFF.out,if_neg h400]
       exact ⟨h1,by simp[az,h1,hFF.out]⟩
      have hCn:∀x,C2=some x→x.block≠w.heap.size+1+1:=fun x hx=>by have:=hC2.out x hx;omega
      go_wp2
      rw[hfin.out.1,hfin.out.2]
      refine bodyPost_ret (v:= Y #[H #[S I F.c0,S I F.c1,S I F.c2,S I F.c3,O C2 F.l.length cp2],S I 0]) (by simp[results,Tryz.results68,go_sem,z0,z1,z2,z3,z4]) rfl ⟨C2,cp2,rfl,?_,hCY,fun x hx=>by have:=hC2.out x hx;omega,aZ hbV.out (by omega) _ _ _ _ _⟩
      exact ((((frow.setCell _ hCn).setCell _ hCn).setCell _ hCn).setCell _ hCn).setCell _ hCn
 ·have hfin:Hid (aC a b=eU a b∧az a b=aH):=by
   have h1:aC a b=eU a b:=by simp[aC,he]
   exact ⟨h1,by simp[az,h1,he]⟩
  have heb:(eU a b != 0)=true:=by simpa using he
  clear he
  go_wp2
  rw[hfin.out.1,hfin.out.2]
  exact bodyPost_ret (v:= Y #[H #[S I 0,S I 0,S I 0,S I 0,O none 0 0],S I (eU a b)]) (by simp[results,Tryz.results68,go_sem,z0,z1,z2,z3,z4]) rfl ⟨none,0,rfl,oL rfl,fun _=>rfl,(fun x hx=>by cases hx),aZ hbw1.out (by omega) _ _ _ _ _⟩
end Go.Proofs.YtkefkplnamkicabGreatDoor
