import Derived.Test.YtkefkplnamkicabGreatDoorM03
import Derived.Shelf.Small.Strs
set_option maxRecDepth 100000
set_option maxHeartbeats 8000000
open Go.Ending renaming returned → O
open Go.IntKind renaming i64 → V
open Go.Obj renaming cells → Z
open Go.Proofs.Tryz renaming prog → S
open Go.Value renaming int → I, slice → J, bool → H, pointer → Y, string → X, agg → U


namespace Go.Proofs
open Go.Shelf
def Tryz.laysIndexByte_ren:Go.Shelf.Ren:=⟨fun|137=>175|217=>134|266=>166|n=>n,fun|9=>9|5=>5|3=>3|n=>n,fun|n=>n⟩
theorem Tryz.laysIndexByte:Go.Proofs.Lays.n137 S Tryz.laysIndexByte_ren:={
 mixed:=by kernel_rfl
 f137:=Tryz.func175.trans (congrArg some (by kernel_rfl))
 f217:=Tryz.func134.trans (congrArg some (by kernel_rfl))
 f266:=Tryz.func166.trans (congrArg some (by kernel_rfl))
 t3:=Tryz.underlying3
 a3:=Tryz.isAgg3
 z3:=Tryz.sizeOf3
 v3:=Tryz.zeroValue3
 t5:=Tryz.underlying5
 a5:=Tryz.isAgg5
 z5:=Tryz.sizeOf5
 v5:=Tryz.zeroValue5
 t9:=Tryz.underlying9
 a9:=Tryz.isAgg9
 z9:=Tryz.sizeOf9
 v9:=Tryz.zeroValue9 }
end Go.Proofs

namespace Go.Proofs.YtkefkplnamkicabGreatDoor
open Go.RowKit Go.Sort

def belowB (n k:Int):Bool:=decide (0≤n) && decide (n<k)
theorem gG (n k:Int) (w:World):Calls S 146 #[I V n,I V k] w fun e w'=>e= O (H (belowB n k))∧w'=w:=by
 by_cases h1:0≤n
 ·by_cases h2:n<k
  ·have e:belowB n k=true:=by simp[belowB];omega
   rw[e];clear e
   go_enter Tryz.func146,Tryz.ntmps146
   go_wp2
   go_ret
   exact ⟨rfl,rfl⟩
  ·have e:belowB n k=false:=by simp[belowB];omega
   rw[e];clear e
   go_enter Tryz.func146,Tryz.ntmps146
   go_wp2
   go_ret
   exact ⟨rfl,rfl⟩
 ·have e:belowB n k=false:=by simp[belowB];omega
  rw[e];clear e
  go_enter Tryz.func146,Tryz.ntmps146
  go_wp2
  go_ret
  exact ⟨rfl,rfl⟩
def opB (n:Int):Bool:=decide (n=1∨n=2∨n=3)
theorem uS (n:Int) (w:World):Calls S 176 #[I V n] w fun e w'=>e= O (H (opB n))∧w'=w:=by
 by_cases h1:n=1
 ·subst h1
  go_enter Tryz.func176,Tryz.ntmps176
  go_wp2
  go_ret
  exact ⟨rfl,rfl⟩
 ·by_cases h2:n=2
  ·subst h2
   go_enter Tryz.func176,Tryz.ntmps176
   go_wp2
   go_ret
   exact ⟨rfl,rfl⟩
  ·by_cases h3:n=3
   ·subst h3
    go_enter Tryz.func176,Tryz.ntmps176
    go_wp2
    go_ret
    exact ⟨rfl,rfl⟩
   ·have e:opB n=false:=by simp[opB];omega
    have e1:(n==1)=false:=by simpa using h1
    have e2:(n==2)=false:=by simpa using h2
    have e3:(n==3)=false:=by simpa using h3
    rw[e];clear e h1 h2 h3
    go_enter Tryz.func176,Tryz.ntmps176
    go_wp2
    go_ret
    exact ⟨rfl,rfl⟩
def lB (n:Int):Bool:=inB n (-1073741824) 1073741824
theorem nS (n:Int) (w:World):Calls S 177 #[I V n] w fun e w'=>e= O (H (lB n))∧w'=w:=by
 by_cases h1: -1073741824≤n
 ·by_cases h2:n≤1073741824
  ·have e:lB n=true:=by simp[lB,inB];omega
   rw[e];clear e
   go_enter Tryz.func177,Tryz.ntmps177
   go_wp2
   go_ret
   exact ⟨rfl,rfl⟩
  ·have e:lB n=false:=by simp[lB,inB];omega
   rw[e];clear e
   go_enter Tryz.func177,Tryz.ntmps177
   go_wp2
   go_ret
   exact ⟨rfl,rfl⟩
 ·have e:lB n=false:=by simp[lB,inB];omega
  rw[e];clear e
  go_enter Tryz.func177,Tryz.ntmps177
  go_wp2
  go_ret
  exact ⟨rfl,rfl⟩

theorem nK (l:List Int) (k:Int) (A:Option Addr) (cap:Nat) (w:World) (hl:l.length≤maxLen) (hr:ar w A l) :
  Calls S 178 #[J A l.length cap,I V k] w fun e w'=>e= O (H (l.all fun n=>belowB n k))∧Gr w w':=by
 unfold maxLen at hl
 go_enter Tryz.func178,Tryz.ntmps178
 go_wp2
 go_loopw [9] (fun i wr=>∃j:Nat,j≤l.length∧i= I V j∧Hid (∀m (h:m<l.length),m<j→belowB l[m] k=true)∧wr=w) (fun i _=>l.length-(intOf i).toNat)
 case atStart=>exact ⟨0,nZ _,rfl,fun m _ h=>by omega,rfl⟩
 case round =>
  obtain ⟨j,hj,rfl,hall,rfl⟩:=hrel
  by_cases hlt:j<l.length
  ·have hltz:(j:Int)<(l.length:Int):=by omega
   obtain ⟨b,off,rfl,hb,hcs⟩:=hr.at hlt
   have e0:=hcs j hlt 0 (by omega)
   obtain ⟨x,hx⟩:∃y,l[j]=y:=⟨_,rfl⟩
   rw[hx] at e0
   have e1:wr.cell? ⟨b,off+j,none⟩=some (I V x):=by simpa[eM] using e0
   have hxH:Hid (l[j]=x):=hx
   clear hcs e0 hx
   cases hq:belowB x k
   ·have hib:=gG x k wr
    rw[hq] at hib
    have hibH:Hid _:=hib
    have hfin:Hid ((l.all fun n=>belowB n k)=false):=by
     show _=_
     rw[List.all_eq_false]
     exact ⟨l[j],gM hlt,by rw[hxH.out,hq];simp⟩
    clear hib
    go_wp2_with (go_at_call 146;(refine cM (show Calls _ _ _ _ _ from hibH.out) ?_);rintro e w' ⟨rfl,rfl⟩)
    go_ret
    exact ⟨by rw[hfin.out];rfl,gR _⟩
   ·have hib:=gG x k wr
    rw[hq] at hib
    have hibH:Hid _:=hib
    clear hib
    have hqH:Hid (belowB l[j] k=true):=by show _=_;rw[hxH.out];exact hq
    clear hq
    go_wp2_with (go_at_call 146;(refine cM (show Calls _ _ _ _ _ from hibH.out) ?_);rintro e w' ⟨rfl,rfl⟩)
    go_roundw
    case rel =>
     refine ⟨j+1,by omega,by go_num,?_,by trivial⟩
     intro m hm hmj
     by_cases e:m=j
     ·subst e;exact hqH.out
     ·exact hall m hm (by omega)
    case measure=>simp[intOf];omega
  ·have hltz:¬(j:Int)<(l.length:Int):=by omega
   have hfin:Hid ((l.all fun n=>belowB n k)=true):=by
    show _=_
    rw[List.all_eq_true]
    intro x hx
    obtain ⟨m,hm,rfl⟩:=List.mem_iff_getElem.1 hx
    exact hall m hm (by omega)
   go_wp2
   go_ret
   exact ⟨by rw[hfin.out];rfl,gR _⟩

structure Stp where
 k:Int
 a:Int
 b:Int
 c:Int
 o:Int
 v:Int
 p:Option Addr
 n:Nat
 l:List Int
def iH (s:Stp):List Value:=[I V s.k,I V s.a,I V s.b,I V s.c,I V s.o,I V s.v,J s.p s.l.length s.n]
theorem je (s:Stp):(iH s).length=7:=rfl
theorem uA (s:Stp):∀u∈iH s,u.oneCell'=true:=by
 intro u hu
 simp[iH] at hu
 rcases hu with rfl|rfl|rfl|rfl|rfl|rfl|rfl<;>rfl

def e7 (k:Int):List UInt8:=if k=1 then [116,97,98,108,101] else if k=2 then [119,104,101,114,101] else if k=3 then [112,105,99,107] else if k=4 then [106,111,105,110] else if k=5 then [117,110,105,111,110] else if k=6 then [109,105,110,117,115] else if k=7 then [100,105,115,116,105,110,99,116] else if k=8 then [99,111,117,110,116] else if k=9 then [115,117,109] else []
def dx (k:Int):List UInt8:=if k=1 then [65] else if k=2 then [65,67,79,86] else if k=3 then [65,76] else if k=4 then [65,66,67,86] else if k=5 then [65,66] else if k=6 then [65,66] else if k=7 then [65] else if k=8 then [65,67] else if k=9 then [65,67,86] else []

theorem iM (k:Int) (w:World):Calls S 77 #[I V k] w fun e w'=>e= O (.tuple #[X ⟨(e7 k).toArray⟩,X ⟨(dx k).toArray⟩])∧w'=w:=by
 by_cases h1:k=1
 ·subst h1
  go_enter Tryz.func77,Tryz.ntmps77
  go_wp2
  go_ret2
  exact ⟨rfl,rfl⟩
 by_cases h2:k=2
 ·subst h2
  go_enter Tryz.func77,Tryz.ntmps77
  go_wp2
  go_ret2
  exact ⟨rfl,rfl⟩
 by_cases h3:k=3
 ·subst h3
  go_enter Tryz.func77,Tryz.ntmps77
  go_wp2
  go_ret2
  exact ⟨rfl,rfl⟩
 by_cases h4:k=4
 ·subst h4
  go_enter Tryz.func77,Tryz.ntmps77
  go_wp2
  go_ret2
  exact ⟨rfl,rfl⟩
 by_cases h5:k=5
 ·subst h5
  go_enter Tryz.func77,Tryz.ntmps77
  go_wp2
  go_ret2
  exact ⟨rfl,rfl⟩
 by_cases h6:k=6
 ·subst h6
  go_enter Tryz.func77,Tryz.ntmps77
  go_wp2
  go_ret2
  exact ⟨rfl,rfl⟩
 by_cases h7:k=7
 ·subst h7
  go_enter Tryz.func77,Tryz.ntmps77
  go_wp2
  go_ret2
  exact ⟨rfl,rfl⟩
 by_cases h8:k=8
 ·subst h8
  go_enter Tryz.func77,Tryz.ntmps77
  go_wp2
  go_ret2
  exact ⟨rfl,rfl⟩
 by_cases h9:k=9
 ·subst h9
  go_enter Tryz.func77,Tryz.ntmps77
  go_wp2
  go_ret2
  exact ⟨rfl,rfl⟩
 have e1:e7 k=[]:=by unfold e7;rw[if_neg h1,if_neg h2,if_neg h3,if_neg h4,if_neg h5,if_neg h6,if_neg h7,if_neg h8,if_neg h9]
 have e2:dx k=[]:=by unfold dx;rw[if_neg h1,if_neg h2,if_neg h3,if_neg h4,if_neg h5,if_neg h6,if_neg h7,if_neg h8,if_neg h9]
 have q1:(k==1)=false:=by simpa using h1
 have q2:(k==2)=false:=by simpa using h2
 have q3:(k==3)=false:=by simpa using h3
 have q4:(k==4)=false:=by simpa using h4
 have q5:(k==5)=false:=by simpa using h5
 have q6:(k==6)=false:=by simpa using h6
 have q7:(k==7)=false:=by simpa using h7
 have q8:(k==8)=false:=by simpa using h8
 have q9:(k==9)=false:=by simpa using h9
 rw[e1,e2]
 clear h1 h2 h3 h4 h5 h6 h7 h8 h9 e1 e2
 go_enter Tryz.func77,Tryz.ntmps77
 go_wp2
 go_ret2
 exact ⟨rfl,rfl⟩

def xd (p:Int):Nat:=if p=65 then 1 else if p=66 then 2 else if p=67 then 3 else if p=79 then 4 else 5
theorem mF (b:Nat) (p:Int) (w:World):Calls S 115 #[Y (some ⟨b,0,none⟩),I .u8 p] w fun e w'=>e= O (Y (some ⟨b,xd p,none⟩))∧w'=w:=by
 by_cases h1:p=65
 ·subst h1
  go_enter Tryz.func115,Tryz.ntmps115
  go_wp2
  go_ret
  exact ⟨rfl,rfl⟩
 by_cases h2:p=66
 ·subst h2
  go_enter Tryz.func115,Tryz.ntmps115
  go_wp2
  go_ret
  exact ⟨rfl,rfl⟩
 by_cases h3:p=67
 ·subst h3
  go_enter Tryz.func115,Tryz.ntmps115
  go_wp2
  go_ret
  exact ⟨rfl,rfl⟩
 by_cases h4:p=79
 ·subst h4
  go_enter Tryz.func115,Tryz.ntmps115
  go_wp2
  go_ret
  exact ⟨rfl,rfl⟩
 have e1:xd p=5:=by unfold xd;rw[if_neg h1,if_neg h2,if_neg h3,if_neg h4]
 have q1:(p==65)=false:=by simpa using h1
 have q2:(p==66)=false:=by simpa using h2
 have q3:(p==67)=false:=by simpa using h3
 have q4:(p==79)=false:=by simpa using h4
 rw[e1]
 clear h1 h2 h3 h4 e1
 go_enter Tryz.func115,Tryz.ntmps115
 go_wp2
 go_ret
 exact ⟨rfl,rfl⟩


def av (k:Int) (p:UInt8):Bool:=decide (0≤Lib.indexByte (dx k) p)
def jS:List UInt8:=[65,66,67,79,86]
def Stp.at (s:Stp) (j:Nat):Int:=[s.a,s.b,s.c,s.o,s.v].getD j 0
def fe (s:Stp) (j:Nat):Bool:=av s.k (jS.getD j 0) || decide (s.at j=0)
def bz (s:Stp):Bool:=(List.range 5).all (fe s) && (av s.k 76 || s.l.isEmpty)
theorem tV {s:Stp} {j:Nat} (hj:j<5) (h:fe s j=false):bz s=false:=by
 unfold bz
 rw[Bool.and_eq_false_iff]
 left
 rw[List.all_eq_false]
 exact ⟨j,List.mem_range.2 hj,by rw[h];simp⟩
theorem iy (l:List UInt8) (p:UInt8) (w:World):Calls S 175 #[X ⟨l.toArray⟩,I .u8 p.toNat] w fun e w'=>e= O (I V (Lib.indexByte l p))∧w'=w:=by
 have h:=Any.strings_IndexByte Tryz.laysIndexByte ⟨l.toArray⟩ (p.toNat:Int) w
 change Calls S 175 _ _ _ at h
 simpa using h

theorem sg (s:Stp) (w:World) :
  Calls S 145 #[U #[I V s.k,I V s.a,I V s.b,I V s.c,I V s.o,I V s.v,J s.p s.l.length s.n]] w fun e w'=>e= O (H (bz s))∧Gr w w':=by
 have hg0:Gr w (w.alloc (Z #[I V s.k,I V s.a,I V s.b,I V s.c,I V s.o,I V s.v,J s.p s.l.length s.n] 121)):=(gR w).alloc _
 have hfo:=iM s.k (w.alloc (Z #[I V s.k,I V s.a,I V s.b,I V s.c,I V s.o,I V s.v,J s.p s.l.length s.n] 121))
 have hfoH:Hid _:=hfo
 clear hfo
 have c0:(w.alloc (Z #[I V s.k,I V s.a,I V s.b,I V s.c,I V s.o,I V s.v,J s.p s.l.length s.n] 121)).cell? ⟨w.heap.size,0,none⟩=some (I V s.k):=ab (gR _) rfl
 go_enter Tryz.func145,Tryz.ntmps145
 go_wp2_with fail
 refine cM (show Calls _ _ _ _ _ from hfoH.out) ?_
 rintro e w1 ⟨rfl,rfl⟩
 clear hfoH c0
 go_wp2
 go_loopw [13] (fun i wr=>∃j:Nat,j≤5∧i= I V j∧Hid (∀m,m<j→fe s m=true)∧wr=(w.alloc (Z #[I V s.k,I V s.a,I V s.b,I V s.c,I V s.o,I V s.v,J s.p s.l.length s.n] 121))) (fun i _=>5-(intOf i).toNat)
 case atStart=>exact ⟨0,by omega,rfl,fun m h=>by omega,by trivial⟩
 case round =>
  obtain ⟨j,hj,rfl,hall,rfl⟩:=hrel
  by_cases h5:j=5
  ·subst h5
   have c6:(w.alloc (Z #[I V s.k,I V s.a,I V s.b,I V s.c,I V s.o,I V s.v,J s.p s.l.length s.n] 121)).cell? ⟨w.heap.size,6,none⟩=some (J s.p s.l.length s.n):=ab (gR _) rfl
   obtain ⟨x,hx⟩:∃x,Lib.indexByte (dx s.k) 76=x:=⟨_,rfl⟩
   have hix:=iy (dx s.k) 76 (w.alloc (Z #[I V s.k,I V s.a,I V s.b,I V s.c,I V s.o,I V s.v,J s.p s.l.length s.n] 121))
   rw[hx] at hix
   have hixH:Hid (Calls S 175 #[X ⟨(dx s.k).toArray⟩,I .u8 76] _ _):=hix
   have hend:Hid (bz s=(decide (0≤x) || s.l.isEmpty)):=by
    show _=_
    unfold bz
    rw[List.all_eq_true.2 fun m hm=>hall m (List.mem_range.1 hm)]
    show (true && (decide (0≤Lib.indexByte (dx s.k) 76) || s.l.isEmpty))=_
    rw[hx];simp
   clear hx hix hall
   by_cases hx0:0≤x
   ·have hfin:Hid (bz s=true):=by show _=_;rw[hend.out];simp[hx0]
    go_wp2_with (go_at_call 175;(refine cM (show Calls _ _ _ _ _ from hixH.out) ?_);rintro e w' ⟨rfl,rfl⟩)
    go_ret
    exact ⟨by rw[hfin.out];rfl,hg0⟩
   ·by_cases hl0:s.l=[]
    ·have hfin:Hid (bz s=true):=by show _=_;rw[hend.out,hl0];simp
     have hl00:((s.l.length:Int)==0)=true:=by rw[hl0];rfl
     clear hl0
     go_wp2_with (go_at_call 175;(refine cM (show Calls _ _ _ _ _ from hixH.out) ?_);rintro e w' ⟨rfl,rfl⟩)
     go_ret
     exact ⟨by rw[hfin.out];rfl,hg0⟩
    ·have hfin:Hid (bz s=false):=by show _=_;rw[hend.out];simp[hl0];omega
     have hl00:((s.l.length:Int)==0)=false:=by
      have:=List.length_pos_iff.2 hl0
      simp;omega
     have hxd:decide (0≤x)=false:=by simpa using hx0
     clear hl0
     go_wp2_with (go_at_call 175;(refine cM (show Calls _ _ _ _ _ from hixH.out) ?_);rintro e w' ⟨rfl,rfl⟩)
     go_ret
     exact ⟨by rw[hfin.out,←hxd];rfl,hg0⟩
  have hj6:j=0∨j=1∨j=2∨j=3∨j=4:=by omega
  obtain ⟨x,hx⟩:∃x,Lib.indexByte (dx s.k) (jS.getD j 0)=x:=⟨_,rfl⟩
  obtain ⟨v,hv⟩:∃v,s.at j=v:=⟨_,rfl⟩
  obtain ⟨o,ho⟩:∃o,j+1=o:=⟨_,rfl⟩
  have hcb:fe s j=(decide (0≤x) || decide (v=0)):=by rw[←hx,←hv];rfl
  have hok:Hid ((0≤x∨v=0)→∀m,m<j+1→fe s m=true):=fun h m hm=>by
   by_cases e:m=j
   ·rw[e,hcb];simpa using h
   ·exact hall m (by omega)
  have hno:Hid (x<0→v≠0→bz s=false):=fun h1 h2=>tV (j:=j) (by omega) (by rw[hcb];simp[h2];omega)
  have hix:=iy (dx s.k) (jS.getD j 0) (w.alloc (Z #[I V s.k,I V s.a,I V s.b,I V s.c,I V s.o,I V s.v,J s.p s.l.length s.n] 121))
  rw[hx] at hix
  have hixH:Hid _:=hix
  have cj:(w.alloc (Z #[I V s.k,I V s.a,I V s.b,I V s.c,I V s.o,I V s.v,J s.p s.l.length s.n] 121)).cell? ⟨w.heap.size,o,none⟩=some (I V v):=by
   rw[←ho,←hv]
   rcases hj6 with rfl|rfl|rfl|rfl|rfl<;>exact ab (gR _) rfl
  have hfdH:Hid (Calls S 115 #[Y (some ⟨w.heap.size,0,none⟩),I .u8 ((jS.getD j 0).toNat:Int)] (w.alloc (Z #[I V s.k,I V s.a,I V s.b,I V s.c,I V s.o,I V s.v,J s.p s.l.length s.n] 121)) fun e w'=>e= O (Y (some ⟨w.heap.size,o,none⟩))∧w'=(w.alloc (Z #[I V s.k,I V s.a,I V s.b,I V s.c,I V s.o,I V s.v,J s.p s.l.length s.n] 121))):=by
   rw[←ho]
   rcases hj6 with rfl|rfl|rfl|rfl|rfl<;>exact mF _ _ _
  clear hx hv ho hcb hix hall h5
  by_cases hx0:x<0
  ·cases hvb:(v != 0)
   ·have hst:Hid _:=hok.out (oR (by simpa using hvb))
    clear hok hno
    rcases hj6 with rfl|rfl|rfl|rfl|rfl<;>(go_wp2_with (first|(go_at_call 175;(refine cM (show Calls _ _ _ _ _ from hixH.out) ?_);rintro e w' ⟨rfl,rfl⟩)|(go_at_call 115;(refine cM (show Calls _ _ _ _ _ from hfdH.out) ?_);rintro e w' ⟨rfl,rfl⟩));go_roundw;(case rel=>exact ⟨_,by omega,by go_num,hst,by trivial⟩);case measure=>simp[intOf])
   ·have hfin:Hid (bz s=false):=hno.out hx0 (by simpa using hvb)
    clear hok hno
    rcases hj6 with rfl|rfl|rfl|rfl|rfl<;>(go_wp2_with (first|(go_at_call 175;(refine cM (show Calls _ _ _ _ _ from hixH.out) ?_);rintro e w' ⟨rfl,rfl⟩)|(go_at_call 115;(refine cM (show Calls _ _ _ _ _ from hfdH.out) ?_);rintro e w' ⟨rfl,rfl⟩));go_ret;exact ⟨by rw[hfin.out];rfl,hg0⟩)
  ·have hst:Hid _:=hok.out (oL (by omega))
   clear hok hno
   rcases hj6 with rfl|rfl|rfl|rfl|rfl<;>(go_wp2_with (first|(go_at_call 175;(refine cM (show Calls _ _ _ _ _ from hixH.out) ?_);rintro e w' ⟨rfl,rfl⟩)|(go_at_call 115;(refine cM (show Calls _ _ _ _ _ from hfdH.out) ?_);rintro e w' ⟨rfl,rfl⟩));go_roundw;(case rel=>exact ⟨_,by omega,by go_num,hst,by trivial⟩);case measure=>simp[intOf])


def cH (s:Stp) (a:Int):Int:=if s.k=2 then (if belowB s.c a && opB s.o && lB s.v then a else 0) else if s.k=3 then (if decide (s.l.length≤8) && s.l.all (fun n=>belowB n a) then s.l.length else 0) else if s.k=7 then a else if s.k=8 then (if belowB s.c a then 2 else 0) else if s.k=9 then (if belowB s.c a && belowB s.v a then 2 else 0) else 0
def dt (s:Stp) (a b:Int):Int:=if s.k=4 then (if belowB s.c a && belowB s.v b && decide (a+b≤8) then a+b else 0) else if s.k=5 then (if a=b then a else 0) else if s.k=6 then (if a=b then a else 0) else 0
theorem bJ {n k:Int} {r:Bool} (h:belowB n k=r) (w:World):Calls S 146 #[I V n,I V k] w fun e w'=>e= O (H r)∧w'=w:=by rw[←h];exact gG n k w
theorem zm {n:Int} {r:Bool} (h:opB n=r) (w:World):Calls S 176 #[I V n] w fun e w'=>e= O (H r)∧w'=w:=by rw[←h];exact uS n w
theorem xL {n:Int} {r:Bool} (h:lB n=r) (w:World):Calls S 177 #[I V n] w fun e w'=>e= O (H r)∧w'=w:=by rw[←h];exact nS n w

theorem vx (s:Stp) (a:Int) (w:World) (hl:s.l.length≤maxLen) (hr:ar w s.p s.l) :
  Calls S 148 #[U #[I V s.k,I V s.a,I V s.b,I V s.c,I V s.o,I V s.v,J s.p s.l.length s.n],I V a] w fun e w'=>e= O (I V (cH s a))∧Gr w w':=by
 obtain ⟨W,hW⟩:∃W,w.alloc (Z #[I V s.k,I V s.a,I V s.b,I V s.c,I V s.o,I V s.v,J s.p s.l.length s.n] 121)=W:=⟨_,rfl⟩
 have hg0:Gr w W:=by rw[←hW];exact (gR w).alloc _
 have c0:W.cell? ⟨w.heap.size,0,none⟩=some (I V s.k):=by rw[←hW];exact ab (gR _) rfl
 have c1:W.cell? ⟨w.heap.size,1,none⟩=some (I V s.a):=by rw[←hW];exact ab (gR _) rfl
 have c2:W.cell? ⟨w.heap.size,2,none⟩=some (I V s.b):=by rw[←hW];exact ab (gR _) rfl
 have c3:W.cell? ⟨w.heap.size,3,none⟩=some (I V s.c):=by rw[←hW];exact ab (gR _) rfl
 have c4:W.cell? ⟨w.heap.size,4,none⟩=some (I V s.o):=by rw[←hW];exact ab (gR _) rfl
 have c5:W.cell? ⟨w.heap.size,5,none⟩=some (I V s.v):=by rw[←hW];exact ab (gR _) rfl
 have c6:W.cell? ⟨w.heap.size,6,none⟩=some (J s.p s.l.length s.n):=by rw[←hW];exact ab (gR _) rfl
 have hrH:Hid (ar W s.p s.l∧s.l.length≤maxLen):=⟨hr.gr hg0,hl⟩
 clear hr hl
 by_cases hk:s.k=2
 ·skip
  have e0:W.cell? ⟨w.heap.size,0,none⟩=some (I V 2):=by rw[←hk];exact c0
  clear c0
  cases h1:belowB s.c a
  ·have hfin:Hid (cH s a=0):=by show _=_;unfold cH;rw[if_pos hk];simp[*]
   have zh1H:Hid (Calls S 146 #[I V s.c,I V a] W fun e w'=>e= O (H false)∧w'=W):=bJ h1 W
   clear hk
   go_enter Tryz.func148,Tryz.ntmps148
   go_wp2_with (go_at_call 146;(with_reducible refine cM zh1H.out ?_);rintro e w' ⟨rfl,hw'⟩;subst w')
   go_ret
   exact ⟨by rw[hfin.out];rfl,hg0⟩
  ·have zh1H:Hid (Calls S 146 #[I V s.c,I V a] W fun e w'=>e= O (H true)∧w'=W):=bJ h1 W
   cases h2:opB s.o
   ·have hfin:Hid (cH s a=0):=by show _=_;unfold cH;rw[if_pos hk];simp[*]
    have zh2H:Hid (Calls S 176 #[I V s.o] W fun e w'=>e= O (H false)∧w'=W):=zm h2 W
    clear hk
    go_enter Tryz.func148,Tryz.ntmps148
    go_wp2_with (first|(go_at_call 146;(with_reducible refine cM zh1H.out ?_);rintro e w' ⟨rfl,hw'⟩;subst w')|(go_at_call 176;(with_reducible refine cM zh2H.out ?_);rintro e w' ⟨rfl,hw'⟩;subst w'))
    go_ret
    exact ⟨by rw[hfin.out];rfl,hg0⟩
   ·have zh2H:Hid (Calls S 176 #[I V s.o] W fun e w'=>e= O (H true)∧w'=W):=zm h2 W
    cases h3:lB s.v
    ·have hfin:Hid (cH s a=0):=by show _=_;unfold cH;rw[if_pos hk];simp[*]
     have zh3H:Hid (Calls S 177 #[I V s.v] W fun e w'=>e= O (H false)∧w'=W):=xL h3 W
     clear hk
     go_enter Tryz.func148,Tryz.ntmps148
     go_wp2_with (first|(go_at_call 146;(with_reducible refine cM zh1H.out ?_);rintro e w' ⟨rfl,hw'⟩;subst w')|(go_at_call 176;(with_reducible refine cM zh2H.out ?_);rintro e w' ⟨rfl,hw'⟩;subst w')|(go_at_call 177;(with_reducible refine cM zh3H.out ?_);rintro e w' ⟨rfl,hw'⟩;subst w'))
     go_ret
     exact ⟨by rw[hfin.out];rfl,hg0⟩
    ·have zh3H:Hid (Calls S 177 #[I V s.v] W fun e w'=>e= O (H true)∧w'=W):=xL h3 W
     have hfin:Hid (cH s a=a):=by show _=_;unfold cH;rw[if_pos hk];simp[h1,h2,h3]
     clear hk
     go_enter Tryz.func148,Tryz.ntmps148
     go_wp2_with (first|(go_at_call 146;(with_reducible refine cM zh1H.out ?_);rintro e w' ⟨rfl,hw'⟩;subst w')|(go_at_call 176;(with_reducible refine cM zh2H.out ?_);rintro e w' ⟨rfl,hw'⟩;subst w')|(go_at_call 177;(with_reducible refine cM zh3H.out ?_);rintro e w' ⟨rfl,hw'⟩;subst w'))
     go_ret
     exact ⟨by rw[hfin.out];rfl,hg0⟩
 by_cases hk:s.k=3
 ·skip
  have e0:W.cell? ⟨w.heap.size,0,none⟩=some (I V 3):=by rw[←hk];exact c0
  clear c0
  have har:=nK s.l a s.p s.n W hrH.out.2 hrH.out.1
  by_cases h8:s.l.length≤8
  ·have h8z:(s.l.length:Int)≤8:=by omega
   cases h1:s.l.all (fun n=>belowB n a)
   ·have hfin:Hid (cH s a=0):=by show _=_;unfold cH;rw[if_neg (by omega:¬s.k=2),if_pos hk];simp[h1]
    rw[h1] at har
    have harH:Hid _:=har
    clear har hk
    go_enter Tryz.func148,Tryz.ntmps148
    go_wp2_with fail
    refine cM (show Calls _ _ _ _ _ from harH.out) ?_
    rintro e w2 ⟨rfl,hg2⟩
    have d6:w2.cell? ⟨w.heap.size,6,none⟩=some (J s.p s.l.length s.n):=(hg2.cell (p:=⟨w.heap.size,6,none⟩) (by rw[←hW];simp)).trans c6
    clear harH c1 c2 c3 c4 c5 c6 e0
    go_wp2
    go_ret
    exact ⟨by rw[hfin.out];rfl,hg0.trans hg2⟩
   ·have hfin:Hid (cH s a=s.l.length):=by show _=_;unfold cH;rw[if_neg (by omega:¬s.k=2),if_pos hk];simp[h1,h8]
    rw[h1] at har
    have harH:Hid _:=har
    clear har hk
    go_enter Tryz.func148,Tryz.ntmps148
    go_wp2_with fail
    refine cM (show Calls _ _ _ _ _ from harH.out) ?_
    rintro e w2 ⟨rfl,hg2⟩
    have d6:w2.cell? ⟨w.heap.size,6,none⟩=some (J s.p s.l.length s.n):=(hg2.cell (p:=⟨w.heap.size,6,none⟩) (by rw[←hW];simp)).trans c6
    clear harH c1 c2 c3 c4 c5 c6 e0
    go_wp2
    go_ret
    exact ⟨by rw[hfin.out];rfl,hg0.trans hg2⟩
  ·have h8z:¬(s.l.length:Int)≤8:=by omega
   have hfin:Hid (cH s a=0):=by show _=_;unfold cH;rw[if_neg (by omega:¬s.k=2),if_pos hk];simp[h8]
   clear har hk
   go_enter Tryz.func148,Tryz.ntmps148
   go_wp2
   go_ret
   exact ⟨by rw[hfin.out];rfl,hg0⟩
 by_cases hk:s.k=7
 ·skip
  have e0:W.cell? ⟨w.heap.size,0,none⟩=some (I V 7):=by rw[←hk];exact c0
  clear c0
  have hfin:Hid (cH s a=a):=by show _=_;unfold cH;rw[if_neg (by omega:¬s.k=2),if_neg (by omega:¬s.k=3),if_pos hk]
  clear hk
  go_enter Tryz.func148,Tryz.ntmps148
  go_wp2
  go_ret
  exact ⟨by rw[hfin.out];rfl,hg0⟩
 by_cases hk:s.k=8
 ·skip
  have e0:W.cell? ⟨w.heap.size,0,none⟩=some (I V 8):=by rw[←hk];exact c0
  clear c0
  cases h1:belowB s.c a
  ·have hfin:Hid (cH s a=0):=by show _=_;unfold cH;rw[if_neg (by omega:¬s.k=2),if_neg (by omega:¬s.k=3),if_neg (by omega:¬s.k=7),if_pos hk];simp[*]
   have zh1H:Hid (Calls S 146 #[I V s.c,I V a] W fun e w'=>e= O (H false)∧w'=W):=bJ h1 W
   clear hk
   go_enter Tryz.func148,Tryz.ntmps148
   go_wp2_with (go_at_call 146;(with_reducible refine cM zh1H.out ?_);rintro e w' ⟨rfl,hw'⟩;subst w')
   go_ret
   exact ⟨by rw[hfin.out];rfl,hg0⟩
  ·have zh1H:Hid (Calls S 146 #[I V s.c,I V a] W fun e w'=>e= O (H true)∧w'=W):=bJ h1 W
   have hfin:Hid (cH s a=2):=by show _=_;unfold cH;rw[if_neg (by omega:¬s.k=2),if_neg (by omega:¬s.k=3),if_neg (by omega:¬s.k=7),if_pos hk];simp[h1]
   clear hk
   go_enter Tryz.func148,Tryz.ntmps148
   go_wp2_with (go_at_call 146;(with_reducible refine cM zh1H.out ?_);rintro e w' ⟨rfl,hw'⟩;subst w')
   go_ret
   exact ⟨by rw[hfin.out];rfl,hg0⟩
 by_cases hk:s.k=9
 ·skip
  have e0:W.cell? ⟨w.heap.size,0,none⟩=some (I V 9):=by rw[←hk];exact c0
  clear c0
  cases h1:belowB s.c a
  ·have hfin:Hid (cH s a=0):=by show _=_;unfold cH;rw[if_neg (by omega:¬s.k=2),if_neg (by omega:¬s.k=3),if_neg (by omega:¬s.k=7),if_neg (by omega:¬s.k=8),if_pos hk];simp[*]
   have zh1H:Hid (Calls S 146 #[I V s.c,I V a] W fun e w'=>e= O (H false)∧w'=W):=bJ h1 W
   clear hk
   go_enter Tryz.func148,Tryz.ntmps148
   go_wp2_with (go_at_call 146;(with_reducible refine cM zh1H.out ?_);rintro e w' ⟨rfl,hw'⟩;subst w')
   go_ret
   exact ⟨by rw[hfin.out];rfl,hg0⟩
  ·have zh1H:Hid (Calls S 146 #[I V s.c,I V a] W fun e w'=>e= O (H true)∧w'=W):=bJ h1 W
   cases h2:belowB s.v a
   ·have hfin:Hid (cH s a=0):=by show _=_;unfold cH;rw[if_neg (by omega:¬s.k=2),if_neg (by omega:¬s.k=3),if_neg (by omega:¬s.k=7),if_neg (by omega:¬s.k=8),if_pos hk];simp[*]
    have zh2H:Hid (Calls S 146 #[I V s.v,I V a] W fun e w'=>e= O (H false)∧w'=W):=bJ h2 W
    clear hk
    go_enter Tryz.func148,Tryz.ntmps148
    go_wp2_with (first|(go_at_call 146;(with_reducible refine cM zh1H.out ?_);rintro e w' ⟨rfl,hw'⟩;subst w')|(go_at_call 146;(with_reducible refine cM zh2H.out ?_);rintro e w' ⟨rfl,hw'⟩;subst w'))
    go_ret
    exact ⟨by rw[hfin.out];rfl,hg0⟩
   ·have zh2H:Hid (Calls S 146 #[I V s.v,I V a] W fun e w'=>e= O (H true)∧w'=W):=bJ h2 W
    have hfin:Hid (cH s a=2):=by show _=_;unfold cH;rw[if_neg (by omega:¬s.k=2),if_neg (by omega:¬s.k=3),if_neg (by omega:¬s.k=7),if_neg (by omega:¬s.k=8),if_pos hk];simp[h1,h2]
    clear hk
    go_enter Tryz.func148,Tryz.ntmps148
    go_wp2_with (first|(go_at_call 146;(with_reducible refine cM zh1H.out ?_);rintro e w' ⟨rfl,hw'⟩;subst w')|(go_at_call 146;(with_reducible refine cM zh2H.out ?_);rintro e w' ⟨rfl,hw'⟩;subst w'))
    go_ret
    exact ⟨by rw[hfin.out];rfl,hg0⟩
 have hfin:Hid (cH s a=0):=by show _=_;unfold cH;rw[if_neg (by assumption:¬s.k=2),if_neg (by assumption:¬s.k=3),if_neg (by assumption:¬s.k=7),if_neg (by assumption:¬s.k=8),if_neg (by assumption:¬s.k=9)]
 have q2:(s.k==2)=false:=by simp;omega
 have q3:(s.k==3)=false:=by simp;omega
 have q7:(s.k==7)=false:=by simp;omega
 have q8:(s.k==8)=false:=by simp;omega
 have q9:(s.k==9)=false:=by simp;omega
 go_enter Tryz.func148,Tryz.ntmps148
 go_wp2
 go_ret
 exact ⟨by rw[hfin.out];rfl,hg0⟩

theorem wj (s:Stp) (a b:Int) (w:World) (ha:0≤a∧a≤8) (hb:0≤b∧b≤8) :
  Calls S 147 #[U #[I V s.k,I V s.a,I V s.b,I V s.c,I V s.o,I V s.v,J s.p s.l.length s.n],I V a,I V b] w fun e w'=>e= O (I V (dt s a b))∧Gr w w':=by
 obtain ⟨W,hW⟩:∃W,w.alloc (Z #[I V s.k,I V s.a,I V s.b,I V s.c,I V s.o,I V s.v,J s.p s.l.length s.n] 121)=W:=⟨_,rfl⟩
 have hg0:Gr w W:=by rw[←hW];exact (gR w).alloc _
 have hab:IntKind.i64.wrap (a+b)=a+b:=by rw[IntKind.wrap_i64];omega
 have c0:W.cell? ⟨w.heap.size,0,none⟩=some (I V s.k):=by rw[←hW];exact ab (gR _) rfl
 have c1:W.cell? ⟨w.heap.size,1,none⟩=some (I V s.a):=by rw[←hW];exact ab (gR _) rfl
 have c2:W.cell? ⟨w.heap.size,2,none⟩=some (I V s.b):=by rw[←hW];exact ab (gR _) rfl
 have c3:W.cell? ⟨w.heap.size,3,none⟩=some (I V s.c):=by rw[←hW];exact ab (gR _) rfl
 have c4:W.cell? ⟨w.heap.size,4,none⟩=some (I V s.o):=by rw[←hW];exact ab (gR _) rfl
 have c5:W.cell? ⟨w.heap.size,5,none⟩=some (I V s.v):=by rw[←hW];exact ab (gR _) rfl
 by_cases hk:s.k=4
 ·skip
  have e0:W.cell? ⟨w.heap.size,0,none⟩=some (I V 4):=by rw[←hk];exact c0
  clear c0
  by_cases h8:a+b≤8
  ·skip
   cases h1:belowB s.c a
   ·have hfin:Hid (dt s a b=0):=by show _=_;unfold dt;rw[if_pos hk];simp[*]
    have zh1H:Hid (Calls S 146 #[I V s.c,I V a] W fun e w'=>e= O (H false)∧w'=W):=bJ h1 W
    clear hk
    go_enter Tryz.func147,Tryz.ntmps147
    go_wp2_with (go_at_call 146;(with_reducible refine cM zh1H.out ?_);rintro e w' ⟨rfl,hw'⟩;subst w')
    go_ret
    exact ⟨by rw[hfin.out];rfl,hg0⟩
   ·have zh1H:Hid (Calls S 146 #[I V s.c,I V a] W fun e w'=>e= O (H true)∧w'=W):=bJ h1 W
    cases h2:belowB s.v b
    ·have hfin:Hid (dt s a b=0):=by show _=_;unfold dt;rw[if_pos hk];simp[*]
     have zh2H:Hid (Calls S 146 #[I V s.v,I V b] W fun e w'=>e= O (H false)∧w'=W):=bJ h2 W
     clear hk
     go_enter Tryz.func147,Tryz.ntmps147
     go_wp2_with (first|(go_at_call 146;(with_reducible refine cM zh1H.out ?_);rintro e w' ⟨rfl,hw'⟩;subst w')|(go_at_call 146;(with_reducible refine cM zh2H.out ?_);rintro e w' ⟨rfl,hw'⟩;subst w'))
     go_ret
     exact ⟨by rw[hfin.out];rfl,hg0⟩
    ·have zh2H:Hid (Calls S 146 #[I V s.v,I V b] W fun e w'=>e= O (H true)∧w'=W):=bJ h2 W
     have hfin:Hid (dt s a b=a+b):=by show _=_;unfold dt;rw[if_pos hk];simp[h1,h2,h8]
     clear hk
     go_enter Tryz.func147,Tryz.ntmps147
     go_wp2_with (first|(go_at_call 146;(with_reducible refine cM zh1H.out ?_);rintro e w' ⟨rfl,hw'⟩;subst w')|(go_at_call 146;(with_reducible refine cM zh2H.out ?_);rintro e w' ⟨rfl,hw'⟩;subst w'))
     go_ret
     exact ⟨by rw[hfin.out];rfl,hg0⟩
  ·skip
   cases h1:belowB s.c a
   ·have hfin:Hid (dt s a b=0):=by show _=_;unfold dt;rw[if_pos hk];simp[*]
    have zh1H:Hid (Calls S 146 #[I V s.c,I V a] W fun e w'=>e= O (H false)∧w'=W):=bJ h1 W
    clear hk
    go_enter Tryz.func147,Tryz.ntmps147
    go_wp2_with (go_at_call 146;(with_reducible refine cM zh1H.out ?_);rintro e w' ⟨rfl,hw'⟩;subst w')
    go_ret
    exact ⟨by rw[hfin.out];rfl,hg0⟩
   ·have zh1H:Hid (Calls S 146 #[I V s.c,I V a] W fun e w'=>e= O (H true)∧w'=W):=bJ h1 W
    cases h2:belowB s.v b
    ·have hfin:Hid (dt s a b=0):=by show _=_;unfold dt;rw[if_pos hk];simp[*]
     have zh2H:Hid (Calls S 146 #[I V s.v,I V b] W fun e w'=>e= O (H false)∧w'=W):=bJ h2 W
     clear hk
     go_enter Tryz.func147,Tryz.ntmps147
     go_wp2_with (first|(go_at_call 146;(with_reducible refine cM zh1H.out ?_);rintro e w' ⟨rfl,hw'⟩;subst w')|(go_at_call 146;(with_reducible refine cM zh2H.out ?_);rintro e w' ⟨rfl,hw'⟩;subst w'))
     go_ret
     exact ⟨by rw[hfin.out];rfl,hg0⟩
    ·have zh2H:Hid (Calls S 146 #[I V s.v,I V b] W fun e w'=>e= O (H true)∧w'=W):=bJ h2 W
     have hfin:Hid (dt s a b=0):=by show _=_;unfold dt;rw[if_pos hk];simp[h8]
     clear hk
     go_enter Tryz.func147,Tryz.ntmps147
     go_wp2_with (first|(go_at_call 146;(with_reducible refine cM zh1H.out ?_);rintro e w' ⟨rfl,hw'⟩;subst w')|(go_at_call 146;(with_reducible refine cM zh2H.out ?_);rintro e w' ⟨rfl,hw'⟩;subst w'))
     go_ret
     exact ⟨by rw[hfin.out];rfl,hg0⟩
 by_cases hk:s.k=5
 ·skip
  have e0:W.cell? ⟨w.heap.size,0,none⟩=some (I V 5):=by rw[←hk];exact c0
  clear c0
  by_cases hab2:a=b
  ·subst hab2
   have hfin:Hid (dt s a a=a):=by show _=_;unfold dt;rw[if_neg (by omega:¬s.k=4),if_pos hk];simp
   clear hk
   go_enter Tryz.func147,Tryz.ntmps147
   go_wp2
   go_ret
   exact ⟨by rw[hfin.out];rfl,hg0⟩
  ·have hfin:Hid (dt s a b=0):=by show _=_;unfold dt;rw[if_neg (by omega:¬s.k=4),if_pos hk];simp[hab2]
   have hqb:(a==b)=false:=by simpa using hab2
   clear hk hab2
   go_enter Tryz.func147,Tryz.ntmps147
   go_wp2
   go_ret
   exact ⟨by rw[hfin.out];rfl,hg0⟩
 by_cases hk:s.k=6
 ·skip
  have e0:W.cell? ⟨w.heap.size,0,none⟩=some (I V 6):=by rw[←hk];exact c0
  clear c0
  by_cases hab2:a=b
  ·subst hab2
   have hfin:Hid (dt s a a=a):=by show _=_;unfold dt;rw[if_neg (by omega:¬s.k=4),if_neg (by omega:¬s.k=5),if_pos hk];simp
   clear hk
   go_enter Tryz.func147,Tryz.ntmps147
   go_wp2
   go_ret
   exact ⟨by rw[hfin.out];rfl,hg0⟩
  ·have hfin:Hid (dt s a b=0):=by show _=_;unfold dt;rw[if_neg (by omega:¬s.k=4),if_neg (by omega:¬s.k=5),if_pos hk];simp[hab2]
   have hqb:(a==b)=false:=by simpa using hab2
   clear hk hab2
   go_enter Tryz.func147,Tryz.ntmps147
   go_wp2
   go_ret
   exact ⟨by rw[hfin.out];rfl,hg0⟩
 have hfin:Hid (dt s a b=0):=by show _=_;unfold dt;rw[if_neg (by assumption:¬s.k=4),if_neg (by assumption:¬s.k=5),if_neg (by assumption:¬s.k=6)]
 have q4:(s.k==4)=false:=by simp;omega
 have q5:(s.k==5)=false:=by simp;omega
 have q6:(s.k==6)=false:=by simp;omega
 go_enter Tryz.func147,Tryz.ntmps147
 go_wp2
 go_ret
 exact ⟨by rw[hfin.out];rfl,hg0⟩


def aJ (s:Stp) (ah:List Int):Int:=if bz s=true then (if s.k=1 then (if belowB s.a 2=true then 4 else 0) else if belowB s.a ah.length=true then (if s.k=4∨s.k=5∨s.k=6 then (if belowB s.b ah.length=true then dt s (ah.getD s.a.toNat 0) (ah.getD s.b.toNat 0) else 0) else cH s (ah.getD s.a.toNat 0)) else 0) else 0
theorem grD {w w':World} (h:Gr w w'):∃q os',w'=grow (w.drewN q) os':=h
theorem my {n:Int} {m:Nat} (h:belowB n m=true):∃k:Nat,n=k∧k<m:=by
 simp only[belowB,Bool.and_eq_true,decide_eq_true_eq] at h
 exact ⟨n.toNat,by omega,by omega⟩
theorem rF {l:List Int} {k:Nat} (h:k<l.length):l.getD k 0=l[k]:=by rw[List.getD_eq_getElem?_getD,List.getElem?_eq_getElem h];rfl

theorem tP (s:Stp) (ah:List Int) (A:Option Addr) (ca:Nat) (w:World) (hl:s.l.length≤maxLen) (hr:ar w s.p s.l) (hra:ar w A ah) (hah:∀x∈ah,0≤x∧x≤8) :
  Calls S 116 #[U #[I V s.k,I V s.a,I V s.b,I V s.c,I V s.o,I V s.v,J s.p s.l.length s.n],J A ah.length ca] w fun e w'=>e= O (I V (aJ s ah))∧Gr w w':=by
 have mixed:Tryz.prog.follows .mixedOrders=true:=by kernel_rfl
 have hg0:Gr w (w.alloc (Z #[I V s.k,I V s.a,I V s.b,I V s.c,I V s.o,I V s.v,J s.p s.l.length s.n] 121)):=(gR w).alloc _
 have hlo:=sg s (w.alloc (Z #[I V s.k,I V s.a,I V s.b,I V s.c,I V s.o,I V s.v,J s.p s.l.length s.n] 121))
 have hloH:Hid _:=hlo
 have c0:(w.alloc (Z #[I V s.k,I V s.a,I V s.b,I V s.c,I V s.o,I V s.v,J s.p s.l.length s.n] 121)).cell? ⟨w.heap.size,0,none⟩=some (I V s.k):=ab (gR _) rfl
 have c1:(w.alloc (Z #[I V s.k,I V s.a,I V s.b,I V s.c,I V s.o,I V s.v,J s.p s.l.length s.n] 121)).cell? ⟨w.heap.size,1,none⟩=some (I V s.a):=ab (gR _) rfl
 have c2:(w.alloc (Z #[I V s.k,I V s.a,I V s.b,I V s.c,I V s.o,I V s.v,J s.p s.l.length s.n] 121)).cell? ⟨w.heap.size,2,none⟩=some (I V s.b):=ab (gR _) rfl
 have c3:(w.alloc (Z #[I V s.k,I V s.a,I V s.b,I V s.c,I V s.o,I V s.v,J s.p s.l.length s.n] 121)).cell? ⟨w.heap.size,3,none⟩=some (I V s.c):=ab (gR _) rfl
 have c4:(w.alloc (Z #[I V s.k,I V s.a,I V s.b,I V s.c,I V s.o,I V s.v,J s.p s.l.length s.n] 121)).cell? ⟨w.heap.size,4,none⟩=some (I V s.o):=ab (gR _) rfl
 have c5:(w.alloc (Z #[I V s.k,I V s.a,I V s.b,I V s.c,I V s.o,I V s.v,J s.p s.l.length s.n] 121)).cell? ⟨w.heap.size,5,none⟩=some (I V s.v):=ab (gR _) rfl
 have c6:(w.alloc (Z #[I V s.k,I V s.a,I V s.b,I V s.c,I V s.o,I V s.v,J s.p s.l.length s.n] 121)).cell? ⟨w.heap.size,6,none⟩=some (J s.p s.l.length s.n):=ab (gR _) rfl
 have hrH:Hid (ar w s.p s.l∧s.l.length≤maxLen∧ar w A ah∧∀x∈ah,0≤x∧x≤8):=⟨hr,hl,hra,hah⟩
 clear hlo hr hl hra hah
 go_enter Tryz.func116,Tryz.ntmps116
 go_wp2_with fail
 refine cM (show Calls _ _ _ _ _ from hloH.out) ?_
 rintro e w1 ⟨rfl,hg1⟩
 clear hloH c0 c1 c2 c3 c4 c5 c6
 have c0:w1.cell? ⟨w.heap.size,0,none⟩=some (I V s.k):=ab hg1 rfl
 have c1:w1.cell? ⟨w.heap.size,1,none⟩=some (I V s.a):=ab hg1 rfl
 have c2:w1.cell? ⟨w.heap.size,2,none⟩=some (I V s.b):=ab hg1 rfl
 have c3:w1.cell? ⟨w.heap.size,3,none⟩=some (I V s.c):=ab hg1 rfl
 have c4:w1.cell? ⟨w.heap.size,4,none⟩=some (I V s.o):=ab hg1 rfl
 have c5:w1.cell? ⟨w.heap.size,5,none⟩=some (I V s.v):=ab hg1 rfl
 have c6:w1.cell? ⟨w.heap.size,6,none⟩=some (J s.p s.l.length s.n):=ab hg1 rfl
 have hgw:Gr w w1:=hg0.trans hg1
 cases hal0:bz s
 ·have hfin:Hid (aJ s ah=0):=by show _=_;unfold aJ;rw[if_neg (by rw[hal0];simp)]
  go_wp2
  go_ret
  exact ⟨by rw[hfin.out];rfl,hgw⟩
 have hun:Hid (aJ s ah=if s.k=1 then (if belowB s.a 2=true then 4 else 0) else if belowB s.a ah.length=true then (if s.k=4∨s.k=5∨s.k=6 then (if belowB s.b ah.length=true then dt s (ah.getD s.a.toNat 0) (ah.getD s.b.toNat 0) else 0) else cH s (ah.getD s.a.toNat 0)) else 0):=by show _=_;unfold aJ;rw[if_pos hal0]
 by_cases hk:s.k=1
 ·have e0:w1.cell? ⟨w.heap.size,0,none⟩=some (I V 1):=by rw[←hk];exact c0
  clear c0
  cases hb:belowB s.a 2
  ·have hfin:Hid (aJ s ah=0):=by show _=_;rw[hun.out,if_pos hk,if_neg (by rw[hb];simp)]
   have hzH:Hid (Calls S 146 #[I V s.a,I V 2] w1 fun e w'=>e= O (H false)∧w'=w1):=bJ hb w1
   clear hk
   go_wp2_with (go_at_call 146;(with_reducible refine cM hzH.out ?_);rintro e w' ⟨rfl,hw'⟩;subst w')
   go_ret
   exact ⟨by rw[hfin.out];rfl,hgw⟩
  ·have hfin:Hid (aJ s ah=4):=by show _=_;rw[hun.out,if_pos hk,if_pos hb]
   have hzH:Hid (Calls S 146 #[I V s.a,I V 2] w1 fun e w'=>e= O (H true)∧w'=w1):=bJ hb w1
   clear hk
   go_wp2_with (go_at_call 146;(with_reducible refine cM hzH.out ?_);rintro e w' ⟨rfl,hw'⟩;subst w')
   go_ret
   exact ⟨by rw[hfin.out];rfl,hgw⟩
 have hkb:(s.k==1)=false:=by simpa using hk
 cases hb:belowB s.a ah.length
 ·have hfin:Hid (aJ s ah=0):=by show _=_;rw[hun.out,if_neg hk,if_neg (by rw[hb];simp)]
  have hzH:Hid (Calls S 146 #[I V s.a,I V ah.length] w1 fun e w'=>e= O (H false)∧w'=w1):=bJ hb w1
  clear hk
  go_wp2_with (go_at_call 146;(with_reducible refine cM hzH.out ?_);rintro e w' ⟨rfl,hw'⟩;subst w')
  go_ret
  exact ⟨by rw[hfin.out];rfl,hgw⟩
 have hzH:Hid (Calls S 146 #[I V s.a,I V ah.length] w1 fun e w'=>e= O (H true)∧w'=w1):=bJ hb w1
 obtain ⟨ka,hka,hkal⟩:=my hb
 have hra1:ar w1 A ah:=hrH.out.2.2.1.gr hgw
 obtain ⟨ba,oa,rfl,hba,hca⟩:=hra1.at hkal
 obtain ⟨xa,hxa⟩:∃x,ah[ka]=x:=⟨_,rfl⟩
 have ea0:=hca ka hkal 0 (by omega)
 rw[hxa] at ea0
 have ea:w1.cell? ⟨ba,oa+ka,none⟩=some (I V xa):=by simpa[eM] using ea0
 have hga:Hid (ah.getD s.a.toNat 0=xa∧0≤xa∧xa≤8):=by
  refine ⟨?_,hrH.out.2.2.2 xa (by rw[←hxa];exact gM hkal)⟩
  rw[hka,Int.toNat_natCast,rF hkal,hxa]
 have hkaz:(ka:Int)<(ah.length:Int):=by omega
 have d1:w1.cell? ⟨w.heap.size,1,none⟩=some (I V (ka:Int)):=by rw[←hka];exact c1
 rw[hka] at hzH
 clear ea0 hxa c1
 by_cases hk2:s.k=4∨s.k=5∨s.k=6
 ·cases hb2:belowB s.b ah.length
  ·have hfin:Hid (aJ s ah=0):=by show _=_;rw[hun.out,if_neg hk,if_pos hb,if_pos hk2,if_neg (by rw[hb2];simp)]
   have hyH:Hid (Calls S 146 #[I V s.b,I V ah.length] w1 fun e w'=>e= O (H false)∧w'=w1):=bJ hb2 w1
   clear hk hka hb hca hra1
   rcases hk2 with k4|k4|k4
   all_goals
    rw[k4] at c0
    clear k4 hkb
    go_wp2_with (first|(go_at_call 146;(with_reducible refine cM hzH.out ?_);rintro e w' ⟨rfl,hw'⟩;subst w')|(go_at_call 146;(with_reducible refine cM hyH.out ?_);rintro e w' ⟨rfl,hw'⟩;subst w'))
    go_ret
    exact ⟨by rw[hfin.out];rfl,hgw⟩
  ·have hyH0:Calls S 146 #[I V s.b,I V ah.length] w1 fun e w'=>e= O (H true)∧w'=w1:=bJ hb2 w1
   obtain ⟨kb,hkb2,hkbl⟩:=my hb2
   obtain ⟨xb,hxb⟩:∃x,ah[kb]=x:=⟨_,rfl⟩
   have eb0:=hca kb hkbl 0 (by omega)
   rw[hxb] at eb0
   have eb:w1.cell? ⟨ba,oa+kb,none⟩=some (I V xb):=by simpa[eM] using eb0
   have hgb:Hid (ah.getD s.b.toNat 0=xb∧0≤xb∧xb≤8):=by
    refine ⟨?_,hrH.out.2.2.2 xb (by rw[←hxb];exact gM hkbl)⟩
    rw[hkb2,Int.toNat_natCast,rF hkbl,hxb]
   have hkbz:(kb:Int)<(ah.length:Int):=by omega
   have d2:w1.cell? ⟨w.heap.size,2,none⟩=some (I V (kb:Int)):=by rw[←hkb2];exact c2
   rw[hkb2] at hyH0
   have hyH:Hid (Calls S 146 #[I V (kb:Int),I V ah.length] w1 fun e w'=>e= O (H true)∧w'=w1):=hyH0
   have hfin:Hid (aJ s ah=dt s xa xb):=by show _=_;rw[hun.out,if_neg hk,if_pos hb,if_pos hk2,if_pos hb2,hga.out.1,hgb.out.1]
   have htw:∀n os,Calls S 147 #[U #[I V s.k,I V s.a,I V s.b,I V s.c,I V s.o,I V s.v,J s.p s.l.length s.n],I V xa,I V xb] (grow (w1.drewN n) os) fun e w'=>e= O (I V (dt s xa xb))∧∃q os',w'=grow ((grow (w1.drewN n) os).drewN q) os':=fun n os=>(wj s xa xb _ hga.out.2 hgb.out.2).mono fun e w' h=>⟨h.1,grD h.2⟩
   rw[hka,hkb2] at htw
   have gb:=(gR w1).cellG (a:=⟨ba,oa+kb,none⟩) hba eb
   have xlt:w.heap.size<w1.heap.size:=World.block_lt_of_cell? w1 ⟨w.heap.size,0,none⟩ c0
   have g0:=(gR w1).cellG (a:=⟨w.heap.size,0,none⟩) xlt c0
   have g1:=(gR w1).cellG (a:=⟨w.heap.size,1,none⟩) xlt d1
   have g2:=(gR w1).cellG (a:=⟨w.heap.size,2,none⟩) xlt d2
   have g3:=(gR w1).cellG (a:=⟨w.heap.size,3,none⟩) xlt c3
   have g4:=(gR w1).cellG (a:=⟨w.heap.size,4,none⟩) xlt c4
   have g5:=(gR w1).cellG (a:=⟨w.heap.size,5,none⟩) xlt c5
   have g6:=(gR w1).cellG (a:=⟨w.heap.size,6,none⟩) xlt c6
   have ga:=(gR w1).cellG (a:=⟨ba,oa+ka,none⟩) hba ea
   clear hk hb hca hra1 eb0 hxb c2 hyH0 hb2
   rcases hk2 with k4|k4|k4
   all_goals
    rw[k4] at c0 htw g0
    have htwH:Hid (∀n os,Calls S 147 _ (grow (w1.drewN n) os) _):=htw
    clear k4 hkb htw
    go_wp2_with (first|(go_at_call 146;(with_reducible refine cM hzH.out ?_);rintro e w' ⟨rfl,hw'⟩;subst w')|(go_at_call 146;(with_reducible refine cM hyH.out ?_);rintro e w' ⟨rfl,hw'⟩;subst w'))
    refine wp_region_quiet_grown mixed (by kernel_rfl) ?_
    repeat (go_big_quiet_step ((go_at_call 147;refine Calls.grown_of (htwH.out _ _))))
    refine wpQuiet_nil ?_
    rintro _ ⟨⟨nq2,osq2⟩,rfl⟩
    go_wp2
    go_ret
    exact ⟨by rw[hfin.out];rfl,hgw.trans ⟨nq2,osq2,rfl⟩⟩
 ·have hfin:Hid (aJ s ah=cH s xa):=by show _=_;rw[hun.out,if_neg hk,if_pos hb,if_neg hk2,hga.out.1]
  have how:∀n os,Calls S 148 #[U #[I V s.k,I V s.a,I V s.b,I V s.c,I V s.o,I V s.v,J s.p s.l.length s.n],I V xa] (grow (w1.drewN n) os) fun e w'=>e= O (I V (cH s xa))∧∃q os',w'=grow ((grow (w1.drewN n) os).drewN q) os':=fun n os=>(vx s xa _ hrH.out.2.1 (hrH.out.1.gr (hgw.trans ⟨n,os,rfl⟩))).mono fun e w' h=>⟨h.1,grD h.2⟩
  rw[hka] at how
  have howH:Hid (∀n os,Calls S 148 _ (grow (w1.drewN n) os) _):=how
  have q4:(s.k==4)=false:=by simp;omega
  have q5:(s.k==5)=false:=by simp;omega
  have q6:(s.k==6)=false:=by simp;omega
  have xlt:w.heap.size<w1.heap.size:=World.block_lt_of_cell? w1 ⟨w.heap.size,0,none⟩ c0
  have g0:=(gR w1).cellG (a:=⟨w.heap.size,0,none⟩) xlt c0
  have g1:=(gR w1).cellG (a:=⟨w.heap.size,1,none⟩) xlt d1
  have g2:=(gR w1).cellG (a:=⟨w.heap.size,2,none⟩) xlt c2
  have g3:=(gR w1).cellG (a:=⟨w.heap.size,3,none⟩) xlt c3
  have g4:=(gR w1).cellG (a:=⟨w.heap.size,4,none⟩) xlt c4
  have g5:=(gR w1).cellG (a:=⟨w.heap.size,5,none⟩) xlt c5
  have g6:=(gR w1).cellG (a:=⟨w.heap.size,6,none⟩) xlt c6
  have ga:=(gR w1).cellG (a:=⟨ba,oa+ka,none⟩) hba ea
  clear hk hb hca hra1 how hk2
  go_wp2_with (go_at_call 146;(with_reducible refine cM hzH.out ?_);rintro e w' ⟨rfl,hw'⟩;subst w')
  refine wp_region_quiet_grown mixed (by kernel_rfl) ?_
  repeat (go_big_quiet_step ((go_at_call 148;refine Calls.grown_of (howH.out _ _))))
  refine wpQuiet_nil ?_
  rintro _ ⟨⟨nq2,osq2⟩,rfl⟩
  go_wp2
  go_ret
  exact ⟨by rw[hfin.out];rfl,hgw.trans ⟨nq2,osq2,rfl⟩⟩


structure Stps (w:World) (A:Option Addr) (q:List Stp):Prop where
 row:ay iH 7 w A q
 each:∀s∈q,ar w s.p s.l∧s.l.length≤maxLen∧(s.p=none→s.n=0)
theorem Stps.below {w w':World} {A:Option Addr} {q:List Stp} (h:Stps w A q) (k:Below w.heap.size w w'):Stps w' A q:=⟨h.row.below k,fun s hs=>⟨(h.each s hs).1.below k,(h.each s hs).2⟩⟩
theorem Stps.gr {w w':World} {A:Option Addr} {q:List Stp} (h:Stps w A q) (k:Gr w w'):Stps w' A q:=h.below k.below
theorem Stps.at {w:World} {A:Option Addr} {q:List Stp} (h:Stps w A q) {j:Nat} (hj:j<q.length):∃b off,A=some ⟨b,off,none⟩∧b<w.heap.size∧∀i,i<7→w.cell? ⟨b,off+j*7+i,none⟩=(iH q[j])[i]? := by
 obtain ⟨b,off,hA,hb,hc⟩:=h.row.at hj
 exact ⟨b,off,hA,hb,fun i hi=>hc j hj i hi⟩
def dr:List Stp→List Int→Option (List Int)
 | [],ah=>some ah
 | s::t,ah=>if aJ s ah=0 then none else dr t (ah++[aJ s ah])
def bX (q:List Stp):Int:=if q.length=0 then 1 else if 8<q.length then 2 else if (dr q []).isSome=true then 0 else 1
def iD (q:List Stp):List Int:=if bX q=0 then (dr q []).getD [] else []
theorem l8 {l:List Int} (h:∀x∈l,0≤x∧x≤8) (k:Nat):0≤l.getD k 0∧l.getD k 0≤8:=by
 rw[List.getD_eq_getElem?_getD]
 cases e:l[k]? with
 | none=>simp
 | some x=>exact h x (List.mem_of_getElem? e)
theorem yH (s:Stp) {a:Int} (h:0≤a∧a≤8):0≤cH s a∧cH s a≤8:=by
 unfold cH
 repeat' split
 all_goals first|omega|skip
 rename_i h1
 simp at h1
 omega
theorem yQ (s:Stp) {a b:Int} (h:0≤a∧a≤8) (k:0≤b∧b≤8):0≤dt s a b∧dt s a b≤8:=by
 unfold dt
 repeat' split
 all_goals first|omega|skip
 rename_i h1
 simp at h1
 omega
theorem wl (s:Stp) {ah:List Int} (h:∀x∈ah,0≤x∧x≤8):0≤aJ s ah∧aJ s ah≤8:=by
 have h1:=yH s (l8 h s.a.toNat)
 have h2:=yQ s (l8 h s.a.toNat) (l8 h s.b.toNat)
 unfold aJ
 repeat' split
 all_goals omega

theorem rm (q:List Stp) (A:Option Addr) (ca:Nat) (w:World) (hl:q.length≤maxLen) (hq:Stps w A q) :
  Calls S 79 #[J A q.length ca] w fun e w'=>∃(C:Option Addr) (c:Nat),e= O (.tuple #[J C (iD q).length c,I V (bX q)])∧ar w' C (iD q)∧(C=none→c=0)∧Below w.heap.size w w':=by
 unfold maxLen at hl
 by_cases h0:q.length=0
 ·have e1:Hid (bX q=1∧iD q=[]):=by
   have e:bX q=1:=by unfold bX;rw[if_pos h0]
   exact ⟨e,by unfold iD;rw[e,if_neg (by decide)]⟩
  have h0z:((q.length:Int)==0)=true:=by rw[h0];rfl
  clear h0
  go_enter Tryz.func79,Tryz.ntmps79
  go_wp2
  go_ret2
  exact ⟨none,0,by rw[e1.out.1,e1.out.2];rfl,by rw[e1.out.2];exact oL rfl,fun _=>rfl,bR _ _⟩
 have h0z:((q.length:Int)==0)=false:=beq_eq_false_iff_ne.2 (by omega)
 by_cases h8:8<q.length
 ·have e1:Hid (bX q=2∧iD q=[]):=by
   have e:bX q=2:=by unfold bX;rw[if_neg h0,if_pos h8]
   exact ⟨e,by unfold iD;rw[e,if_neg (by decide)]⟩
  have h8z:(8:Int)<(q.length:Int):=by omega
  clear h0
  go_enter Tryz.func79,Tryz.ntmps79
  go_wp2
  go_ret2
  exact ⟨none,0,by rw[e1.out.1,e1.out.2];rfl,by rw[e1.out.2];exact oL rfl,fun _=>rfl,bR _ _⟩
 have h8z:¬(8:Int)<(q.length:Int):=by omega
 have herr:Hid (bX q=if (dr q []).isSome=true then 0 else 1):=by show _=_;unfold bX;rw[if_neg h0,if_neg h8]
 have hqH:Hid (Stps w A q):=hq
 clear hq h0
 go_enter Tryz.func79,Tryz.ntmps79
 go_wp2
 go_loopw [4,16] (fun v i wr=>∃(j:Nat) (ah:List Int),j≤q.length∧i= I V j∧Hid (ah.length=j∧(∀x∈ah,0≤x∧x≤8)∧dr q []=dr (q.drop j) ah)∧Hid (ed wr w.heap.size v ah∧Below w.heap.size w wr)) (fun _ i _=>q.length-(intOf i).toNat)
 case atStart=>exact ⟨0,[],by omega,rfl,⟨rfl,(fun x hx=>by cases hx),by simp⟩,ai.nil _ _ _ _ _,bR _ _⟩
 case round =>
  obtain ⟨j,ah,hj,rfl,hfo,hov⟩:=hrel
  by_cases hlt:j<q.length
  ·have hltz:(j:Int)<(q.length:Int):=by omega
   have hI:Hid (Stps wr A q):=hqH.out.below hov.out.2
   obtain ⟨bb,off,rfl,hb,hcs⟩:=hI.out.at hlt
   obtain ⟨s,hs⟩:∃s,q[j]=s:=⟨_,rfl⟩
   have hsr:=hI.out.each s (by rw[←hs];exact gM hlt)
   rw[hs] at hcs
   have m0:wr.cell? ⟨bb,off+j*7,none⟩=some (I V s.k):=hcs 0 (by omega)
   have m1:wr.cell? ⟨bb,off+j*7+1,none⟩=some (I V s.a):=hcs 1 (by omega)
   have m2:wr.cell? ⟨bb,off+j*7+2,none⟩=some (I V s.b):=hcs 2 (by omega)
   have m3:wr.cell? ⟨bb,off+j*7+3,none⟩=some (I V s.c):=hcs 3 (by omega)
   have m4:wr.cell? ⟨bb,off+j*7+4,none⟩=some (I V s.o):=hcs 4 (by omega)
   have m5:wr.cell? ⟨bb,off+j*7+5,none⟩=some (I V s.v):=hcs 5 (by omega)
   have m6:wr.cell? ⟨bb,off+j*7+6,none⟩=some (J s.p s.l.length s.n):=hcs 6 (by omega)
   have hstep:Hid (dr q []=if aJ s ah=0 then none else dr (q.drop (j+1)) (ah++[aJ s ah])):=by
    show _=_
    rw[hfo.out.2.2,List.drop_eq_getElem_cons hlt,hs]
    rfl
   have hwb:=wl s hfo.out.2.1
   obtain ⟨G,gc,rfl,hG,hrow,hlt4⟩:=ai.row bP hov.out.1
   have hg0:Gr wr (wr.alloc (Z #[I V s.k,I V s.a,I V s.b,I V s.c,I V s.o,I V s.v,J s.p s.l.length s.n] 121)):=(gR wr).alloc _
   have c0:(wr.alloc (Z #[I V s.k,I V s.a,I V s.b,I V s.c,I V s.o,I V s.v,J s.p s.l.length s.n] 121)).cell? ⟨wr.heap.size,0,none⟩=some (I V s.k):=ab (gR _) rfl
   have c1:(wr.alloc (Z #[I V s.k,I V s.a,I V s.b,I V s.c,I V s.o,I V s.v,J s.p s.l.length s.n] 121)).cell? ⟨wr.heap.size,1,none⟩=some (I V s.a):=ab (gR _) rfl
   have c2:(wr.alloc (Z #[I V s.k,I V s.a,I V s.b,I V s.c,I V s.o,I V s.v,J s.p s.l.length s.n] 121)).cell? ⟨wr.heap.size,2,none⟩=some (I V s.b):=ab (gR _) rfl
   have c3:(wr.alloc (Z #[I V s.k,I V s.a,I V s.b,I V s.c,I V s.o,I V s.v,J s.p s.l.length s.n] 121)).cell? ⟨wr.heap.size,3,none⟩=some (I V s.c):=ab (gR _) rfl
   have c4:(wr.alloc (Z #[I V s.k,I V s.a,I V s.b,I V s.c,I V s.o,I V s.v,J s.p s.l.length s.n] 121)).cell? ⟨wr.heap.size,4,none⟩=some (I V s.o):=ab (gR _) rfl
   have c5:(wr.alloc (Z #[I V s.k,I V s.a,I V s.b,I V s.c,I V s.o,I V s.v,J s.p s.l.length s.n] 121)).cell? ⟨wr.heap.size,5,none⟩=some (I V s.v):=ab (gR _) rfl
   have c6:(wr.alloc (Z #[I V s.k,I V s.a,I V s.b,I V s.c,I V s.o,I V s.v,J s.p s.l.length s.n] 121)).cell? ⟨wr.heap.size,6,none⟩=some (J s.p s.l.length s.n):=ab (gR _) rfl
   have hwd:=tP s ah G gc (wr.alloc (Z #[I V s.k,I V s.a,I V s.b,I V s.c,I V s.o,I V s.v,J s.p s.l.length s.n] 121)) hsr.2.1 (hsr.1.gr hg0) (hrow.gr hg0) hfo.out.2.1
   obtain ⟨n,hn⟩:∃n,aJ s ah=n:=⟨_,rfl⟩
   rw[hn] at hwd hstep hwb
   have hwdH:Hid _:=hwd
   clear hcs hs hwd hsr
   go_wp2_with fail
   refine cM (show Calls _ _ _ _ _ from hwdH.out) ?_
   rintro e w1 ⟨rfl,hg1⟩
   clear hwdH c0 c1 c2 c3 c4 c5 c6 m0 m1 m2 m3 m4 m5 m6
   have hgw:Hid (Gr wr w1):=hg0.trans hg1
   clear hg0 hg1
   by_cases hn0:n=0
   ·have e1:Hid (bX q=1∧iD q=[]):=by
     have e:bX q=1:=by rw[herr.out,hstep.out,if_pos hn0];rfl
     exact ⟨e,by unfold iD;rw[e,if_neg (by decide)]⟩
    have hbF:Hid (Below w.heap.size w w1):=hov.out.2.trans (hgw.out.below.mono hov.out.2.size)
    subst hn0
    go_wp2
    go_ret2
    exact ⟨none,0,by rw[e1.out.1,e1.out.2];rfl,by rw[e1.out.2];exact oL rfl,fun _=>rfl,hbF.out⟩
   ·have hnb:(n==0)=false:=beq_eq_false_iff_ne.2 hn0
    have hoX:Hid (ed (w1.alloc (Z #[I V n] 3)) w.heap.size (J G ah.length gc) ah∧ar (w1.alloc (Z #[I V n] 3)) (some ⟨w1.heap.size,0,none⟩) [n]∧ah.length+1≤maxLen∧(ah.length+1)*8≤140737488355328∧Below w.heap.size w (w1.alloc (Z #[I V n] 3))):=by
     have h1:=hfo.out.1
     have hg2:Gr wr (w1.alloc (Z #[I V n] 3)):=hgw.out.alloc _
     exact ⟨hov.out.1.gr hg2,im rfl n 3,by unfold maxLen;omega,by omega,hov.out.2.trans (hg2.below.mono hov.out.2.size)⟩
    have hnext:Hid ((ah++[n]).length=j+1∧(∀x∈ah++[n],0≤x∧x≤8)∧dr q []=dr (q.drop (j+1)) (ah++[n])):=by
     refine ⟨by simp[hfo.out.1],fun x hx=> ?_,by rw[hstep.out,if_neg hn0]⟩
     rcases List.mem_append.1 hx with k|k
     ·exact hfo.out.2.1 x k
     ·rw[List.mem_singleton.1 k];exact hwb
    clear hn0 hov hrow hG hlt4
    go_wp2_with (at_builtin;refine aW _ rfl (.tmp 25) (.tmp 27) rfl w.heap.size (J G ah.length gc) ah [n] (some ⟨w1.heap.size,0,none⟩) 1 rfl rfl hoX.out.1 hoX.out.2.1 (fun h=>by cases h) hoX.out.2.2.1 hoX.out.2.2.2.1 hoX.out.2.2.2.2.size ?_;intro v7 w7 hown7 hg7)
    have hfin7:Hid (ed w7 w.heap.size v7 (ah++[n])∧Below w.heap.size w w7):=⟨hown7,hoX.out.2.2.2.2.trans (ai.grown_below hoX.out.1 hg7 hoX.out.2.2.2.2.size)⟩
    clear hown7 hg7 hoX
    go_roundw
    case rel=>exact ⟨j+1,ah++[n],by omega,by go_num,hnext,hfin7⟩
    case measure=>simp[intOf];omega
  ·have hltz:¬(j:Int)<(q.length:Int):=by omega
   have hfin:Hid (bX q=0∧iD q=ah):=by
    have h1:=hfo.out.2.2
    rw[List.drop_eq_nil_of_le (by omega)] at h1
    have e:bX q=0:=by rw[herr.out,h1];rfl
    exact ⟨e,by unfold iD;rw[if_pos e,h1];rfl⟩
   obtain ⟨G,gc,rfl,hG,hrow,hlt4⟩:=ai.row bP hov.out.1
   have hfin2:Hid (ar wr G ah∧(G=none→gc=0)∧Below w.heap.size w wr):=⟨hrow,hG,hov.out.2⟩
   clear hrow hG hlt4 hov
   go_wp2
   go_ret2
   exact ⟨G,gc,by rw[hfin.out.1,hfin.out.2];rfl,by rw[hfin.out.2];exact hfin2.out.1,hfin2.out.2.1,hfin2.out.2.2⟩

end Go.Proofs.YtkefkplnamkicabGreatDoor
