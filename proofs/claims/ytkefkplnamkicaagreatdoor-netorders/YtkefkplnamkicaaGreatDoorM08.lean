/-
  What is handed in, opened: a row of numbers, a list of items.
  What is carried through the calls of viewkeep.ZsetGroup: lists of items, and what each call tells of them.
  Lists of numbers in memory.
  The library's strings.IndexByte: where its functions and types stand in this program.
  Steps of a query: what they are in memory; the small functions of package query.
  query.tellsItsPartsAlone: has a step nothing that its kind doesn't tell?
-/
import Derived.Test.YtkefkplnamkicaaGreatDoorM07
import Derived.Shelf.Small.Strs
set_option maxRecDepth 100000
set_option maxHeartbeats 8000000
open Go.Ending renaming returned → J
open Go.IntKind renaming i64 → V
open Go.Obj renaming cells → Z
open Go.Proofs.Tryz renaming prog → S
open Go.Value renaming int → I, slice → O, pointer → Y, tuple → X, string → U, bool → K
namespace Go.Proofs.YtkefkplnamkicaaGreatDoor
open Go.ChangeShapes Go.WideShapes Go.ChangeAt Go.RowKit Go.Deep

variable {H:Type} {enc:TypeId×Value→H} {W:World}

end Go.Proofs.YtkefkplnamkicaaGreatDoor

namespace Go.Proofs.YtkefkplnamkicaaGreatDoor
open Go.RowKit Go.Sort

theorem lM {L:List Itm} {m:List Zit} (h:L.map Itm.z=m) (hm:m.length≤400):L.length≤maxLen:=by
 have:L.length=m.length:=by rw[←h,List.length_map]
 unfold maxLen;omega
theorem vb (l:List Zit):(dm l).length≤400:=by
 unfold dm
 by_cases h:cw l=0
 ·rw[if_pos h];exact nT (kg l) (lf h).1
 ·rw[if_neg h];simp
theorem xw (l:List Zit):(i7 l).length≤400:=by
 unfold i7
 by_cases h:ax l=0
 ·rw[if_pos h,List.length_map];exact ((bI _).1 h).1
 ·rw[if_neg h];simp
theorem qm (a b:List Zit):(aU a b).length≤400:=by
 unfold aU
 by_cases h:aW a b=0
 ·rw[if_pos h]
  by_cases k:400<(cW (a++b)).length
  ·exfalso
   unfold aW at h
   by_cases h1:ax a=0
   ·rw[if_pos h1] at h
    by_cases h2:ax b=0
    ·rw[if_pos h2] at h
     by_cases h3:df (a++b)=0
     ·rw[if_pos h3,if_pos k] at h;cases h
     ·rw[if_neg h3] at h;exact h3 h
    ·rw[if_neg h2] at h;exact h2 h
   ·rw[if_neg h1] at h;exact h1 h
  ·omega
 ·rw[if_neg h];simp
theorem pN {W:World} {A:Option Addr} {c:Nat} {l:List Itm} (h:Lv W A c l) {m:List Zit} (hm:l.map Itm.z=m) :
  Calls S 96 #[O A l.length c] W fun e w'=>∃(L:List Itm) (C:Option Addr) (k:Nat),e= J (X #[O C L.length k,I V (cw m)])∧L.map Itm.z=dm m∧Lv w' C k L∧Below W.heap.size W w'∧NwT w' k W.heap.size C L:=by
 subst hm
 refine (xE l A c W h.len h.nil h.items).mono ?_
 rintro e w' ⟨L,C,k,h1,h2,h3,h4,h5⟩
 exact ⟨L,C,k,h1,h2,⟨h3,h4,lM h2 (vb _)⟩,h5⟩
theorem B7 {W:World} {A:Option Addr} {c:Nat} {l:List Itm} (h:Lv W A c l) {m:List Zit} (hm:l.map Itm.z=m) :
  Calls S 137 #[O A l.length c] W fun e w'=>∃(L:List Itm) (C:Option Addr) (k:Nat),e= J (X #[O C L.length k,I V (ax m)])∧L.map Itm.z=i7 m∧Lv w' C k L∧Below W.heap.size W w':=by
 subst hm
 refine (zv l A c W h.len h.items).mono ?_
 rintro e w' ⟨L,C,k,h1,h2,h3,h4,h5⟩
 exact ⟨L,C,k,h1,h2,⟨h3,h4,lM h2 (xw _)⟩,h5⟩
theorem AP {W:World} {A B:Option Addr} {c d:Nat} {l r:List Itm} (h:Lv W A c l) (h':Lv W B d r) {m n:List Zit} (hm:l.map Itm.z=m) (hn:r.map Itm.z=n) :
  Calls S 98 #[O A l.length c,O B r.length d] W fun e w'=>∃(L:List Itm) (C:Option Addr) (k:Nat),e= J (X #[O C L.length k,I V (aW m n)])∧L.map Itm.z=aU m n∧Lv w' C k L∧Below W.heap.size W w':=by
 subst hm
 subst hn
 refine (yD l r A B c d W h.len h'.len h.nil h'.nil h.items h'.items).mono ?_
 rintro e w' ⟨L,C,k,h1,h2,h3,h4,h5⟩
 exact ⟨L,C,k,h1,h2,⟨h3,h4,lM h2 (qm _ _)⟩,h5⟩
theorem qn {W:World} {A B:Option Addr} {c d:Nat} {l r:List Itm} (h:Lv W A c l) (h':Lv W B d r) {m n:List Zit} (hm:l.map Itm.z=m) (hn:r.map Itm.z=n) :
  Calls S 98 #[O A l.length c,O B r.length d] W fun e w'=>∃(L:List Itm) (C:Option Addr) (k:Nat),e= J (X #[O C L.length k,I V (aW m n)])∧L.map Itm.z=aU m n∧Lv w' C k L∧Below W.heap.size W w'∧NwT w' k W.heap.size C L:=by
 subst hm
 subst hn
 refine (tx l r A B c d W h.len h'.len h.nil h'.nil h.items h'.items).mono ?_
 rintro e w' ⟨L,C,k,h1,h2,h3,h4,h5⟩
 exact ⟨L,C,k,h1,h2,⟨h3,h4,lM h2 (qm _ _)⟩,h5⟩
theorem wl {W:World} {A:Option Addr} {c:Nat} {l:List Itm} (h:Lv W A c l) {m:List Zit} (hm:l.map Itm.z=m) :
  Calls S 95 #[O A l.length c] W fun e w'=>e= J (I V (ax m))∧Gr W w':=by
 subst hm
 exact gx l A c W h.len h.items
end Go.Proofs.YtkefkplnamkicaaGreatDoor



namespace Go.Proofs
open Go.Shelf
def Tryz.laysIndexByte_ren:Go.Shelf.Ren:=⟨fun|137=>177|217=>114|266=>168|n=>n,fun|9=>9|5=>5|3=>3|n=>n,fun|n=>n⟩
theorem Tryz.laysIndexByte:Go.Proofs.Lays.n137 S Tryz.laysIndexByte_ren:={
 mixed:=by kernel_rfl
 f137:=Tryz.func177.trans (congrArg some (by kernel_rfl))
 f217:=Tryz.func114.trans (congrArg some (by kernel_rfl))
 f266:=Tryz.func168.trans (congrArg some (by kernel_rfl))
 t3:=Tryz.underlying3
 a3:=Tryz.isAgg3
 z3:=Tryz.sizeOf3
 v3:=Tryz.zeroValue3
 t5:=Tryz.underlying5
 a5:=Tryz.isAgg5
 z5:=Tryz.sizeOf5
 v5:=Tryz.zeroValue5
 t9:=Tryz.underlying9
 a9:=Tryz.isAgg9
 z9:=Tryz.sizeOf9
 v9:=Tryz.zeroValue9 }
end Go.Proofs

namespace Go.Proofs.YtkefkplnamkicaaGreatDoor
open Go.RowKit Go.Sort

def belowB (n k:Int):Bool:=decide (0≤n) && decide (n<k)
theorem im (n k:Int) (w:World):Calls S 126 #[I V n,I V k] w fun e w'=>e= J (K (belowB n k))∧w'=w:=by
 by_cases h1:0≤n
 ·by_cases h2:n<k
  ·have e:belowB n k=true:=by simp[belowB];omega
   rw[e];clear e
   go_enter Tryz.func126,Tryz.ntmps126
   go_wp2
   go_ret
   exact ⟨rfl,rfl⟩
  ·have e:belowB n k=false:=by simp[belowB];omega
   rw[e];clear e
   go_enter Tryz.func126,Tryz.ntmps126
   go_wp2
   go_ret
   exact ⟨rfl,rfl⟩
 ·have e:belowB n k=false:=by simp[belowB];omega
  rw[e];clear e
  go_enter Tryz.func126,Tryz.ntmps126
  go_wp2
  go_ret
  exact ⟨rfl,rfl⟩
def opB (n:Int):Bool:=decide (n=1∨n=2∨n=3)
theorem xh (n:Int) (w:World):Calls S 178 #[I V n] w fun e w'=>e= J (K (opB n))∧w'=w:=by
 by_cases h1:n=1
 ·subst h1
  go_enter Tryz.func178,Tryz.ntmps178
  go_wp2
  go_ret
  exact ⟨rfl,rfl⟩
 ·by_cases h2:n=2
  ·subst h2
   go_enter Tryz.func178,Tryz.ntmps178
   go_wp2
   go_ret
   exact ⟨rfl,rfl⟩
  ·by_cases h3:n=3
   ·subst h3
    go_enter Tryz.func178,Tryz.ntmps178
    go_wp2
    go_ret
    exact ⟨rfl,rfl⟩
   ·have e:opB n=false:=by simp[opB];omega
    have e1:(n==1)=false:=by simpa using h1
    have e2:(n==2)=false:=by simpa using h2
    have e3:(n==3)=false:=by simpa using h3
    rw[e];clear e h1 h2 h3
    go_enter Tryz.func178,Tryz.ntmps178
    go_wp2
    go_ret
    exact ⟨rfl,rfl⟩
def mI (n:Int):Bool:=inB n (-1073741824) 1073741824
theorem pJ (n:Int) (w:World):Calls S 179 #[I V n] w fun e w'=>e= J (K (mI n))∧w'=w:=by
 by_cases h1: -1073741824≤n
 ·by_cases h2:n≤1073741824
  ·have e:mI n=true:=by simp[mI,inB];omega
   rw[e];clear e
   go_enter Tryz.func179,Tryz.ntmps179
   go_wp2
   go_ret
   exact ⟨rfl,rfl⟩
  ·have e:mI n=false:=by simp[mI,inB];omega
   rw[e];clear e
   go_enter Tryz.func179,Tryz.ntmps179
   go_wp2
   go_ret
   exact ⟨rfl,rfl⟩
 ·have e:mI n=false:=by simp[mI,inB];omega
  rw[e];clear e
  go_enter Tryz.func179,Tryz.ntmps179
  go_wp2
  go_ret
  exact ⟨rfl,rfl⟩

theorem pA (l:List Int) (k:Int) (A:Option Addr) (cap:Nat) (w:World) (hl:l.length≤maxLen) (hr:ay w A l) :
  Calls S 180 #[O A l.length cap,I V k] w fun e w'=>e= J (K (l.all fun n=>belowB n k))∧Gr w w':=by
 unfold maxLen at hl
 go_enter Tryz.func180,Tryz.ntmps180
 go_wp2
 go_loopw [9] (fun i wr=>∃j:Nat,j≤l.length∧i= I V j∧Hid (∀m (h:m<l.length),m<j→belowB l[m] k=true)∧wr=w) (fun i _=>l.length-(intOf i).toNat)
 case atStart=>exact ⟨0,nZ _,rfl,fun m _ h=>by omega,rfl⟩
 case round =>
  obtain ⟨j,hj,rfl,hall,rfl⟩:=hrel
  by_cases hlt:j<l.length
  ·have hltz:(j:Int)<(l.length:Int):=by omega
   obtain ⟨b,off,rfl,hb,hcs⟩:=hr.at hlt
   have e0:=hcs j hlt 0 (by omega)
   obtain ⟨x,hx⟩:∃y,l[j]=y:=⟨_,rfl⟩
   rw[hx] at e0
   have e1:wr.cell? ⟨b,off+j,none⟩=some (I V x):=by simpa[fp] using e0
   have hxH:Hid (l[j]=x):=hx
   clear hcs e0 hx
   cases hq:belowB x k
   ·have hib:=im x k wr
    rw[hq] at hib
    have hibH:Hid _:=hib
    have hfin:Hid ((l.all fun n=>belowB n k)=false):=by
     show _=_
     rw[List.all_eq_false]
     exact ⟨l[j],gM hlt,by rw[hxH.out,hq];simp⟩
    clear hib
    go_wp2_with (go_at_call 126;(refine cM (show Calls _ _ _ _ _ from hibH.out) ?_);rintro e w' ⟨rfl,rfl⟩)
    go_ret
    exact ⟨by rw[hfin.out];rfl,gR _⟩
   ·have hib:=im x k wr
    rw[hq] at hib
    have hibH:Hid _:=hib
    clear hib
    have hqH:Hid (belowB l[j] k=true):=by show _=_;rw[hxH.out];exact hq
    clear hq
    go_wp2_with (go_at_call 126;(refine cM (show Calls _ _ _ _ _ from hibH.out) ?_);rintro e w' ⟨rfl,rfl⟩)
    go_roundw
    case rel =>
     refine ⟨j+1,by omega,by go_num,?_,by trivial⟩
     intro m hm hmj
     by_cases e:m=j
     ·subst e;exact hqH.out
     ·exact hall m hm (by omega)
    case measure=>simp[intOf];omega
  ·have hltz:¬(j:Int)<(l.length:Int):=by omega
   have hfin:Hid ((l.all fun n=>belowB n k)=true):=by
    show _=_
    rw[List.all_eq_true]
    intro x hx
    obtain ⟨m,hm,rfl⟩:=List.mem_iff_getElem.1 hx
    exact hall m hm (by omega)
   go_wp2
   go_ret
   exact ⟨by rw[hfin.out];rfl,gR _⟩

structure Stp where
 k:Int
 a:Int
 b:Int
 c:Int
 o:Int
 v:Int
 p:Option Addr
 n:Nat
 l:List Int
def jj (s:Stp):List Value:=[I V s.k,I V s.a,I V s.b,I V s.c,I V s.o,I V s.v,O s.p s.l.length s.n]
theorem jJ (s:Stp):(jj s).length=7:=rfl
theorem wK (s:Stp):∀u∈jj s,u.oneCell'=true:=by
 intro u hu
 simp[jj] at hu
 rcases hu with rfl|rfl|rfl|rfl|rfl|rfl|rfl<;>rfl

def ek (k:Int):List UInt8:=if k=1 then [116,97,98,108,101] else if k=2 then [119,104,101,114,101] else if k=3 then [112,105,99,107] else if k=4 then [106,111,105,110] else if k=5 then [117,110,105,111,110] else if k=6 then [109,105,110,117,115] else if k=7 then [100,105,115,116,105,110,99,116] else if k=8 then [99,111,117,110,116] else if k=9 then [115,117,109] else []
def dH (k:Int):List UInt8:=if k=1 then [65] else if k=2 then [65,67,79,86] else if k=3 then [65,76] else if k=4 then [65,66,67,86] else if k=5 then [65,66] else if k=6 then [65,66] else if k=7 then [65] else if k=8 then [65,67] else if k=9 then [65,67,86] else []

theorem jn (k:Int) (w:World):Calls S 62 #[I V k] w fun e w'=>e= J (X #[U ⟨(ek k).toArray⟩,U ⟨(dH k).toArray⟩])∧w'=w:=by
 by_cases h1:k=1
 ·subst h1
  go_enter Tryz.func62,Tryz.ntmps62
  go_wp2
  go_ret2
  exact ⟨rfl,rfl⟩
 by_cases h2:k=2
 ·subst h2
  go_enter Tryz.func62,Tryz.ntmps62
  go_wp2
  go_ret2
  exact ⟨rfl,rfl⟩
 by_cases h3:k=3
 ·subst h3
  go_enter Tryz.func62,Tryz.ntmps62
  go_wp2
  go_ret2
  exact ⟨rfl,rfl⟩
 by_cases h4:k=4
 ·subst h4
  go_enter Tryz.func62,Tryz.ntmps62
  go_wp2
  go_ret2
  exact ⟨rfl,rfl⟩
 by_cases h5:k=5
 ·subst h5
  go_enter Tryz.func62,Tryz.ntmps62
  go_wp2
  go_ret2
  exact ⟨rfl,rfl⟩
 by_cases h6:k=6
 ·subst h6
  go_enter Tryz.func62,Tryz.ntmps62
  go_wp2
  go_ret2
  exact ⟨rfl,rfl⟩
 by_cases h7:k=7
 ·subst h7
  go_enter Tryz.func62,Tryz.ntmps62
  go_wp2
  go_ret2
  exact ⟨rfl,rfl⟩
 by_cases h8:k=8
 ·subst h8
  go_enter Tryz.func62,Tryz.ntmps62
  go_wp2
  go_ret2
  exact ⟨rfl,rfl⟩
 by_cases h9:k=9
 ·subst h9
  go_enter Tryz.func62,Tryz.ntmps62
  go_wp2
  go_ret2
  exact ⟨rfl,rfl⟩
 have e1:ek k=[]:=by unfold ek;rw[if_neg h1,if_neg h2,if_neg h3,if_neg h4,if_neg h5,if_neg h6,if_neg h7,if_neg h8,if_neg h9]
 have e2:dH k=[]:=by unfold dH;rw[if_neg h1,if_neg h2,if_neg h3,if_neg h4,if_neg h5,if_neg h6,if_neg h7,if_neg h8,if_neg h9]
 have q1:(k==1)=false:=by simpa using h1
 have q2:(k==2)=false:=by simpa using h2
 have q3:(k==3)=false:=by simpa using h3
 have q4:(k==4)=false:=by simpa using h4
 have q5:(k==5)=false:=by simpa using h5
 have q6:(k==6)=false:=by simpa using h6
 have q7:(k==7)=false:=by simpa using h7
 have q8:(k==8)=false:=by simpa using h8
 have q9:(k==9)=false:=by simpa using h9
 rw[e1,e2]
 clear h1 h2 h3 h4 h5 h6 h7 h8 h9 e1 e2
 go_enter Tryz.func62,Tryz.ntmps62
 go_wp2
 go_ret2
 exact ⟨rfl,rfl⟩

def zh (p:Int):Nat:=if p=65 then 1 else if p=66 then 2 else if p=67 then 3 else if p=79 then 4 else 5
theorem ow (b:Nat) (p:Int) (w:World):Calls S 88 #[Y (some ⟨b,0,none⟩),I .u8 p] w fun e w'=>e= J (Y (some ⟨b,zh p,none⟩))∧w'=w:=by
 by_cases h1:p=65
 ·subst h1
  go_enter Tryz.func88,Tryz.ntmps88
  go_wp2
  go_ret
  exact ⟨rfl,rfl⟩
 by_cases h2:p=66
 ·subst h2
  go_enter Tryz.func88,Tryz.ntmps88
  go_wp2
  go_ret
  exact ⟨rfl,rfl⟩
 by_cases h3:p=67
 ·subst h3
  go_enter Tryz.func88,Tryz.ntmps88
  go_wp2
  go_ret
  exact ⟨rfl,rfl⟩
 by_cases h4:p=79
 ·subst h4
  go_enter Tryz.func88,Tryz.ntmps88
  go_wp2
  go_ret
  exact ⟨rfl,rfl⟩
 have e1:zh p=5:=by unfold zh;rw[if_neg h1,if_neg h2,if_neg h3,if_neg h4]
 have q1:(p==65)=false:=by simpa using h1
 have q2:(p==66)=false:=by simpa using h2
 have q3:(p==67)=false:=by simpa using h3
 have q4:(p==79)=false:=by simpa using h4
 rw[e1]
 clear h1 h2 h3 h4 e1
 go_enter Tryz.func88,Tryz.ntmps88
 go_wp2
 go_ret
 exact ⟨rfl,rfl⟩


def aw (k:Int) (p:UInt8):Bool:=decide (0≤Lib.indexByte (dH k) p)
def kI:List UInt8:=[65,66,67,79,86]
def Stp.at (s:Stp) (j:Nat):Int:=[s.a,s.b,s.c,s.o,s.v].getD j 0
def fw (s:Stp) (j:Nat):Bool:=aw s.k (kI.getD j 0) || decide (s.at j=0)
def bJ (s:Stp):Bool:=(List.range 5).all (fw s) && (aw s.k 76 || s.l.isEmpty)
theorem vT {s:Stp} {j:Nat} (hj:j<5) (h:fw s j=false):bJ s=false:=by
 unfold bJ
 rw[Bool.and_eq_false_iff]
 left
 rw[List.all_eq_false]
 exact ⟨j,List.mem_range.2 hj,by rw[h];simp⟩
theorem j9 (l:List UInt8) (p:UInt8) (w:World):Calls S 177 #[U ⟨l.toArray⟩,I .u8 p.toNat] w fun e w'=>e= J (I V (Lib.indexByte l p))∧w'=w:=by
 have h:=Any.strings_IndexByte Tryz.laysIndexByte ⟨l.toArray⟩ (p.toNat:Int) w
 change Calls S 177 _ _ _ at h
 simpa using h

theorem ul (s:Stp) (w:World) :
  Calls S 125 #[.agg #[I V s.k,I V s.a,I V s.b,I V s.c,I V s.o,I V s.v,O s.p s.l.length s.n]] w fun e w'=>e= J (K (bJ s))∧Gr w w':=by
 have hg0:Gr w (w.alloc (Z #[I V s.k,I V s.a,I V s.b,I V s.c,I V s.o,I V s.v,O s.p s.l.length s.n] 105)):=(gR w).alloc _
 have hfo:=jn s.k (w.alloc (Z #[I V s.k,I V s.a,I V s.b,I V s.c,I V s.o,I V s.v,O s.p s.l.length s.n] 105))
 have hfoH:Hid _:=hfo
 clear hfo
 have c0:(w.alloc (Z #[I V s.k,I V s.a,I V s.b,I V s.c,I V s.o,I V s.v,O s.p s.l.length s.n] 105)).cell? ⟨w.heap.size,0,none⟩=some (I V s.k):=ab (gR _) rfl
 go_enter Tryz.func125,Tryz.ntmps125
 go_wp2_with fail
 refine cM (show Calls _ _ _ _ _ from hfoH.out) ?_
 rintro e w1 ⟨rfl,rfl⟩
 clear hfoH c0
 go_wp2
 go_loopw [13] (fun i wr=>∃j:Nat,j≤5∧i= I V j∧Hid (∀m,m<j→fw s m=true)∧wr=(w.alloc (Z #[I V s.k,I V s.a,I V s.b,I V s.c,I V s.o,I V s.v,O s.p s.l.length s.n] 105))) (fun i _=>5-(intOf i).toNat)
 case atStart=>exact ⟨0,by omega,rfl,fun m h=>by omega,by trivial⟩
 case round =>
  obtain ⟨j,hj,rfl,hall,rfl⟩:=hrel
  by_cases h5:j=5
  ·subst h5
   have c6:(w.alloc (Z #[I V s.k,I V s.a,I V s.b,I V s.c,I V s.o,I V s.v,O s.p s.l.length s.n] 105)).cell? ⟨w.heap.size,6,none⟩=some (O s.p s.l.length s.n):=ab (gR _) rfl
   obtain ⟨x,hx⟩:∃x,Lib.indexByte (dH s.k) 76=x:=⟨_,rfl⟩
   have hix:=j9 (dH s.k) 76 (w.alloc (Z #[I V s.k,I V s.a,I V s.b,I V s.c,I V s.o,I V s.v,O s.p s.l.length s.n] 105))
   rw[hx] at hix
   have hixH:Hid (Calls S 177 #[U ⟨(dH s.k).toArray⟩,I .u8 76] _ _):=hix
   have hend:Hid (bJ s=(decide (0≤x) || s.l.isEmpty)):=by
    show _=_
    unfold bJ
    rw[List.all_eq_true.2 fun m hm=>hall m (List.mem_range.1 hm)]
    show (true && (decide (0≤Lib.indexByte (dH s.k) 76) || s.l.isEmpty))=_
    rw[hx];simp
   clear hx hix hall
   by_cases hx0:0≤x
   ·have hfin:Hid (bJ s=true):=by show _=_;rw[hend.out];simp[hx0]
    go_wp2_with (go_at_call 177;(refine cM (show Calls _ _ _ _ _ from hixH.out) ?_);rintro e w' ⟨rfl,rfl⟩)
    go_ret
    exact ⟨by rw[hfin.out];rfl,hg0⟩
   ·by_cases hl0:s.l=[]
    ·have hfin:Hid (bJ s=true):=by show _=_;rw[hend.out,hl0];simp
     have hl00:((s.l.length:Int)==0)=true:=by rw[hl0];rfl
     clear hl0
     go_wp2_with (go_at_call 177;(refine cM (show Calls _ _ _ _ _ from hixH.out) ?_);rintro e w' ⟨rfl,rfl⟩)
     go_ret
     exact ⟨by rw[hfin.out];rfl,hg0⟩
    ·have hfin:Hid (bJ s=false):=by show _=_;rw[hend.out];simp[hl0];omega
     have hl00:((s.l.length:Int)==0)=false:=by
      have:=List.length_pos_iff.2 hl0
      simp;omega
     have hxd:decide (0≤x)=false:=by simpa using hx0
     clear hl0
     go_wp2_with (go_at_call 177;(refine cM (show Calls _ _ _ _ _ from hixH.out) ?_);rintro e w' ⟨rfl,rfl⟩)
     go_ret
     exact ⟨by rw[hfin.out,←hxd];rfl,hg0⟩
  have hj6:j=0∨j=1∨j=2∨j=3∨j=4:=by omega
  obtain ⟨x,hx⟩:∃x,Lib.indexByte (dH s.k) (kI.getD j 0)=x:=⟨_,rfl⟩
  obtain ⟨v,hv⟩:∃v,s.at j=v:=⟨_,rfl⟩
  obtain ⟨o,ho⟩:∃o,j+1=o:=⟨_,rfl⟩
  have hcb:fw s j=(decide (0≤x) || decide (v=0)):=by rw[←hx,←hv];rfl
  have hok:Hid ((0≤x∨v=0)→∀m,m<j+1→fw s m=true):=fun h m hm=>by
   by_cases e:m=j
   ·rw[e,hcb];simpa using h
   ·exact hall m (by omega)
  have hno:Hid (x<0→v≠0→bJ s=false):=fun h1 h2=>vT (j:=j) (by omega) (by rw[hcb];simp[h2];omega)
  have hix:=j9 (dH s.k) (kI.getD j 0) (w.alloc (Z #[I V s.k,I V s.a,I V s.b,I V s.c,I V s.o,I V s.v,O s.p s.l.length s.n] 105))
  rw[hx] at hix
  have hixH:Hid _:=hix
  have cj:(w.alloc (Z #[I V s.k,I V s.a,I V s.b,I V s.c,I V s.o,I V s.v,O s.p s.l.length s.n] 105)).cell? ⟨w.heap.size,o,none⟩=some (I V v):=by
   rw[←ho,←hv]
   rcases hj6 with rfl|rfl|rfl|rfl|rfl<;>exact ab (gR _) rfl
  have hfdH:Hid (Calls S 88 #[Y (some ⟨w.heap.size,0,none⟩),I .u8 ((kI.getD j 0).toNat:Int)] (w.alloc (Z #[I V s.k,I V s.a,I V s.b,I V s.c,I V s.o,I V s.v,O s.p s.l.length s.n] 105)) fun e w'=>e= J (Y (some ⟨w.heap.size,o,none⟩))∧w'=(w.alloc (Z #[I V s.k,I V s.a,I V s.b,I V s.c,I V s.o,I V s.v,O s.p s.l.length s.n] 105))):=by
   rw[←ho]
   rcases hj6 with rfl|rfl|rfl|rfl|rfl<;>exact ow _ _ _
  clear hx hv ho hcb hix hall h5
  by_cases hx0:x<0
  ·cases hvb:(v != 0)
   ·have hst:Hid _:=hok.out (oR (by simpa using hvb))
    clear hok hno
    rcases hj6 with rfl|rfl|rfl|rfl|rfl<;>(go_wp2_with (first|(go_at_call 177;(refine cM (show Calls _ _ _ _ _ from hixH.out) ?_);rintro e w' ⟨rfl,rfl⟩)|(go_at_call 88;(refine cM (show Calls _ _ _ _ _ from hfdH.out) ?_);rintro e w' ⟨rfl,rfl⟩));go_roundw;(case rel=>exact ⟨_,by omega,by go_num,hst,by trivial⟩);case measure=>simp[intOf])
   ·have hfin:Hid (bJ s=false):=hno.out hx0 (by simpa using hvb)
    clear hok hno
    rcases hj6 with rfl|rfl|rfl|rfl|rfl<;>(go_wp2_with (first|(go_at_call 177;(refine cM (show Calls _ _ _ _ _ from hixH.out) ?_);rintro e w' ⟨rfl,rfl⟩)|(go_at_call 88;(refine cM (show Calls _ _ _ _ _ from hfdH.out) ?_);rintro e w' ⟨rfl,rfl⟩));go_ret;exact ⟨by rw[hfin.out];rfl,hg0⟩)
  ·have hst:Hid _:=hok.out (oL (by omega))
   clear hok hno
   rcases hj6 with rfl|rfl|rfl|rfl|rfl<;>(go_wp2_with (first|(go_at_call 177;(refine cM (show Calls _ _ _ _ _ from hixH.out) ?_);rintro e w' ⟨rfl,rfl⟩)|(go_at_call 88;(refine cM (show Calls _ _ _ _ _ from hfdH.out) ?_);rintro e w' ⟨rfl,rfl⟩));go_roundw;(case rel=>exact ⟨_,by omega,by go_num,hst,by trivial⟩);case measure=>simp[intOf])

end Go.Proofs.YtkefkplnamkicaaGreatDoor
