/-
  What is carried through the calls of viewkeep.ZsetGroup: lists of items, and what each call tells of them.
  Lists of numbers in memory.
  The library's strings.IndexByte: where its functions and types stand in this program.
  Steps of a query: what they are in memory; the small functions of package query.
  query.tellsItsPartsAlone: has a step nothing that its kind doesn't tell?
  query.widthOfOne, widthOfTwo: the width of a step's set.
-/
import Derived.Test.YtckeonpnfankhaaGreatDoorM07
import Derived.Shelf.Small.Strs
set_option maxRecDepth 100000
set_option maxHeartbeats 8000000
namespace Go.Proofs.YtckeonpnfankhaaGreatDoor
open Go.RowKit Go.Sort

theorem kt {L:List Itm} {m:List Zit} (h:L.map Itm.z=m) (hm:m.length≤400):L.length≤maxLen:=by
 have:L.length=m.length:=by rw[←h,List.length_map]
 unfold maxLen;omega
theorem sr (l:List Zit):(df l).length≤400:=by
 unfold df
 by_cases h:bW l=0
 ·rw[if_pos h];exact nT (j8 l) (jR h).1
 ·rw[if_neg h];simp
theorem tV (l:List Zit):(gm l).length≤400:=by
 unfold gm
 by_cases h:av l=0
 ·rw[if_pos h,List.length_map];exact ((bx _).1 h).1
 ·rw[if_neg h];simp
theorem oG (a b:List Zit):(aN a b).length≤400:=by
 unfold aN
 by_cases h:aP a b=0
 ·rw[if_pos h]
  by_cases k:400<(cK (a++b)).length
  ·exfalso
   unfold aP at h
   by_cases h1:av a=0
   ·rw[if_pos h1] at h
    by_cases h2:av b=0
    ·rw[if_pos h2] at h
     by_cases h3:d7 (a++b)=0
     ·rw[if_pos h3,if_pos k] at h;cases h
     ·rw[if_neg h3] at h;exact h3 h
    ·rw[if_neg h2] at h;exact h2 h
   ·rw[if_neg h1] at h;exact h1 h
  ·omega
 ·rw[if_neg h];simp
theorem nA {W:World} {A:Option Addr} {c:Nat} {l:List Itm} (h:Lv W A c l) {m:List Zit} (hm:l.map Itm.z=m) :
  Calls Tryz.prog 96 #[.slice A l.length c] W fun e w'=>∃(L:List Itm) (C:Option Addr) (k:Nat),e= .returned (.tuple #[.slice C L.length k,.int .i64 (bW m)])∧L.map Itm.z=df m∧Lv w' C k L∧Below W.heap.size W w'∧NwT w' k W.heap.size C L:=by
 subst hm
 refine (ub l A c W h.len h.nil h.items).mono ?_
 rintro e w' ⟨L,C,k,h1,h2,h3,h4,h5⟩
 exact ⟨L,C,k,h1,h2,⟨h3,h4,kt h2 (sr _)⟩,h5⟩
theorem yJ {W:World} {A:Option Addr} {c:Nat} {l:List Itm} (h:Lv W A c l) {m:List Zit} (hm:l.map Itm.z=m) :
  Calls Tryz.prog 137 #[.slice A l.length c] W fun e w'=>∃(L:List Itm) (C:Option Addr) (k:Nat),e= .returned (.tuple #[.slice C L.length k,.int .i64 (av m)])∧L.map Itm.z=gm m∧Lv w' C k L∧Below W.heap.size W w':=by
 subst hm
 refine (wK l A c W h.len h.items).mono ?_
 rintro e w' ⟨L,C,k,h1,h2,h3,h4,h5⟩
 exact ⟨L,C,k,h1,h2,⟨h3,h4,kt h2 (tV _)⟩,h5⟩
theorem yN {W:World} {A B:Option Addr} {c d:Nat} {l r:List Itm} (h:Lv W A c l) (h':Lv W B d r) {m n:List Zit} (hm:l.map Itm.z=m) (hn:r.map Itm.z=n) :
  Calls Tryz.prog 98 #[.slice A l.length c,.slice B r.length d] W fun e w'=>∃(L:List Itm) (C:Option Addr) (k:Nat),e= .returned (.tuple #[.slice C L.length k,.int .i64 (aP m n)])∧L.map Itm.z=aN m n∧Lv w' C k L∧Below W.heap.size W w':=by
 subst hm
 subst hn
 refine (wH l r A B c d W h.len h'.len h.nil h'.nil h.items h'.items).mono ?_
 rintro e w' ⟨L,C,k,h1,h2,h3,h4,h5⟩
 exact ⟨L,C,k,h1,h2,⟨h3,h4,kt h2 (oG _ _)⟩,h5⟩
theorem pj {W:World} {A B:Option Addr} {c d:Nat} {l r:List Itm} (h:Lv W A c l) (h':Lv W B d r) {m n:List Zit} (hm:l.map Itm.z=m) (hn:r.map Itm.z=n) :
  Calls Tryz.prog 98 #[.slice A l.length c,.slice B r.length d] W fun e w'=>∃(L:List Itm) (C:Option Addr) (k:Nat),e= .returned (.tuple #[.slice C L.length k,.int .i64 (aP m n)])∧L.map Itm.z=aN m n∧Lv w' C k L∧Below W.heap.size W w'∧NwT w' k W.heap.size C L:=by
 subst hm
 subst hn
 refine (re l r A B c d W h.len h'.len h.nil h'.nil h.items h'.items).mono ?_
 rintro e w' ⟨L,C,k,h1,h2,h3,h4,h5⟩
 exact ⟨L,C,k,h1,h2,⟨h3,h4,kt h2 (oG _ _)⟩,h5⟩
theorem vH {W:World} {A:Option Addr} {c:Nat} {l:List Itm} (h:Lv W A c l) {m:List Zit} (hm:l.map Itm.z=m) :
  Calls Tryz.prog 95 #[.slice A l.length c] W fun e w'=>e= .returned (.int .i64 (av m))∧Gr W w':=by
 subst hm
 exact ge l A c W h.len h.items
end Go.Proofs.YtckeonpnfankhaaGreatDoor



namespace Go.Proofs
open Go.Shelf
def Tryz.laysIndexByte_ren:Go.Shelf.Ren:=⟨fun|137=>177|217=>114|266=>168|n=>n,fun|9=>9|5=>5|3=>3|n=>n,fun|n=>n⟩
theorem Tryz.laysIndexByte:Go.Proofs.Lays.n137 Tryz.prog Tryz.laysIndexByte_ren:={
 mixed:=by kernel_rfl
 f137:=Tryz.func177.trans (congrArg some (by kernel_rfl))
 f217:=Tryz.func114.trans (congrArg some (by kernel_rfl))
 f266:=Tryz.func168.trans (congrArg some (by kernel_rfl))
 t3:=Tryz.underlying3
 a3:=Tryz.isAgg3
 z3:=Tryz.sizeOf3
 v3:=Tryz.zeroValue3
 t5:=Tryz.underlying5
 a5:=Tryz.isAgg5
 z5:=Tryz.sizeOf5
 v5:=Tryz.zeroValue5
 t9:=Tryz.underlying9
 a9:=Tryz.isAgg9
 z9:=Tryz.sizeOf9
 v9:=Tryz.zeroValue9 }
end Go.Proofs

namespace Go.Proofs.YtckeonpnfankhaaGreatDoor
open Go.RowKit Go.Sort

def belowB (n k:Int):Bool:=decide (0≤n) && decide (n<k)
theorem gz (n k:Int) (w:World):Calls Tryz.prog 126 #[.int .i64 n,.int .i64 k] w fun e w'=>e= .returned (.bool (belowB n k))∧w'=w:=by
 by_cases h1:0≤n
 ·by_cases h2:n<k
  ·have e:belowB n k=true:=by simp[belowB];omega
   rw[e];clear e
   go_enter Tryz.func126,Tryz.ntmps126
   go_wp2
   go_ret
   exact ⟨rfl,rfl⟩
  ·have e:belowB n k=false:=by simp[belowB];omega
   rw[e];clear e
   go_enter Tryz.func126,Tryz.ntmps126
   go_wp2
   go_ret
   exact ⟨rfl,rfl⟩
 ·have e:belowB n k=false:=by simp[belowB];omega
  rw[e];clear e
  go_enter Tryz.func126,Tryz.ntmps126
  go_wp2
  go_ret
  exact ⟨rfl,rfl⟩
def opB (n:Int):Bool:=decide (n=1∨n=2∨n=3)
theorem ug (n:Int) (w:World):Calls Tryz.prog 178 #[.int .i64 n] w fun e w'=>e= .returned (.bool (opB n))∧w'=w:=by
 by_cases h1:n=1
 ·subst h1
  go_enter Tryz.func178,Tryz.ntmps178
  go_wp2
  go_ret
  exact ⟨rfl,rfl⟩
 ·by_cases h2:n=2
  ·subst h2
   go_enter Tryz.func178,Tryz.ntmps178
   go_wp2
   go_ret
   exact ⟨rfl,rfl⟩
  ·by_cases h3:n=3
   ·subst h3
    go_enter Tryz.func178,Tryz.ntmps178
    go_wp2
    go_ret
    exact ⟨rfl,rfl⟩
   ·have e:opB n=false:=by simp[opB];omega
    have e1:(n==1)=false:=by simpa using h1
    have e2:(n==2)=false:=by simpa using h2
    have e3:(n==3)=false:=by simpa using h3
    rw[e];clear e h1 h2 h3
    go_enter Tryz.func178,Tryz.ntmps178
    go_wp2
    go_ret
    exact ⟨rfl,rfl⟩
def kE (n:Int):Bool:=inB n (-1073741824) 1073741824
theorem nQ (n:Int) (w:World):Calls Tryz.prog 179 #[.int .i64 n] w fun e w'=>e= .returned (.bool (kE n))∧w'=w:=by
 by_cases h1: -1073741824≤n
 ·by_cases h2:n≤1073741824
  ·have e:kE n=true:=by simp[kE,inB];omega
   rw[e];clear e
   go_enter Tryz.func179,Tryz.ntmps179
   go_wp2
   go_ret
   exact ⟨rfl,rfl⟩
  ·have e:kE n=false:=by simp[kE,inB];omega
   rw[e];clear e
   go_enter Tryz.func179,Tryz.ntmps179
   go_wp2
   go_ret
   exact ⟨rfl,rfl⟩
 ·have e:kE n=false:=by simp[kE,inB];omega
  rw[e];clear e
  go_enter Tryz.func179,Tryz.ntmps179
  go_wp2
  go_ret
  exact ⟨rfl,rfl⟩

theorem nM (l:List Int) (k:Int) (A:Option Addr) (cap:Nat) (w:World) (hl:l.length≤maxLen) (hr:ay w A l) :
  Calls Tryz.prog 180 #[.slice A l.length cap,.int .i64 k] w fun e w'=>e= .returned (.bool (l.all fun n=>belowB n k))∧Gr w w':=by
 unfold maxLen at hl
 go_enter Tryz.func180,Tryz.ntmps180
 go_wp2
 go_loopw [9] (fun i wr=>∃j:Nat,j≤l.length∧i= .int .i64 j∧Hid (∀m (h:m<l.length),m<j→belowB l[m] k=true)∧wr=w) (fun i _=>l.length-(intOf i).toNat)
 case atStart=>exact ⟨0,nZ _,rfl,fun m _ h=>by omega,rfl⟩
 case round =>
  obtain ⟨j,hj,rfl,hall,rfl⟩:=hrel
  by_cases hlt:j<l.length
  ·have hltz:(j:Int)<(l.length:Int):=by omega
   obtain ⟨b,off,rfl,hb,hcs⟩:=hr.at hlt
   have e0:=hcs j hlt 0 (by omega)
   obtain ⟨x,hx⟩:∃y,l[j]=y:=⟨_,rfl⟩
   rw[hx] at e0
   have e1:wr.cell? ⟨b,off+j,none⟩=some (.int .i64 x):=by simpa[fK] using e0
   have hxH:Hid (l[j]=x):=hx
   clear hcs e0 hx
   cases hq:belowB x k
   ·have hib:=gz x k wr
    rw[hq] at hib
    have hibH:Hid _:=hib
    have hfin:Hid ((l.all fun n=>belowB n k)=false):=by
     show _=_
     rw[List.all_eq_false]
     exact ⟨l[j],gM hlt,by rw[hxH.out,hq];simp⟩
    clear hib
    go_wp2_with (go_at_call 126;(refine cM (show Calls _ _ _ _ _ from hibH.out) ?_);rintro e w' ⟨rfl,rfl⟩)
    go_ret
    exact ⟨by rw[hfin.out];rfl,gR _⟩
   ·have hib:=gz x k wr
    rw[hq] at hib
    have hibH:Hid _:=hib
    clear hib
    have hqH:Hid (belowB l[j] k=true):=by show _=_;rw[hxH.out];exact hq
    clear hq
    go_wp2_with (go_at_call 126;(refine cM (show Calls _ _ _ _ _ from hibH.out) ?_);rintro e w' ⟨rfl,rfl⟩)
    go_roundw
    case rel =>
     refine ⟨j+1,by omega,by go_num,?_,by trivial⟩
     intro m hm hmj
     by_cases e:m=j
     ·subst e;exact hqH.out
     ·exact hall m hm (by omega)
    case measure=>simp[intOf];omega
  ·have hltz:¬(j:Int)<(l.length:Int):=by omega
   have hfin:Hid ((l.all fun n=>belowB n k)=true):=by
    show _=_
    rw[List.all_eq_true]
    intro x hx
    obtain ⟨m,hm,rfl⟩:=List.mem_iff_getElem.1 hx
    exact hall m hm (by omega)
   go_wp2
   go_ret
   exact ⟨by rw[hfin.out];rfl,gR _⟩

structure Stp where
 k:Int
 a:Int
 b:Int
 c:Int
 o:Int
 v:Int
 p:Option Addr
 n:Nat
 l:List Int
def iB (s:Stp):List Value:=[.int .i64 s.k,.int .i64 s.a,.int .i64 s.b,.int .i64 s.c,.int .i64 s.o,.int .i64 s.v,.slice s.p s.l.length s.n]
theorem iW (s:Stp):(iB s).length=7:=rfl
theorem ux (s:Stp):∀u∈iB s,u.oneCell'=true:=by
 intro u hu
 simp[iB] at hu
 rcases hu with rfl|rfl|rfl|rfl|rfl|rfl|rfl<;>rfl

def dN (k:Int):List UInt8:=if k=1 then [116,97,98,108,101] else if k=2 then [119,104,101,114,101] else if k=3 then [112,105,99,107] else if k=4 then [106,111,105,110] else if k=5 then [117,110,105,111,110] else if k=6 then [109,105,110,117,115] else if k=7 then [100,105,115,116,105,110,99,116] else if k=8 then [99,111,117,110,116] else if k=9 then [115,117,109] else []
def bf (k:Int):List UInt8:=if k=1 then [65] else if k=2 then [65,67,79,86] else if k=3 then [65,76] else if k=4 then [65,66,67,86] else if k=5 then [65,66] else if k=6 then [65,66] else if k=7 then [65] else if k=8 then [65,67] else if k=9 then [65,67,86] else []

theorem iQ (k:Int) (w:World):Calls Tryz.prog 62 #[.int .i64 k] w fun e w'=>e= .returned (.tuple #[.string ⟨(dN k).toArray⟩,.string ⟨(bf k).toArray⟩])∧w'=w:=by
 by_cases h1:k=1
 ·subst h1
  go_enter Tryz.func62,Tryz.ntmps62
  go_wp2
  go_ret2
  exact ⟨rfl,rfl⟩
 by_cases h2:k=2
 ·subst h2
  go_enter Tryz.func62,Tryz.ntmps62
  go_wp2
  go_ret2
  exact ⟨rfl,rfl⟩
 by_cases h3:k=3
 ·subst h3
  go_enter Tryz.func62,Tryz.ntmps62
  go_wp2
  go_ret2
  exact ⟨rfl,rfl⟩
 by_cases h4:k=4
 ·subst h4
  go_enter Tryz.func62,Tryz.ntmps62
  go_wp2
  go_ret2
  exact ⟨rfl,rfl⟩
 by_cases h5:k=5
 ·subst h5
  go_enter Tryz.func62,Tryz.ntmps62
  go_wp2
  go_ret2
  exact ⟨rfl,rfl⟩
 by_cases h6:k=6
 ·subst h6
  go_enter Tryz.func62,Tryz.ntmps62
  go_wp2
  go_ret2
  exact ⟨rfl,rfl⟩
 by_cases h7:k=7
 ·subst h7
  go_enter Tryz.func62,Tryz.ntmps62
  go_wp2
  go_ret2
  exact ⟨rfl,rfl⟩
 by_cases h8:k=8
 ·subst h8
  go_enter Tryz.func62,Tryz.ntmps62
  go_wp2
  go_ret2
  exact ⟨rfl,rfl⟩
 by_cases h9:k=9
 ·subst h9
  go_enter Tryz.func62,Tryz.ntmps62
  go_wp2
  go_ret2
  exact ⟨rfl,rfl⟩
 have e1:dN k=[]:=by unfold dN;rw[if_neg h1,if_neg h2,if_neg h3,if_neg h4,if_neg h5,if_neg h6,if_neg h7,if_neg h8,if_neg h9]
 have e2:bf k=[]:=by unfold bf;rw[if_neg h1,if_neg h2,if_neg h3,if_neg h4,if_neg h5,if_neg h6,if_neg h7,if_neg h8,if_neg h9]
 have q1:(k==1)=false:=by simpa using h1
 have q2:(k==2)=false:=by simpa using h2
 have q3:(k==3)=false:=by simpa using h3
 have q4:(k==4)=false:=by simpa using h4
 have q5:(k==5)=false:=by simpa using h5
 have q6:(k==6)=false:=by simpa using h6
 have q7:(k==7)=false:=by simpa using h7
 have q8:(k==8)=false:=by simpa using h8
 have q9:(k==9)=false:=by simpa using h9
 rw[e1,e2]
 clear h1 h2 h3 h4 h5 h6 h7 h8 h9 e1 e2
 go_enter Tryz.func62,Tryz.ntmps62
 go_wp2
 go_ret2
 exact ⟨rfl,rfl⟩

def vR (p:Int):Nat:=if p=65 then 1 else if p=66 then 2 else if p=67 then 3 else if p=79 then 4 else 5
theorem eN (b:Nat) (p:Int) (w:World):Calls Tryz.prog 88 #[.pointer (some ⟨b,0,none⟩),.int .u8 p] w fun e w'=>e= .returned (.pointer (some ⟨b,vR p,none⟩))∧w'=w:=by
 by_cases h1:p=65
 ·subst h1
  go_enter Tryz.func88,Tryz.ntmps88
  go_wp2
  go_ret
  exact ⟨rfl,rfl⟩
 by_cases h2:p=66
 ·subst h2
  go_enter Tryz.func88,Tryz.ntmps88
  go_wp2
  go_ret
  exact ⟨rfl,rfl⟩
 by_cases h3:p=67
 ·subst h3
  go_enter Tryz.func88,Tryz.ntmps88
  go_wp2
  go_ret
  exact ⟨rfl,rfl⟩
 by_cases h4:p=79
 ·subst h4
  go_enter Tryz.func88,Tryz.ntmps88
  go_wp2
  go_ret
  exact ⟨rfl,rfl⟩
 have e1:vR p=5:=by unfold vR;rw[if_neg h1,if_neg h2,if_neg h3,if_neg h4]
 have q1:(p==65)=false:=by simpa using h1
 have q2:(p==66)=false:=by simpa using h2
 have q3:(p==67)=false:=by simpa using h3
 have q4:(p==79)=false:=by simpa using h4
 rw[e1]
 clear h1 h2 h3 h4 e1
 go_enter Tryz.func88,Tryz.ntmps88
 go_wp2
 go_ret
 exact ⟨rfl,rfl⟩


def ar (k:Int) (p:UInt8):Bool:=decide (0≤Lib.indexByte (bf k) p)
def mh:List UInt8:=[65,66,67,79,86]
def Stp.at (s:Stp) (j:Nat):Int:=[s.a,s.b,s.c,s.o,s.v].getD j 0
def bF (s:Stp) (j:Nat):Bool:=ar s.k (mh.getD j 0) || decide (s.at j=0)
def aK (s:Stp):Bool:=(List.range 5).all (bF s) && (ar s.k 76 || s.l.isEmpty)
theorem gG {s:Stp} {j:Nat} (hj:j<5) (h:bF s j=false):aK s=false:=by
 unfold aK
 rw[Bool.and_eq_false_iff]
 left
 rw[List.all_eq_false]
 exact ⟨j,List.mem_range.2 hj,by rw[h];simp⟩
theorem cS (l:List UInt8) (p:UInt8) (w:World):Calls Tryz.prog 177 #[.string ⟨l.toArray⟩,.int .u8 p.toNat] w fun e w'=>e= .returned (.int .i64 (Lib.indexByte l p))∧w'=w:=by
 have h:=Any.strings_IndexByte Tryz.laysIndexByte ⟨l.toArray⟩ (p.toNat:Int) w
 change Calls Tryz.prog 177 _ _ _ at h
 simpa using h

theorem sP (s:Stp) (w:World) :
  Calls Tryz.prog 125 #[.agg #[.int .i64 s.k,.int .i64 s.a,.int .i64 s.b,.int .i64 s.c,.int .i64 s.o,.int .i64 s.v,.slice s.p s.l.length s.n]] w fun e w'=>e= .returned (.bool (aK s))∧Gr w w':=by
 have hg0:Gr w (w.alloc (.cells #[.int .i64 s.k,.int .i64 s.a,.int .i64 s.b,.int .i64 s.c,.int .i64 s.o,.int .i64 s.v,.slice s.p s.l.length s.n] 105)):=(gR w).alloc _
 have hfo:=iQ s.k (w.alloc (.cells #[.int .i64 s.k,.int .i64 s.a,.int .i64 s.b,.int .i64 s.c,.int .i64 s.o,.int .i64 s.v,.slice s.p s.l.length s.n] 105))
 have hfoH:Hid _:=hfo
 clear hfo
 have c0:(w.alloc (.cells #[.int .i64 s.k,.int .i64 s.a,.int .i64 s.b,.int .i64 s.c,.int .i64 s.o,.int .i64 s.v,.slice s.p s.l.length s.n] 105)).cell? ⟨w.heap.size,0,none⟩=some (.int .i64 s.k):=aa (gR _) rfl
 go_enter Tryz.func125,Tryz.ntmps125
 go_wp2_with fail
 refine cM (show Calls _ _ _ _ _ from hfoH.out) ?_
 rintro e w1 ⟨rfl,rfl⟩
 clear hfoH c0
 go_wp2
 go_loopw [13] (fun i wr=>∃j:Nat,j≤5∧i= .int .i64 j∧Hid (∀m,m<j→bF s m=true)∧wr=(w.alloc (.cells #[.int .i64 s.k,.int .i64 s.a,.int .i64 s.b,.int .i64 s.c,.int .i64 s.o,.int .i64 s.v,.slice s.p s.l.length s.n] 105))) (fun i _=>5-(intOf i).toNat)
 case atStart=>exact ⟨0,by omega,rfl,fun m h=>by omega,by trivial⟩
 case round =>
  obtain ⟨j,hj,rfl,hall,rfl⟩:=hrel
  have hj6:j=0∨j=1∨j=2∨j=3∨j=4∨j=5:=by omega
  rcases hj6 with rfl|rfl|rfl|rfl|rfl|rfl
  ·have cj:(w.alloc (.cells #[.int .i64 s.k,.int .i64 s.a,.int .i64 s.b,.int .i64 s.c,.int .i64 s.o,.int .i64 s.v,.slice s.p s.l.length s.n] 105)).cell? ⟨w.heap.size,1,none⟩=some (.int .i64 s.a):=aa (gR _) rfl
   obtain ⟨x,hx⟩:∃x,Lib.indexByte (bf s.k) 65=x:=⟨_,rfl⟩
   have hix:=cS (bf s.k) 65 (w.alloc (.cells #[.int .i64 s.k,.int .i64 s.a,.int .i64 s.b,.int .i64 s.c,.int .i64 s.o,.int .i64 s.v,.slice s.p s.l.length s.n] 105))
   have hfd:=eN w.heap.size 65 (w.alloc (.cells #[.int .i64 s.k,.int .i64 s.a,.int .i64 s.b,.int .i64 s.c,.int .i64 s.o,.int .i64 s.v,.slice s.p s.l.length s.n] 105))
   rw[hx] at hix
   have hixH:Hid (Calls Tryz.prog 177 #[.string ⟨(bf s.k).toArray⟩,.int .u8 65] _ _):=hix
   have hfdH:Hid (Calls Tryz.prog 88 _ _ fun e w'=>e= .returned (.pointer (some ⟨w.heap.size,1,none⟩))∧w'=_):=hfd
   have hok:Hid ((0≤x∨s.a=0)→bF s 0=true):=fun h=>by
    show (decide (0≤Lib.indexByte (bf s.k) 65) || decide (s.a=0))=true
    rw[hx];simpa using h
   have hno:Hid (x<0→s.a≠0→aK s=false):=fun h1 h2=>gG (j:=0) (by omega) (by
    show (decide (0≤Lib.indexByte (bf s.k) 65) || decide (s.a=0))=false
    rw[hx];simp[h2];omega)
   have hnx:Hid (bF s 0=true→∀m,m<0+1→bF s m=true):=fun h m hm=>by
    by_cases e:m=0
    ·rw[e];exact h
    ·exact hall m (by omega)
   clear hx hix hfd hall
   by_cases hx0:x<0
   ·cases hv:(s.a != 0)
    ·have hstep:Hid (∀m,m<0+1→bF s m=true):=hnx.out (hok.out (oR (by simpa using hv)))
     go_wp2_with (first|(go_at_call 177;(refine cM (show Calls _ _ _ _ _ from hixH.out) ?_);rintro e w' ⟨rfl,rfl⟩)|(go_at_call 88;(refine cM (show Calls _ _ _ _ _ from hfdH.out) ?_);rintro e w' ⟨rfl,rfl⟩))
     go_roundw
     case rel=>exact ⟨0+1,by omega,by go_num,hstep,by trivial⟩
     case measure=>simp[intOf]
    ·have hfin:Hid (aK s=false):=hno.out hx0 (by simpa using hv)
     go_wp2_with (first|(go_at_call 177;(refine cM (show Calls _ _ _ _ _ from hixH.out) ?_);rintro e w' ⟨rfl,rfl⟩)|(go_at_call 88;(refine cM (show Calls _ _ _ _ _ from hfdH.out) ?_);rintro e w' ⟨rfl,rfl⟩))
     go_ret
     exact ⟨by rw[hfin.out];rfl,hg0⟩
   ·have hstep:Hid (∀m,m<0+1→bF s m=true):=hnx.out (hok.out (oL (by omega)))
    go_wp2_with (first|(go_at_call 177;(refine cM (show Calls _ _ _ _ _ from hixH.out) ?_);rintro e w' ⟨rfl,rfl⟩)|(go_at_call 88;(refine cM (show Calls _ _ _ _ _ from hfdH.out) ?_);rintro e w' ⟨rfl,rfl⟩))
    go_roundw
    case rel=>exact ⟨0+1,by omega,by go_num,hstep,by trivial⟩
    case measure=>simp[intOf]
  ·have cj:(w.alloc (.cells #[.int .i64 s.k,.int .i64 s.a,.int .i64 s.b,.int .i64 s.c,.int .i64 s.o,.int .i64 s.v,.slice s.p s.l.length s.n] 105)).cell? ⟨w.heap.size,2,none⟩=some (.int .i64 s.b):=aa (gR _) rfl
   obtain ⟨x,hx⟩:∃x,Lib.indexByte (bf s.k) 66=x:=⟨_,rfl⟩
   have hix:=cS (bf s.k) 66 (w.alloc (.cells #[.int .i64 s.k,.int .i64 s.a,.int .i64 s.b,.int .i64 s.c,.int .i64 s.o,.int .i64 s.v,.slice s.p s.l.length s.n] 105))
   have hfd:=eN w.heap.size 66 (w.alloc (.cells #[.int .i64 s.k,.int .i64 s.a,.int .i64 s.b,.int .i64 s.c,.int .i64 s.o,.int .i64 s.v,.slice s.p s.l.length s.n] 105))
   rw[hx] at hix
   have hixH:Hid (Calls Tryz.prog 177 #[.string ⟨(bf s.k).toArray⟩,.int .u8 66] _ _):=hix
   have hfdH:Hid (Calls Tryz.prog 88 _ _ fun e w'=>e= .returned (.pointer (some ⟨w.heap.size,2,none⟩))∧w'=_):=hfd
   have hok:Hid ((0≤x∨s.b=0)→bF s 1=true):=fun h=>by
    show (decide (0≤Lib.indexByte (bf s.k) 66) || decide (s.b=0))=true
    rw[hx];simpa using h
   have hno:Hid (x<0→s.b≠0→aK s=false):=fun h1 h2=>gG (j:=1) (by omega) (by
    show (decide (0≤Lib.indexByte (bf s.k) 66) || decide (s.b=0))=false
    rw[hx];simp[h2];omega)
   have hnx:Hid (bF s 1=true→∀m,m<1+1→bF s m=true):=fun h m hm=>by
    by_cases e:m=1
    ·rw[e];exact h
    ·exact hall m (by omega)
   clear hx hix hfd hall
   by_cases hx0:x<0
   ·cases hv:(s.b != 0)
    ·have hstep:Hid (∀m,m<1+1→bF s m=true):=hnx.out (hok.out (oR (by simpa using hv)))
     go_wp2_with (first|(go_at_call 177;(refine cM (show Calls _ _ _ _ _ from hixH.out) ?_);rintro e w' ⟨rfl,rfl⟩)|(go_at_call 88;(refine cM (show Calls _ _ _ _ _ from hfdH.out) ?_);rintro e w' ⟨rfl,rfl⟩))
     go_roundw
     case rel=>exact ⟨1+1,by omega,by go_num,hstep,by trivial⟩
     case measure=>simp[intOf]
    ·have hfin:Hid (aK s=false):=hno.out hx0 (by simpa using hv)
     go_wp2_with (first|(go_at_call 177;(refine cM (show Calls _ _ _ _ _ from hixH.out) ?_);rintro e w' ⟨rfl,rfl⟩)|(go_at_call 88;(refine cM (show Calls _ _ _ _ _ from hfdH.out) ?_);rintro e w' ⟨rfl,rfl⟩))
     go_ret
     exact ⟨by rw[hfin.out];rfl,hg0⟩
   ·have hstep:Hid (∀m,m<1+1→bF s m=true):=hnx.out (hok.out (oL (by omega)))
    go_wp2_with (first|(go_at_call 177;(refine cM (show Calls _ _ _ _ _ from hixH.out) ?_);rintro e w' ⟨rfl,rfl⟩)|(go_at_call 88;(refine cM (show Calls _ _ _ _ _ from hfdH.out) ?_);rintro e w' ⟨rfl,rfl⟩))
    go_roundw
    case rel=>exact ⟨1+1,by omega,by go_num,hstep,by trivial⟩
    case measure=>simp[intOf]
  ·have cj:(w.alloc (.cells #[.int .i64 s.k,.int .i64 s.a,.int .i64 s.b,.int .i64 s.c,.int .i64 s.o,.int .i64 s.v,.slice s.p s.l.length s.n] 105)).cell? ⟨w.heap.size,3,none⟩=some (.int .i64 s.c):=aa (gR _) rfl
   obtain ⟨x,hx⟩:∃x,Lib.indexByte (bf s.k) 67=x:=⟨_,rfl⟩
   have hix:=cS (bf s.k) 67 (w.alloc (.cells #[.int .i64 s.k,.int .i64 s.a,.int .i64 s.b,.int .i64 s.c,.int .i64 s.o,.int .i64 s.v,.slice s.p s.l.length s.n] 105))
   have hfd:=eN w.heap.size 67 (w.alloc (.cells #[.int .i64 s.k,.int .i64 s.a,.int .i64 s.b,.int .i64 s.c,.int .i64 s.o,.int .i64 s.v,.slice s.p s.l.length s.n] 105))
   rw[hx] at hix
   have hixH:Hid (Calls Tryz.prog 177 #[.string ⟨(bf s.k).toArray⟩,.int .u8 67] _ _):=hix
   have hfdH:Hid (Calls Tryz.prog 88 _ _ fun e w'=>e= .returned (.pointer (some ⟨w.heap.size,3,none⟩))∧w'=_):=hfd
   have hok:Hid ((0≤x∨s.c=0)→bF s 2=true):=fun h=>by
    show (decide (0≤Lib.indexByte (bf s.k) 67) || decide (s.c=0))=true
    rw[hx];simpa using h
   have hno:Hid (x<0→s.c≠0→aK s=false):=fun h1 h2=>gG (j:=2) (by omega) (by
    show (decide (0≤Lib.indexByte (bf s.k) 67) || decide (s.c=0))=false
    rw[hx];simp[h2];omega)
   have hnx:Hid (bF s 2=true→∀m,m<2+1→bF s m=true):=fun h m hm=>by
    by_cases e:m=2
    ·rw[e];exact h
    ·exact hall m (by omega)
   clear hx hix hfd hall
   by_cases hx0:x<0
   ·cases hv:(s.c != 0)
    ·have hstep:Hid (∀m,m<2+1→bF s m=true):=hnx.out (hok.out (oR (by simpa using hv)))
     go_wp2_with (first|(go_at_call 177;(refine cM (show Calls _ _ _ _ _ from hixH.out) ?_);rintro e w' ⟨rfl,rfl⟩)|(go_at_call 88;(refine cM (show Calls _ _ _ _ _ from hfdH.out) ?_);rintro e w' ⟨rfl,rfl⟩))
     go_roundw
     case rel=>exact ⟨2+1,by omega,by go_num,hstep,by trivial⟩
     case measure=>simp[intOf]
    ·have hfin:Hid (aK s=false):=hno.out hx0 (by simpa using hv)
     go_wp2_with (first|(go_at_call 177;(refine cM (show Calls _ _ _ _ _ from hixH.out) ?_);rintro e w' ⟨rfl,rfl⟩)|(go_at_call 88;(refine cM (show Calls _ _ _ _ _ from hfdH.out) ?_);rintro e w' ⟨rfl,rfl⟩))
     go_ret
     exact ⟨by rw[hfin.out];rfl,hg0⟩
   ·have hstep:Hid (∀m,m<2+1→bF s m=true):=hnx.out (hok.out (oL (by omega)))
    go_wp2_with (first|(go_at_call 177;(refine cM (show Calls _ _ _ _ _ from hixH.out) ?_);rintro e w' ⟨rfl,rfl⟩)|(go_at_call 88;(refine cM (show Calls _ _ _ _ _ from hfdH.out) ?_);rintro e w' ⟨rfl,rfl⟩))
    go_roundw
    case rel=>exact ⟨2+1,by omega,by go_num,hstep,by trivial⟩
    case measure=>simp[intOf]
  ·have cj:(w.alloc (.cells #[.int .i64 s.k,.int .i64 s.a,.int .i64 s.b,.int .i64 s.c,.int .i64 s.o,.int .i64 s.v,.slice s.p s.l.length s.n] 105)).cell? ⟨w.heap.size,4,none⟩=some (.int .i64 s.o):=aa (gR _) rfl
   obtain ⟨x,hx⟩:∃x,Lib.indexByte (bf s.k) 79=x:=⟨_,rfl⟩
   have hix:=cS (bf s.k) 79 (w.alloc (.cells #[.int .i64 s.k,.int .i64 s.a,.int .i64 s.b,.int .i64 s.c,.int .i64 s.o,.int .i64 s.v,.slice s.p s.l.length s.n] 105))
   have hfd:=eN w.heap.size 79 (w.alloc (.cells #[.int .i64 s.k,.int .i64 s.a,.int .i64 s.b,.int .i64 s.c,.int .i64 s.o,.int .i64 s.v,.slice s.p s.l.length s.n] 105))
   rw[hx] at hix
   have hixH:Hid (Calls Tryz.prog 177 #[.string ⟨(bf s.k).toArray⟩,.int .u8 79] _ _):=hix
   have hfdH:Hid (Calls Tryz.prog 88 _ _ fun e w'=>e= .returned (.pointer (some ⟨w.heap.size,4,none⟩))∧w'=_):=hfd
   have hok:Hid ((0≤x∨s.o=0)→bF s 3=true):=fun h=>by
    show (decide (0≤Lib.indexByte (bf s.k) 79) || decide (s.o=0))=true
    rw[hx];simpa using h
   have hno:Hid (x<0→s.o≠0→aK s=false):=fun h1 h2=>gG (j:=3) (by omega) (by
    show (decide (0≤Lib.indexByte (bf s.k) 79) || decide (s.o=0))=false
    rw[hx];simp[h2];omega)
   have hnx:Hid (bF s 3=true→∀m,m<3+1→bF s m=true):=fun h m hm=>by
    by_cases e:m=3
    ·rw[e];exact h
    ·exact hall m (by omega)
   clear hx hix hfd hall
   by_cases hx0:x<0
   ·cases hv:(s.o != 0)
    ·have hstep:Hid (∀m,m<3+1→bF s m=true):=hnx.out (hok.out (oR (by simpa using hv)))
     go_wp2_with (first|(go_at_call 177;(refine cM (show Calls _ _ _ _ _ from hixH.out) ?_);rintro e w' ⟨rfl,rfl⟩)|(go_at_call 88;(refine cM (show Calls _ _ _ _ _ from hfdH.out) ?_);rintro e w' ⟨rfl,rfl⟩))
     go_roundw
     case rel=>exact ⟨3+1,by omega,by go_num,hstep,by trivial⟩
     case measure=>simp[intOf]
    ·have hfin:Hid (aK s=false):=hno.out hx0 (by simpa using hv)
     go_wp2_with (first|(go_at_call 177;(refine cM (show Calls _ _ _ _ _ from hixH.out) ?_);rintro e w' ⟨rfl,rfl⟩)|(go_at_call 88;(refine cM (show Calls _ _ _ _ _ from hfdH.out) ?_);rintro e w' ⟨rfl,rfl⟩))
     go_ret
     exact ⟨by rw[hfin.out];rfl,hg0⟩
   ·have hstep:Hid (∀m,m<3+1→bF s m=true):=hnx.out (hok.out (oL (by omega)))
    go_wp2_with (first|(go_at_call 177;(refine cM (show Calls _ _ _ _ _ from hixH.out) ?_);rintro e w' ⟨rfl,rfl⟩)|(go_at_call 88;(refine cM (show Calls _ _ _ _ _ from hfdH.out) ?_);rintro e w' ⟨rfl,rfl⟩))
    go_roundw
    case rel=>exact ⟨3+1,by omega,by go_num,hstep,by trivial⟩
    case measure=>simp[intOf]
  ·have cj:(w.alloc (.cells #[.int .i64 s.k,.int .i64 s.a,.int .i64 s.b,.int .i64 s.c,.int .i64 s.o,.int .i64 s.v,.slice s.p s.l.length s.n] 105)).cell? ⟨w.heap.size,5,none⟩=some (.int .i64 s.v):=aa (gR _) rfl
   obtain ⟨x,hx⟩:∃x,Lib.indexByte (bf s.k) 86=x:=⟨_,rfl⟩
   have hix:=cS (bf s.k) 86 (w.alloc (.cells #[.int .i64 s.k,.int .i64 s.a,.int .i64 s.b,.int .i64 s.c,.int .i64 s.o,.int .i64 s.v,.slice s.p s.l.length s.n] 105))
   have hfd:=eN w.heap.size 86 (w.alloc (.cells #[.int .i64 s.k,.int .i64 s.a,.int .i64 s.b,.int .i64 s.c,.int .i64 s.o,.int .i64 s.v,.slice s.p s.l.length s.n] 105))
   rw[hx] at hix
   have hixH:Hid (Calls Tryz.prog 177 #[.string ⟨(bf s.k).toArray⟩,.int .u8 86] _ _):=hix
   have hfdH:Hid (Calls Tryz.prog 88 _ _ fun e w'=>e= .returned (.pointer (some ⟨w.heap.size,5,none⟩))∧w'=_):=hfd
   have hok:Hid ((0≤x∨s.v=0)→bF s 4=true):=fun h=>by
    show (decide (0≤Lib.indexByte (bf s.k) 86) || decide (s.v=0))=true
    rw[hx];simpa using h
   have hno:Hid (x<0→s.v≠0→aK s=false):=fun h1 h2=>gG (j:=4) (by omega) (by
    show (decide (0≤Lib.indexByte (bf s.k) 86) || decide (s.v=0))=false
    rw[hx];simp[h2];omega)
   have hnx:Hid (bF s 4=true→∀m,m<4+1→bF s m=true):=fun h m hm=>by
    by_cases e:m=4
    ·rw[e];exact h
    ·exact hall m (by omega)
   clear hx hix hfd hall
   by_cases hx0:x<0
   ·cases hv:(s.v != 0)
    ·have hstep:Hid (∀m,m<4+1→bF s m=true):=hnx.out (hok.out (oR (by simpa using hv)))
     go_wp2_with (first|(go_at_call 177;(refine cM (show Calls _ _ _ _ _ from hixH.out) ?_);rintro e w' ⟨rfl,rfl⟩)|(go_at_call 88;(refine cM (show Calls _ _ _ _ _ from hfdH.out) ?_);rintro e w' ⟨rfl,rfl⟩))
     go_roundw
     case rel=>exact ⟨4+1,by omega,by go_num,hstep,by trivial⟩
     case measure=>simp[intOf]
    ·have hfin:Hid (aK s=false):=hno.out hx0 (by simpa using hv)
     go_wp2_with (first|(go_at_call 177;(refine cM (show Calls _ _ _ _ _ from hixH.out) ?_);rintro e w' ⟨rfl,rfl⟩)|(go_at_call 88;(refine cM (show Calls _ _ _ _ _ from hfdH.out) ?_);rintro e w' ⟨rfl,rfl⟩))
     go_ret
     exact ⟨by rw[hfin.out];rfl,hg0⟩
   ·have hstep:Hid (∀m,m<4+1→bF s m=true):=hnx.out (hok.out (oL (by omega)))
    go_wp2_with (first|(go_at_call 177;(refine cM (show Calls _ _ _ _ _ from hixH.out) ?_);rintro e w' ⟨rfl,rfl⟩)|(go_at_call 88;(refine cM (show Calls _ _ _ _ _ from hfdH.out) ?_);rintro e w' ⟨rfl,rfl⟩))
    go_roundw
    case rel=>exact ⟨4+1,by omega,by go_num,hstep,by trivial⟩
    case measure=>simp[intOf]
  ·have c6:(w.alloc (.cells #[.int .i64 s.k,.int .i64 s.a,.int .i64 s.b,.int .i64 s.c,.int .i64 s.o,.int .i64 s.v,.slice s.p s.l.length s.n] 105)).cell? ⟨w.heap.size,6,none⟩=some (.slice s.p s.l.length s.n):=aa (gR _) rfl
   obtain ⟨x,hx⟩:∃x,Lib.indexByte (bf s.k) 76=x:=⟨_,rfl⟩
   have hix:=cS (bf s.k) 76 (w.alloc (.cells #[.int .i64 s.k,.int .i64 s.a,.int .i64 s.b,.int .i64 s.c,.int .i64 s.o,.int .i64 s.v,.slice s.p s.l.length s.n] 105))
   rw[hx] at hix
   have hixH:Hid (Calls Tryz.prog 177 #[.string ⟨(bf s.k).toArray⟩,.int .u8 76] _ _):=hix
   have hend:Hid (aK s=(decide (0≤x) || s.l.isEmpty)):=by
    show _=_
    unfold aK
    rw[List.all_eq_true.2 fun m hm=>hall m (List.mem_range.1 hm)]
    show (true && (decide (0≤Lib.indexByte (bf s.k) 76) || s.l.isEmpty))=_
    rw[hx];simp
   clear hx hix hall
   by_cases hx0:0≤x
   ·have hfin:Hid (aK s=true):=by show _=_;rw[hend.out];simp[hx0]
    go_wp2_with (go_at_call 177;(refine cM (show Calls _ _ _ _ _ from hixH.out) ?_);rintro e w' ⟨rfl,rfl⟩)
    go_ret
    exact ⟨by rw[hfin.out];rfl,hg0⟩
   ·by_cases hl0:s.l=[]
    ·have hfin:Hid (aK s=true):=by show _=_;rw[hend.out,hl0];simp
     have hl00:((s.l.length:Int)==0)=true:=by rw[hl0];rfl
     clear hl0
     go_wp2_with (go_at_call 177;(refine cM (show Calls _ _ _ _ _ from hixH.out) ?_);rintro e w' ⟨rfl,rfl⟩)
     go_ret
     exact ⟨by rw[hfin.out];rfl,hg0⟩
    ·have hfin:Hid (aK s=false):=by show _=_;rw[hend.out];simp[hl0];omega
     have hl00:((s.l.length:Int)==0)=false:=by
      have:=List.length_pos_iff.2 hl0
      simp;omega
     have hxd:decide (0≤x)=false:=by simpa using hx0
     clear hl0
     go_wp2_with (go_at_call 177;(refine cM (show Calls _ _ _ _ _ from hixH.out) ?_);rintro e w' ⟨rfl,rfl⟩)
     go_ret
     exact ⟨by rw[hfin.out,←hxd];rfl,hg0⟩


def cz (s:Stp) (a:Int):Int:=if s.k=2 then (if belowB s.c a && opB s.o && kE s.v then a else 0) else if s.k=3 then (if decide (s.l.length≤8) && s.l.all (fun n=>belowB n a) then s.l.length else 0) else if s.k=7 then a else if s.k=8 then (if belowB s.c a then 2 else 0) else if s.k=9 then (if belowB s.c a && belowB s.v a then 2 else 0) else 0
def dq (s:Stp) (a b:Int):Int:=if s.k=4 then (if belowB s.c a && belowB s.v b && decide (a+b≤8) then a+b else 0) else if s.k=5 then (if a=b then a else 0) else if s.k=6 then (if a=b then a else 0) else 0
theorem bE {n k:Int} {r:Bool} (h:belowB n k=r) (w:World):Calls Tryz.prog 126 #[.int .i64 n,.int .i64 k] w fun e w'=>e= .returned (.bool r)∧w'=w:=by rw[←h];exact gz n k w
theorem zs {n:Int} {r:Bool} (h:opB n=r) (w:World):Calls Tryz.prog 178 #[.int .i64 n] w fun e w'=>e= .returned (.bool r)∧w'=w:=by rw[←h];exact ug n w
theorem xq {n:Int} {r:Bool} (h:kE n=r) (w:World):Calls Tryz.prog 179 #[.int .i64 n] w fun e w'=>e= .returned (.bool r)∧w'=w:=by rw[←h];exact nQ n w

theorem uZ (s:Stp) (a:Int) (w:World) (hl:s.l.length≤maxLen) (hr:ay w s.p s.l) :
  Calls Tryz.prog 128 #[.agg #[.int .i64 s.k,.int .i64 s.a,.int .i64 s.b,.int .i64 s.c,.int .i64 s.o,.int .i64 s.v,.slice s.p s.l.length s.n],.int .i64 a] w fun e w'=>e= .returned (.int .i64 (cz s a))∧Gr w w':=by
 obtain ⟨W,hW⟩:∃W,w.alloc (.cells #[.int .i64 s.k,.int .i64 s.a,.int .i64 s.b,.int .i64 s.c,.int .i64 s.o,.int .i64 s.v,.slice s.p s.l.length s.n] 105)=W:=⟨_,rfl⟩
 have hg0:Gr w W:=by rw[←hW];exact (gR w).alloc _
 have c0:W.cell? ⟨w.heap.size,0,none⟩=some (.int .i64 s.k):=by rw[←hW];exact aa (gR _) rfl
 have c1:W.cell? ⟨w.heap.size,1,none⟩=some (.int .i64 s.a):=by rw[←hW];exact aa (gR _) rfl
 have c2:W.cell? ⟨w.heap.size,2,none⟩=some (.int .i64 s.b):=by rw[←hW];exact aa (gR _) rfl
 have c3:W.cell? ⟨w.heap.size,3,none⟩=some (.int .i64 s.c):=by rw[←hW];exact aa (gR _) rfl
 have c4:W.cell? ⟨w.heap.size,4,none⟩=some (.int .i64 s.o):=by rw[←hW];exact aa (gR _) rfl
 have c5:W.cell? ⟨w.heap.size,5,none⟩=some (.int .i64 s.v):=by rw[←hW];exact aa (gR _) rfl
 have c6:W.cell? ⟨w.heap.size,6,none⟩=some (.slice s.p s.l.length s.n):=by rw[←hW];exact aa (gR _) rfl
 have hrH:Hid (ay W s.p s.l∧s.l.length≤maxLen):=⟨hr.gr hg0,hl⟩
 clear hr hl
 by_cases hk:s.k=2
 ·skip
  have e0:W.cell? ⟨w.heap.size,0,none⟩=some (.int .i64 2):=by rw[←hk];exact c0
  clear c0
  cases h1:belowB s.c a
  ·have hfin:Hid (cz s a=0):=by show _=_;unfold cz;rw[if_pos hk];simp[*]
   have zh1H:Hid (Calls Tryz.prog 126 #[.int .i64 s.c,.int .i64 a] W fun e w'=>e= .returned (.bool false)∧w'=W):=bE h1 W
   clear hk
   go_enter Tryz.func128,Tryz.ntmps128
   go_wp2_with (go_at_call 126;(with_reducible refine cM zh1H.out ?_);rintro e w' ⟨rfl,hw'⟩;subst w')
   go_ret
   exact ⟨by rw[hfin.out];rfl,hg0⟩
  ·have zh1H:Hid (Calls Tryz.prog 126 #[.int .i64 s.c,.int .i64 a] W fun e w'=>e= .returned (.bool true)∧w'=W):=bE h1 W
   cases h2:opB s.o
   ·have hfin:Hid (cz s a=0):=by show _=_;unfold cz;rw[if_pos hk];simp[*]
    have zh2H:Hid (Calls Tryz.prog 178 #[.int .i64 s.o] W fun e w'=>e= .returned (.bool false)∧w'=W):=zs h2 W
    clear hk
    go_enter Tryz.func128,Tryz.ntmps128
    go_wp2_with (first|(go_at_call 126;(with_reducible refine cM zh1H.out ?_);rintro e w' ⟨rfl,hw'⟩;subst w')|(go_at_call 178;(with_reducible refine cM zh2H.out ?_);rintro e w' ⟨rfl,hw'⟩;subst w'))
    go_ret
    exact ⟨by rw[hfin.out];rfl,hg0⟩
   ·have zh2H:Hid (Calls Tryz.prog 178 #[.int .i64 s.o] W fun e w'=>e= .returned (.bool true)∧w'=W):=zs h2 W
    cases h3:kE s.v
    ·have hfin:Hid (cz s a=0):=by show _=_;unfold cz;rw[if_pos hk];simp[*]
     have zh3H:Hid (Calls Tryz.prog 179 #[.int .i64 s.v] W fun e w'=>e= .returned (.bool false)∧w'=W):=xq h3 W
     clear hk
     go_enter Tryz.func128,Tryz.ntmps128
     go_wp2_with (first|(go_at_call 126;(with_reducible refine cM zh1H.out ?_);rintro e w' ⟨rfl,hw'⟩;subst w')|(go_at_call 178;(with_reducible refine cM zh2H.out ?_);rintro e w' ⟨rfl,hw'⟩;subst w')|(go_at_call 179;(with_reducible refine cM zh3H.out ?_);rintro e w' ⟨rfl,hw'⟩;subst w'))
     go_ret
     exact ⟨by rw[hfin.out];rfl,hg0⟩
    ·have zh3H:Hid (Calls Tryz.prog 179 #[.int .i64 s.v] W fun e w'=>e= .returned (.bool true)∧w'=W):=xq h3 W
     have hfin:Hid (cz s a=a):=by show _=_;unfold cz;rw[if_pos hk];simp[h1,h2,h3]
     clear hk
     go_enter Tryz.func128,Tryz.ntmps128
     go_wp2_with (first|(go_at_call 126;(with_reducible refine cM zh1H.out ?_);rintro e w' ⟨rfl,hw'⟩;subst w')|(go_at_call 178;(with_reducible refine cM zh2H.out ?_);rintro e w' ⟨rfl,hw'⟩;subst w')|(go_at_call 179;(with_reducible refine cM zh3H.out ?_);rintro e w' ⟨rfl,hw'⟩;subst w'))
     go_ret
     exact ⟨by rw[hfin.out];rfl,hg0⟩
 by_cases hk:s.k=3
 ·skip
  have e0:W.cell? ⟨w.heap.size,0,none⟩=some (.int .i64 3):=by rw[←hk];exact c0
  clear c0
  have har:=nM s.l a s.p s.n W hrH.out.2 hrH.out.1
  by_cases h8:s.l.length≤8
  ·have h8z:(s.l.length:Int)≤8:=by omega
   cases h1:s.l.all (fun n=>belowB n a)
   ·have hfin:Hid (cz s a=0):=by show _=_;unfold cz;rw[if_neg (by omega:¬s.k=2),if_pos hk];simp[h1]
    rw[h1] at har
    have harH:Hid _:=har
    clear har hk
    go_enter Tryz.func128,Tryz.ntmps128
    go_wp2_with fail
    refine cM (show Calls _ _ _ _ _ from harH.out) ?_
    rintro e w2 ⟨rfl,hg2⟩
    have d6:w2.cell? ⟨w.heap.size,6,none⟩=some (.slice s.p s.l.length s.n):=(hg2.cell (p:=⟨w.heap.size,6,none⟩) (by rw[←hW];simp)).trans c6
    clear harH c1 c2 c3 c4 c5 c6 e0
    go_wp2
    go_ret
    exact ⟨by rw[hfin.out];rfl,hg0.trans hg2⟩
   ·have hfin:Hid (cz s a=s.l.length):=by show _=_;unfold cz;rw[if_neg (by omega:¬s.k=2),if_pos hk];simp[h1,h8]
    rw[h1] at har
    have harH:Hid _:=har
    clear har hk
    go_enter Tryz.func128,Tryz.ntmps128
    go_wp2_with fail
    refine cM (show Calls _ _ _ _ _ from harH.out) ?_
    rintro e w2 ⟨rfl,hg2⟩
    have d6:w2.cell? ⟨w.heap.size,6,none⟩=some (.slice s.p s.l.length s.n):=(hg2.cell (p:=⟨w.heap.size,6,none⟩) (by rw[←hW];simp)).trans c6
    clear harH c1 c2 c3 c4 c5 c6 e0
    go_wp2
    go_ret
    exact ⟨by rw[hfin.out];rfl,hg0.trans hg2⟩
  ·have h8z:¬(s.l.length:Int)≤8:=by omega
   have hfin:Hid (cz s a=0):=by show _=_;unfold cz;rw[if_neg (by omega:¬s.k=2),if_pos hk];simp[h8]
   clear har hk
   go_enter Tryz.func128,Tryz.ntmps128
   go_wp2
   go_ret
   exact ⟨by rw[hfin.out];rfl,hg0⟩
 by_cases hk:s.k=7
 ·skip
  have e0:W.cell? ⟨w.heap.size,0,none⟩=some (.int .i64 7):=by rw[←hk];exact c0
  clear c0
  have hfin:Hid (cz s a=a):=by show _=_;unfold cz;rw[if_neg (by omega:¬s.k=2),if_neg (by omega:¬s.k=3),if_pos hk]
  clear hk
  go_enter Tryz.func128,Tryz.ntmps128
  go_wp2
  go_ret
  exact ⟨by rw[hfin.out];rfl,hg0⟩
 by_cases hk:s.k=8
 ·skip
  have e0:W.cell? ⟨w.heap.size,0,none⟩=some (.int .i64 8):=by rw[←hk];exact c0
  clear c0
  cases h1:belowB s.c a
  ·have hfin:Hid (cz s a=0):=by show _=_;unfold cz;rw[if_neg (by omega:¬s.k=2),if_neg (by omega:¬s.k=3),if_neg (by omega:¬s.k=7),if_pos hk];simp[*]
   have zh1H:Hid (Calls Tryz.prog 126 #[.int .i64 s.c,.int .i64 a] W fun e w'=>e= .returned (.bool false)∧w'=W):=bE h1 W
   clear hk
   go_enter Tryz.func128,Tryz.ntmps128
   go_wp2_with (go_at_call 126;(with_reducible refine cM zh1H.out ?_);rintro e w' ⟨rfl,hw'⟩;subst w')
   go_ret
   exact ⟨by rw[hfin.out];rfl,hg0⟩
  ·have zh1H:Hid (Calls Tryz.prog 126 #[.int .i64 s.c,.int .i64 a] W fun e w'=>e= .returned (.bool true)∧w'=W):=bE h1 W
   have hfin:Hid (cz s a=2):=by show _=_;unfold cz;rw[if_neg (by omega:¬s.k=2),if_neg (by omega:¬s.k=3),if_neg (by omega:¬s.k=7),if_pos hk];simp[h1]
   clear hk
   go_enter Tryz.func128,Tryz.ntmps128
   go_wp2_with (go_at_call 126;(with_reducible refine cM zh1H.out ?_);rintro e w' ⟨rfl,hw'⟩;subst w')
   go_ret
   exact ⟨by rw[hfin.out];rfl,hg0⟩
 by_cases hk:s.k=9
 ·skip
  have e0:W.cell? ⟨w.heap.size,0,none⟩=some (.int .i64 9):=by rw[←hk];exact c0
  clear c0
  cases h1:belowB s.c a
  ·have hfin:Hid (cz s a=0):=by show _=_;unfold cz;rw[if_neg (by omega:¬s.k=2),if_neg (by omega:¬s.k=3),if_neg (by omega:¬s.k=7),if_neg (by omega:¬s.k=8),if_pos hk];simp[*]
   have zh1H:Hid (Calls Tryz.prog 126 #[.int .i64 s.c,.int .i64 a] W fun e w'=>e= .returned (.bool false)∧w'=W):=bE h1 W
   clear hk
   go_enter Tryz.func128,Tryz.ntmps128
   go_wp2_with (go_at_call 126;(with_reducible refine cM zh1H.out ?_);rintro e w' ⟨rfl,hw'⟩;subst w')
   go_ret
   exact ⟨by rw[hfin.out];rfl,hg0⟩
  ·have zh1H:Hid (Calls Tryz.prog 126 #[.int .i64 s.c,.int .i64 a] W fun e w'=>e= .returned (.bool true)∧w'=W):=bE h1 W
   cases h2:belowB s.v a
   ·have hfin:Hid (cz s a=0):=by show _=_;unfold cz;rw[if_neg (by omega:¬s.k=2),if_neg (by omega:¬s.k=3),if_neg (by omega:¬s.k=7),if_neg (by omega:¬s.k=8),if_pos hk];simp[*]
    have zh2H:Hid (Calls Tryz.prog 126 #[.int .i64 s.v,.int .i64 a] W fun e w'=>e= .returned (.bool false)∧w'=W):=bE h2 W
    clear hk
    go_enter Tryz.func128,Tryz.ntmps128
    go_wp2_with (first|(go_at_call 126;(with_reducible refine cM zh1H.out ?_);rintro e w' ⟨rfl,hw'⟩;subst w')|(go_at_call 126;(with_reducible refine cM zh2H.out ?_);rintro e w' ⟨rfl,hw'⟩;subst w'))
    go_ret
    exact ⟨by rw[hfin.out];rfl,hg0⟩
   ·have zh2H:Hid (Calls Tryz.prog 126 #[.int .i64 s.v,.int .i64 a] W fun e w'=>e= .returned (.bool true)∧w'=W):=bE h2 W
    have hfin:Hid (cz s a=2):=by show _=_;unfold cz;rw[if_neg (by omega:¬s.k=2),if_neg (by omega:¬s.k=3),if_neg (by omega:¬s.k=7),if_neg (by omega:¬s.k=8),if_pos hk];simp[h1,h2]
    clear hk
    go_enter Tryz.func128,Tryz.ntmps128
    go_wp2_with (first|(go_at_call 126;(with_reducible refine cM zh1H.out ?_);rintro e w' ⟨rfl,hw'⟩;subst w')|(go_at_call 126;(with_reducible refine cM zh2H.out ?_);rintro e w' ⟨rfl,hw'⟩;subst w'))
    go_ret
    exact ⟨by rw[hfin.out];rfl,hg0⟩
 have hfin:Hid (cz s a=0):=by show _=_;unfold cz;rw[if_neg (by assumption:¬s.k=2),if_neg (by assumption:¬s.k=3),if_neg (by assumption:¬s.k=7),if_neg (by assumption:¬s.k=8),if_neg (by assumption:¬s.k=9)]
 have q2:(s.k==2)=false:=by simp;omega
 have q3:(s.k==3)=false:=by simp;omega
 have q7:(s.k==7)=false:=by simp;omega
 have q8:(s.k==8)=false:=by simp;omega
 have q9:(s.k==9)=false:=by simp;omega
 go_enter Tryz.func128,Tryz.ntmps128
 go_wp2
 go_ret
 exact ⟨by rw[hfin.out];rfl,hg0⟩

theorem tR (s:Stp) (a b:Int) (w:World) (ha:0≤a∧a≤8) (hb:0≤b∧b≤8) :
  Calls Tryz.prog 127 #[.agg #[.int .i64 s.k,.int .i64 s.a,.int .i64 s.b,.int .i64 s.c,.int .i64 s.o,.int .i64 s.v,.slice s.p s.l.length s.n],.int .i64 a,.int .i64 b] w fun e w'=>e= .returned (.int .i64 (dq s a b))∧Gr w w':=by
 obtain ⟨W,hW⟩:∃W,w.alloc (.cells #[.int .i64 s.k,.int .i64 s.a,.int .i64 s.b,.int .i64 s.c,.int .i64 s.o,.int .i64 s.v,.slice s.p s.l.length s.n] 105)=W:=⟨_,rfl⟩
 have hg0:Gr w W:=by rw[←hW];exact (gR w).alloc _
 have hab:IntKind.i64.wrap (a+b)=a+b:=by rw[IntKind.wrap_i64];omega
 have c0:W.cell? ⟨w.heap.size,0,none⟩=some (.int .i64 s.k):=by rw[←hW];exact aa (gR _) rfl
 have c1:W.cell? ⟨w.heap.size,1,none⟩=some (.int .i64 s.a):=by rw[←hW];exact aa (gR _) rfl
 have c2:W.cell? ⟨w.heap.size,2,none⟩=some (.int .i64 s.b):=by rw[←hW];exact aa (gR _) rfl
 have c3:W.cell? ⟨w.heap.size,3,none⟩=some (.int .i64 s.c):=by rw[←hW];exact aa (gR _) rfl
 have c4:W.cell? ⟨w.heap.size,4,none⟩=some (.int .i64 s.o):=by rw[←hW];exact aa (gR _) rfl
 have c5:W.cell? ⟨w.heap.size,5,none⟩=some (.int .i64 s.v):=by rw[←hW];exact aa (gR _) rfl
 by_cases hk:s.k=4
 ·skip
  have e0:W.cell? ⟨w.heap.size,0,none⟩=some (.int .i64 4):=by rw[←hk];exact c0
  clear c0
  by_cases h8:a+b≤8
  ·skip
   cases h1:belowB s.c a
   ·have hfin:Hid (dq s a b=0):=by show _=_;unfold dq;rw[if_pos hk];simp[*]
    have zh1H:Hid (Calls Tryz.prog 126 #[.int .i64 s.c,.int .i64 a] W fun e w'=>e= .returned (.bool false)∧w'=W):=bE h1 W
    clear hk
    go_enter Tryz.func127,Tryz.ntmps127
    go_wp2_with (go_at_call 126;(with_reducible refine cM zh1H.out ?_);rintro e w' ⟨rfl,hw'⟩;subst w')
    go_ret
    exact ⟨by rw[hfin.out];rfl,hg0⟩
   ·have zh1H:Hid (Calls Tryz.prog 126 #[.int .i64 s.c,.int .i64 a] W fun e w'=>e= .returned (.bool true)∧w'=W):=bE h1 W
    cases h2:belowB s.v b
    ·have hfin:Hid (dq s a b=0):=by show _=_;unfold dq;rw[if_pos hk];simp[*]
     have zh2H:Hid (Calls Tryz.prog 126 #[.int .i64 s.v,.int .i64 b] W fun e w'=>e= .returned (.bool false)∧w'=W):=bE h2 W
     clear hk
     go_enter Tryz.func127,Tryz.ntmps127
     go_wp2_with (first|(go_at_call 126;(with_reducible refine cM zh1H.out ?_);rintro e w' ⟨rfl,hw'⟩;subst w')|(go_at_call 126;(with_reducible refine cM zh2H.out ?_);rintro e w' ⟨rfl,hw'⟩;subst w'))
     go_ret
     exact ⟨by rw[hfin.out];rfl,hg0⟩
    ·have zh2H:Hid (Calls Tryz.prog 126 #[.int .i64 s.v,.int .i64 b] W fun e w'=>e= .returned (.bool true)∧w'=W):=bE h2 W
     have hfin:Hid (dq s a b=a+b):=by show _=_;unfold dq;rw[if_pos hk];simp[h1,h2,h8]
     clear hk
     go_enter Tryz.func127,Tryz.ntmps127
     go_wp2_with (first|(go_at_call 126;(with_reducible refine cM zh1H.out ?_);rintro e w' ⟨rfl,hw'⟩;subst w')|(go_at_call 126;(with_reducible refine cM zh2H.out ?_);rintro e w' ⟨rfl,hw'⟩;subst w'))
     go_ret
     exact ⟨by rw[hfin.out];rfl,hg0⟩
  ·skip
   cases h1:belowB s.c a
   ·have hfin:Hid (dq s a b=0):=by show _=_;unfold dq;rw[if_pos hk];simp[*]
    have zh1H:Hid (Calls Tryz.prog 126 #[.int .i64 s.c,.int .i64 a] W fun e w'=>e= .returned (.bool false)∧w'=W):=bE h1 W
    clear hk
    go_enter Tryz.func127,Tryz.ntmps127
    go_wp2_with (go_at_call 126;(with_reducible refine cM zh1H.out ?_);rintro e w' ⟨rfl,hw'⟩;subst w')
    go_ret
    exact ⟨by rw[hfin.out];rfl,hg0⟩
   ·have zh1H:Hid (Calls Tryz.prog 126 #[.int .i64 s.c,.int .i64 a] W fun e w'=>e= .returned (.bool true)∧w'=W):=bE h1 W
    cases h2:belowB s.v b
    ·have hfin:Hid (dq s a b=0):=by show _=_;unfold dq;rw[if_pos hk];simp[*]
     have zh2H:Hid (Calls Tryz.prog 126 #[.int .i64 s.v,.int .i64 b] W fun e w'=>e= .returned (.bool false)∧w'=W):=bE h2 W
     clear hk
     go_enter Tryz.func127,Tryz.ntmps127
     go_wp2_with (first|(go_at_call 126;(with_reducible refine cM zh1H.out ?_);rintro e w' ⟨rfl,hw'⟩;subst w')|(go_at_call 126;(with_reducible refine cM zh2H.out ?_);rintro e w' ⟨rfl,hw'⟩;subst w'))
     go_ret
     exact ⟨by rw[hfin.out];rfl,hg0⟩
    ·have zh2H:Hid (Calls Tryz.prog 126 #[.int .i64 s.v,.int .i64 b] W fun e w'=>e= .returned (.bool true)∧w'=W):=bE h2 W
     have hfin:Hid (dq s a b=0):=by show _=_;unfold dq;rw[if_pos hk];simp[h8]
     clear hk
     go_enter Tryz.func127,Tryz.ntmps127
     go_wp2_with (first|(go_at_call 126;(with_reducible refine cM zh1H.out ?_);rintro e w' ⟨rfl,hw'⟩;subst w')|(go_at_call 126;(with_reducible refine cM zh2H.out ?_);rintro e w' ⟨rfl,hw'⟩;subst w'))
     go_ret
     exact ⟨by rw[hfin.out];rfl,hg0⟩
 by_cases hk:s.k=5
 ·skip
  have e0:W.cell? ⟨w.heap.size,0,none⟩=some (.int .i64 5):=by rw[←hk];exact c0
  clear c0
  by_cases hab2:a=b
  ·subst hab2
   have hfin:Hid (dq s a a=a):=by show _=_;unfold dq;rw[if_neg (by omega:¬s.k=4),if_pos hk];simp
   clear hk
   go_enter Tryz.func127,Tryz.ntmps127
   go_wp2
   go_ret
   exact ⟨by rw[hfin.out];rfl,hg0⟩
  ·have hfin:Hid (dq s a b=0):=by show _=_;unfold dq;rw[if_neg (by omega:¬s.k=4),if_pos hk];simp[hab2]
   have hqb:(a==b)=false:=by simpa using hab2
   clear hk hab2
   go_enter Tryz.func127,Tryz.ntmps127
   go_wp2
   go_ret
   exact ⟨by rw[hfin.out];rfl,hg0⟩
 by_cases hk:s.k=6
 ·skip
  have e0:W.cell? ⟨w.heap.size,0,none⟩=some (.int .i64 6):=by rw[←hk];exact c0
  clear c0
  by_cases hab2:a=b
  ·subst hab2
   have hfin:Hid (dq s a a=a):=by show _=_;unfold dq;rw[if_neg (by omega:¬s.k=4),if_neg (by omega:¬s.k=5),if_pos hk];simp
   clear hk
   go_enter Tryz.func127,Tryz.ntmps127
   go_wp2
   go_ret
   exact ⟨by rw[hfin.out];rfl,hg0⟩
  ·have hfin:Hid (dq s a b=0):=by show _=_;unfold dq;rw[if_neg (by omega:¬s.k=4),if_neg (by omega:¬s.k=5),if_pos hk];simp[hab2]
   have hqb:(a==b)=false:=by simpa using hab2
   clear hk hab2
   go_enter Tryz.func127,Tryz.ntmps127
   go_wp2
   go_ret
   exact ⟨by rw[hfin.out];rfl,hg0⟩
 have hfin:Hid (dq s a b=0):=by show _=_;unfold dq;rw[if_neg (by assumption:¬s.k=4),if_neg (by assumption:¬s.k=5),if_neg (by assumption:¬s.k=6)]
 have q4:(s.k==4)=false:=by simp;omega
 have q5:(s.k==5)=false:=by simp;omega
 have q6:(s.k==6)=false:=by simp;omega
 go_enter Tryz.func127,Tryz.ntmps127
 go_wp2
 go_ret
 exact ⟨by rw[hfin.out];rfl,hg0⟩

end Go.Proofs.YtckeonpnfankhaaGreatDoor
