/-
  What is handed in, opened: a row of numbers, a list of items.
  What is carried through the calls of viewkeep.ZsetGroup: lists of items, and what each call tells of them.
  Lists of numbers in memory.
  The library's strings.IndexByte: where its functions and types stand in this program.
  Steps of a query: what they are in memory; the small functions of package query.
  query.tellsItsPartsAlone: has a step nothing that its kind doesn't tell?
-/
import Derived.Test.YtfedpiamlpflhaaGreatDoorM07
import Derived.Shelf.Small.Strs
set_option maxRecDepth 100000
set_option maxHeartbeats 8000000
open Go.Ending renaming returned → J
open Go.IntKind renaming i64 → V
open Go.Obj renaming cells → Z
open Go.Proofs.Tryz renaming prog → S
open Go.Value renaming int → I, slice → O, string → Y, pointer → X, tuple → U, bool → K
namespace Go.Proofs.YtfedpiamlpflhaaGreatDoor
open Go.ChangeShapes Go.WideShapes Go.ChangeAt Go.RowKit Go.Deep

variable {H:Type} {enc:TypeId×Value→H} {W:World}

end Go.Proofs.YtfedpiamlpflhaaGreatDoor

namespace Go.Proofs.YtfedpiamlpflhaaGreatDoor
open Go.RowKit Go.Sort

theorem kA {L:List Itm} {m:List Zit} (h:L.map Itm.z=m) (hm:m.length≤400):L.length≤maxLen:=by
 have:L.length=m.length:=by rw[←h,List.length_map]
 unfold maxLen;omega
theorem sP (l:List Zit):(db l).length≤400:=by
 unfold db
 by_cases h:bX l=0
 ·rw[if_pos h];exact nT (jw l) (kd h).1
 ·rw[if_neg h];simp
theorem uT (l:List Zit):(gu l).length≤400:=by
 unfold gu
 by_cases h:av l=0
 ·rw[if_pos h,List.length_map];exact ((bw _).1 h).1
 ·rw[if_neg h];simp
theorem oj (a b:List Zit):(aN a b).length≤400:=by
 unfold aN
 by_cases h:aP a b=0
 ·rw[if_pos h]
  by_cases k:400<(cN (a++b)).length
  ·exfalso
   unfold aP at h
   by_cases h1:av a=0
   ·rw[if_pos h1] at h
    by_cases h2:av b=0
    ·rw[if_pos h2] at h
     by_cases h3:cZ (a++b)=0
     ·rw[if_pos h3,if_pos k] at h;cases h
     ·rw[if_neg h3] at h;exact h3 h
    ·rw[if_neg h2] at h;exact h2 h
   ·rw[if_neg h1] at h;exact h1 h
  ·omega
 ·rw[if_neg h];simp
theorem nS {W:World} {A:Option Addr} {c:Nat} {l:List Itm} (h:Lv W A c l) {m:List Zit} (hm:l.map Itm.z=m) :
  Calls S 82 #[O A l.length c] W fun e w'=>∃(L:List Itm) (C:Option Addr) (k:Nat),e= J (U #[O C L.length k,I V (bX m)])∧L.map Itm.z=db m∧Lv w' C k L∧Below W.heap.size W w'∧NwT w' k W.heap.size C L:=by
 subst hm
 refine (uZ l A c W h.len h.nil h.items).mono ?_
 rintro e w' ⟨L,C,k,h1,h2,h3,h4,h5⟩
 exact ⟨L,C,k,h1,h2,⟨h3,h4,kA h2 (sP _)⟩,h5⟩
theorem yZ {W:World} {A:Option Addr} {c:Nat} {l:List Itm} (h:Lv W A c l) {m:List Zit} (hm:l.map Itm.z=m) :
  Calls S 124 #[O A l.length c] W fun e w'=>∃(L:List Itm) (C:Option Addr) (k:Nat),e= J (U #[O C L.length k,I V (av m)])∧L.map Itm.z=gu m∧Lv w' C k L∧Below W.heap.size W w':=by
 subst hm
 refine (xe l A c W h.len h.items).mono ?_
 rintro e w' ⟨L,C,k,h1,h2,h3,h4,h5⟩
 exact ⟨L,C,k,h1,h2,⟨h3,h4,kA h2 (uT _)⟩,h5⟩
theorem yL {W:World} {A B:Option Addr} {c d:Nat} {l r:List Itm} (h:Lv W A c l) (h':Lv W B d r) {m n:List Zit} (hm:l.map Itm.z=m) (hn:r.map Itm.z=n) :
  Calls S 84 #[O A l.length c,O B r.length d] W fun e w'=>∃(L:List Itm) (C:Option Addr) (k:Nat),e= J (U #[O C L.length k,I V (aP m n)])∧L.map Itm.z=aN m n∧Lv w' C k L∧Below W.heap.size W w':=by
 subst hm
 subst hn
 refine (wg l r A B c d W h.len h'.len h.nil h'.nil h.items h'.items).mono ?_
 rintro e w' ⟨L,C,k,h1,h2,h3,h4,h5⟩
 exact ⟨L,C,k,h1,h2,⟨h3,h4,kA h2 (oj _ _)⟩,h5⟩
theorem ol {W:World} {A B:Option Addr} {c d:Nat} {l r:List Itm} (h:Lv W A c l) (h':Lv W B d r) {m n:List Zit} (hm:l.map Itm.z=m) (hn:r.map Itm.z=n) :
  Calls S 84 #[O A l.length c,O B r.length d] W fun e w'=>∃(L:List Itm) (C:Option Addr) (k:Nat),e= J (U #[O C L.length k,I V (aP m n)])∧L.map Itm.z=aN m n∧Lv w' C k L∧Below W.heap.size W w'∧NwT w' k W.heap.size C L:=by
 subst hm
 subst hn
 refine (rj l r A B c d W h.len h'.len h.nil h'.nil h.items h'.items).mono ?_
 rintro e w' ⟨L,C,k,h1,h2,h3,h4,h5⟩
 exact ⟨L,C,k,h1,h2,⟨h3,h4,kA h2 (oj _ _)⟩,h5⟩
theorem tV {W:World} {A:Option Addr} {c:Nat} {l:List Itm} (h:Lv W A c l) {m:List Zit} (hm:l.map Itm.z=m) :
  Calls S 81 #[O A l.length c] W fun e w'=>e= J (I V (av m))∧Gr W w':=by
 subst hm
 exact fR l A c W h.len h.items
end Go.Proofs.YtfedpiamlpflhaaGreatDoor



namespace Go.Proofs
open Go.Shelf
def Tryz.laysIndexByte_ren:Go.Shelf.Ren:=⟨fun|137=>153|217=>99|266=>144|n=>n,fun|9=>9|5=>5|3=>3|n=>n,fun|n=>n⟩
theorem Tryz.laysIndexByte:Go.Proofs.Lays.n137 S Tryz.laysIndexByte_ren:={
 mixed:=by kernel_rfl
 f137:=Tryz.func153.trans (congrArg some (by kernel_rfl))
 f217:=Tryz.func99.trans (congrArg some (by kernel_rfl))
 f266:=Tryz.func144.trans (congrArg some (by kernel_rfl))
 t3:=Tryz.underlying3
 a3:=Tryz.isAgg3
 z3:=Tryz.sizeOf3
 v3:=Tryz.zeroValue3
 t5:=Tryz.underlying5
 a5:=Tryz.isAgg5
 z5:=Tryz.sizeOf5
 v5:=Tryz.zeroValue5
 t9:=Tryz.underlying9
 a9:=Tryz.isAgg9
 z9:=Tryz.sizeOf9
 v9:=Tryz.zeroValue9 }
end Go.Proofs

namespace Go.Proofs.YtfedpiamlpflhaaGreatDoor
open Go.RowKit Go.Sort

def belowB (n k:Int):Bool:=decide (0≤n) && decide (n<k)
theorem gB (n k:Int) (w:World):Calls S 111 #[I V n,I V k] w fun e w'=>e= J (K (belowB n k))∧w'=w:=by
 by_cases h1:0≤n
 ·by_cases h2:n<k
  ·have e:belowB n k=true:=by simp[belowB];omega
   rw[e];clear e
   go_enter Tryz.func111,Tryz.ntmps111
   go_wp2
   go_ret
   exact ⟨rfl,rfl⟩
  ·have e:belowB n k=false:=by simp[belowB];omega
   rw[e];clear e
   go_enter Tryz.func111,Tryz.ntmps111
   go_wp2
   go_ret
   exact ⟨rfl,rfl⟩
 ·have e:belowB n k=false:=by simp[belowB];omega
  rw[e];clear e
  go_enter Tryz.func111,Tryz.ntmps111
  go_wp2
  go_ret
  exact ⟨rfl,rfl⟩
def opB (n:Int):Bool:=decide (n=1∨n=2∨n=3)
theorem uE (n:Int) (w:World):Calls S 154 #[I V n] w fun e w'=>e= J (K (opB n))∧w'=w:=by
 by_cases h1:n=1
 ·subst h1
  go_enter Tryz.func154,Tryz.ntmps154
  go_wp2
  go_ret
  exact ⟨rfl,rfl⟩
 ·by_cases h2:n=2
  ·subst h2
   go_enter Tryz.func154,Tryz.ntmps154
   go_wp2
   go_ret
   exact ⟨rfl,rfl⟩
  ·by_cases h3:n=3
   ·subst h3
    go_enter Tryz.func154,Tryz.ntmps154
    go_wp2
    go_ret
    exact ⟨rfl,rfl⟩
   ·have e:opB n=false:=by simp[opB];omega
    have e1:(n==1)=false:=by simpa using h1
    have e2:(n==2)=false:=by simpa using h2
    have e3:(n==3)=false:=by simpa using h3
    rw[e];clear e h1 h2 h3
    go_enter Tryz.func154,Tryz.ntmps154
    go_wp2
    go_ret
    exact ⟨rfl,rfl⟩
def lp (n:Int):Bool:=inB n (-1073741824) 1073741824
theorem nN (n:Int) (w:World):Calls S 155 #[I V n] w fun e w'=>e= J (K (lp n))∧w'=w:=by
 by_cases h1: -1073741824≤n
 ·by_cases h2:n≤1073741824
  ·have e:lp n=true:=by simp[lp,inB];omega
   rw[e];clear e
   go_enter Tryz.func155,Tryz.ntmps155
   go_wp2
   go_ret
   exact ⟨rfl,rfl⟩
  ·have e:lp n=false:=by simp[lp,inB];omega
   rw[e];clear e
   go_enter Tryz.func155,Tryz.ntmps155
   go_wp2
   go_ret
   exact ⟨rfl,rfl⟩
 ·have e:lp n=false:=by simp[lp,inB];omega
  rw[e];clear e
  go_enter Tryz.func155,Tryz.ntmps155
  go_wp2
  go_ret
  exact ⟨rfl,rfl⟩

theorem nG (l:List Int) (k:Int) (A:Option Addr) (cap:Nat) (w:World) (hl:l.length≤maxLen) (hr:ay w A l) :
  Calls S 156 #[O A l.length cap,I V k] w fun e w'=>e= J (K (l.all fun n=>belowB n k))∧Gr w w':=by
 unfold maxLen at hl
 go_enter Tryz.func156,Tryz.ntmps156
 go_wp2
 go_loopw [9] (fun i wr=>∃j:Nat,j≤l.length∧i= I V j∧Hid (∀m (h:m<l.length),m<j→belowB l[m] k=true)∧wr=w) (fun i _=>l.length-(intOf i).toNat)
 case atStart=>exact ⟨0,nZ _,rfl,fun m _ h=>by omega,rfl⟩
 case round =>
  obtain ⟨j,hj,rfl,hall,rfl⟩:=hrel
  by_cases hlt:j<l.length
  ·have hltz:(j:Int)<(l.length:Int):=by omega
   obtain ⟨b,off,rfl,hb,hcs⟩:=hr.at hlt
   have e0:=hcs j hlt 0 (by omega)
   obtain ⟨x,hx⟩:∃y,l[j]=y:=⟨_,rfl⟩
   rw[hx] at e0
   have e1:wr.cell? ⟨b,off+j,none⟩=some (I V x):=by simpa[fv] using e0
   have hxH:Hid (l[j]=x):=hx
   clear hcs e0 hx
   cases hq:belowB x k
   ·have hib:=gB x k wr
    rw[hq] at hib
    have hibH:Hid _:=hib
    have hfin:Hid ((l.all fun n=>belowB n k)=false):=by
     show _=_
     rw[List.all_eq_false]
     exact ⟨l[j],gM hlt,by rw[hxH.out,hq];simp⟩
    clear hib
    go_wp2_with (go_at_call 111;(refine cM (show Calls _ _ _ _ _ from hibH.out) ?_);rintro e w' ⟨rfl,rfl⟩)
    go_ret
    exact ⟨by rw[hfin.out];rfl,gR _⟩
   ·have hib:=gB x k wr
    rw[hq] at hib
    have hibH:Hid _:=hib
    clear hib
    have hqH:Hid (belowB l[j] k=true):=by show _=_;rw[hxH.out];exact hq
    clear hq
    go_wp2_with (go_at_call 111;(refine cM (show Calls _ _ _ _ _ from hibH.out) ?_);rintro e w' ⟨rfl,rfl⟩)
    go_roundw
    case rel =>
     refine ⟨j+1,by omega,by go_num,?_,by trivial⟩
     intro m hm hmj
     by_cases e:m=j
     ·subst e;exact hqH.out
     ·exact hall m hm (by omega)
    case measure=>simp[intOf];omega
  ·have hltz:¬(j:Int)<(l.length:Int):=by omega
   have hfin:Hid ((l.all fun n=>belowB n k)=true):=by
    show _=_
    rw[List.all_eq_true]
    intro x hx
    obtain ⟨m,hm,rfl⟩:=List.mem_iff_getElem.1 hx
    exact hall m hm (by omega)
   go_wp2
   go_ret
   exact ⟨by rw[hfin.out];rfl,gR _⟩

structure Stp where
 k:Int
 a:Int
 b:Int
 c:Int
 o:Int
 v:Int
 p:Option Addr
 n:Nat
 l:List Int
def iH (s:Stp):List Value:=[I V s.k,I V s.a,I V s.b,I V s.c,I V s.o,I V s.v,O s.p s.l.length s.n]
theorem jd (s:Stp):(iH s).length=7:=rfl
theorem um (s:Stp):∀u∈iH s,u.oneCell'=true:=by
 intro u hu
 simp[iH] at hu
 rcases hu with rfl|rfl|rfl|rfl|rfl|rfl|rfl<;>rfl

def dS (k:Int):List UInt8:=if k=1 then [116,97,98,108,101] else if k=2 then [119,104,101,114,101] else if k=3 then [112,105,99,107] else if k=4 then [106,111,105,110] else if k=5 then [117,110,105,111,110] else if k=6 then [109,105,110,117,115] else if k=7 then [100,105,115,116,105,110,99,116] else if k=8 then [99,111,117,110,116] else if k=9 then [115,117,109] else []
def bg (k:Int):List UInt8:=if k=1 then [65] else if k=2 then [65,67,79,86] else if k=3 then [65,76] else if k=4 then [65,66,67,86] else if k=5 then [65,66] else if k=6 then [65,66] else if k=7 then [65] else if k=8 then [65,67] else if k=9 then [65,67,86] else []

theorem iL (k:Int) (w:World):Calls S 46 #[I V k] w fun e w'=>e= J (U #[Y ⟨(dS k).toArray⟩,Y ⟨(bg k).toArray⟩])∧w'=w:=by
 by_cases h1:k=1
 ·subst h1
  go_enter Tryz.func46,Tryz.ntmps46
  go_wp2
  go_ret2
  exact ⟨rfl,rfl⟩
 by_cases h2:k=2
 ·subst h2
  go_enter Tryz.func46,Tryz.ntmps46
  go_wp2
  go_ret2
  exact ⟨rfl,rfl⟩
 by_cases h3:k=3
 ·subst h3
  go_enter Tryz.func46,Tryz.ntmps46
  go_wp2
  go_ret2
  exact ⟨rfl,rfl⟩
 by_cases h4:k=4
 ·subst h4
  go_enter Tryz.func46,Tryz.ntmps46
  go_wp2
  go_ret2
  exact ⟨rfl,rfl⟩
 by_cases h5:k=5
 ·subst h5
  go_enter Tryz.func46,Tryz.ntmps46
  go_wp2
  go_ret2
  exact ⟨rfl,rfl⟩
 by_cases h6:k=6
 ·subst h6
  go_enter Tryz.func46,Tryz.ntmps46
  go_wp2
  go_ret2
  exact ⟨rfl,rfl⟩
 by_cases h7:k=7
 ·subst h7
  go_enter Tryz.func46,Tryz.ntmps46
  go_wp2
  go_ret2
  exact ⟨rfl,rfl⟩
 by_cases h8:k=8
 ·subst h8
  go_enter Tryz.func46,Tryz.ntmps46
  go_wp2
  go_ret2
  exact ⟨rfl,rfl⟩
 by_cases h9:k=9
 ·subst h9
  go_enter Tryz.func46,Tryz.ntmps46
  go_wp2
  go_ret2
  exact ⟨rfl,rfl⟩
 have e1:dS k=[]:=by unfold dS;rw[if_neg h1,if_neg h2,if_neg h3,if_neg h4,if_neg h5,if_neg h6,if_neg h7,if_neg h8,if_neg h9]
 have e2:bg k=[]:=by unfold bg;rw[if_neg h1,if_neg h2,if_neg h3,if_neg h4,if_neg h5,if_neg h6,if_neg h7,if_neg h8,if_neg h9]
 have q1:(k==1)=false:=by simpa using h1
 have q2:(k==2)=false:=by simpa using h2
 have q3:(k==3)=false:=by simpa using h3
 have q4:(k==4)=false:=by simpa using h4
 have q5:(k==5)=false:=by simpa using h5
 have q6:(k==6)=false:=by simpa using h6
 have q7:(k==7)=false:=by simpa using h7
 have q8:(k==8)=false:=by simpa using h8
 have q9:(k==9)=false:=by simpa using h9
 rw[e1,e2]
 clear h1 h2 h3 h4 h5 h6 h7 h8 h9 e1 e2
 go_enter Tryz.func46,Tryz.ntmps46
 go_wp2
 go_ret2
 exact ⟨rfl,rfl⟩

def wO (p:Int):Nat:=if p=65 then 1 else if p=66 then 2 else if p=67 then 3 else if p=79 then 4 else 5
theorem eN (b:Nat) (p:Int) (w:World):Calls S 72 #[X (some ⟨b,0,none⟩),I .u8 p] w fun e w'=>e= J (X (some ⟨b,wO p,none⟩))∧w'=w:=by
 by_cases h1:p=65
 ·subst h1
  go_enter Tryz.func72,Tryz.ntmps72
  go_wp2
  go_ret
  exact ⟨rfl,rfl⟩
 by_cases h2:p=66
 ·subst h2
  go_enter Tryz.func72,Tryz.ntmps72
  go_wp2
  go_ret
  exact ⟨rfl,rfl⟩
 by_cases h3:p=67
 ·subst h3
  go_enter Tryz.func72,Tryz.ntmps72
  go_wp2
  go_ret
  exact ⟨rfl,rfl⟩
 by_cases h4:p=79
 ·subst h4
  go_enter Tryz.func72,Tryz.ntmps72
  go_wp2
  go_ret
  exact ⟨rfl,rfl⟩
 have e1:wO p=5:=by unfold wO;rw[if_neg h1,if_neg h2,if_neg h3,if_neg h4]
 have q1:(p==65)=false:=by simpa using h1
 have q2:(p==66)=false:=by simpa using h2
 have q3:(p==67)=false:=by simpa using h3
 have q4:(p==79)=false:=by simpa using h4
 rw[e1]
 clear h1 h2 h3 h4 e1
 go_enter Tryz.func72,Tryz.ntmps72
 go_wp2
 go_ret
 exact ⟨rfl,rfl⟩


def au (k:Int) (p:UInt8):Bool:=decide (0≤Lib.indexByte (bg k) p)
def me:List UInt8:=[65,66,67,79,86]
def Stp.at (s:Stp) (j:Nat):Int:=[s.a,s.b,s.c,s.o,s.v].getD j 0
def bH (s:Stp) (j:Nat):Bool:=au s.k (me.getD j 0) || decide (s.at j=0)
def aM (s:Stp):Bool:=(List.range 5).all (bH s) && (au s.k 76 || s.l.isEmpty)
theorem gw {s:Stp} {j:Nat} (hj:j<5) (h:bH s j=false):aM s=false:=by
 unfold aM
 rw[Bool.and_eq_false_iff]
 left
 rw[List.all_eq_false]
 exact ⟨j,List.mem_range.2 hj,by rw[h];simp⟩
theorem cR (l:List UInt8) (p:UInt8) (w:World):Calls S 153 #[Y ⟨l.toArray⟩,I .u8 p.toNat] w fun e w'=>e= J (I V (Lib.indexByte l p))∧w'=w:=by
 have h:=Any.strings_IndexByte Tryz.laysIndexByte ⟨l.toArray⟩ (p.toNat:Int) w
 change Calls S 153 _ _ _ at h
 simpa using h

theorem rZ (s:Stp) (w:World) :
  Calls S 110 #[.agg #[I V s.k,I V s.a,I V s.b,I V s.c,I V s.o,I V s.v,O s.p s.l.length s.n]] w fun e w'=>e= J (K (aM s))∧Gr w w':=by
 have hg0:Gr w (w.alloc (Z #[I V s.k,I V s.a,I V s.b,I V s.c,I V s.o,I V s.v,O s.p s.l.length s.n] 86)):=(gR w).alloc _
 have hfo:=iL s.k (w.alloc (Z #[I V s.k,I V s.a,I V s.b,I V s.c,I V s.o,I V s.v,O s.p s.l.length s.n] 86))
 have hfoH:Hid _:=hfo
 clear hfo
 have c0:(w.alloc (Z #[I V s.k,I V s.a,I V s.b,I V s.c,I V s.o,I V s.v,O s.p s.l.length s.n] 86)).cell? ⟨w.heap.size,0,none⟩=some (I V s.k):=aa (gR _) rfl
 go_enter Tryz.func110,Tryz.ntmps110
 go_wp2_with fail
 refine cM (show Calls _ _ _ _ _ from hfoH.out) ?_
 rintro e w1 ⟨rfl,rfl⟩
 clear hfoH c0
 go_wp2
 go_loopw [13] (fun i wr=>∃j:Nat,j≤5∧i= I V j∧Hid (∀m,m<j→bH s m=true)∧wr=(w.alloc (Z #[I V s.k,I V s.a,I V s.b,I V s.c,I V s.o,I V s.v,O s.p s.l.length s.n] 86))) (fun i _=>5-(intOf i).toNat)
 case atStart=>exact ⟨0,by omega,rfl,fun m h=>by omega,by trivial⟩
 case round =>
  obtain ⟨j,hj,rfl,hall,rfl⟩:=hrel
  have hj6:j=0∨j=1∨j=2∨j=3∨j=4∨j=5:=by omega
  rcases hj6 with rfl|rfl|rfl|rfl|rfl|rfl
  ·have cj:(w.alloc (Z #[I V s.k,I V s.a,I V s.b,I V s.c,I V s.o,I V s.v,O s.p s.l.length s.n] 86)).cell? ⟨w.heap.size,1,none⟩=some (I V s.a):=aa (gR _) rfl
   obtain ⟨x,hx⟩:∃x,Lib.indexByte (bg s.k) 65=x:=⟨_,rfl⟩
   have hix:=cR (bg s.k) 65 (w.alloc (Z #[I V s.k,I V s.a,I V s.b,I V s.c,I V s.o,I V s.v,O s.p s.l.length s.n] 86))
   have hfd:=eN w.heap.size 65 (w.alloc (Z #[I V s.k,I V s.a,I V s.b,I V s.c,I V s.o,I V s.v,O s.p s.l.length s.n] 86))
   rw[hx] at hix
   have hixH:Hid (Calls S 153 #[Y ⟨(bg s.k).toArray⟩,I .u8 65] _ _):=hix
   have hfdH:Hid (Calls S 72 _ _ fun e w'=>e= J (X (some ⟨w.heap.size,1,none⟩))∧w'=_):=hfd
   have hok:Hid ((0≤x∨s.a=0)→bH s 0=true):=fun h=>by
    show (decide (0≤Lib.indexByte (bg s.k) 65) || decide (s.a=0))=true
    rw[hx];simpa using h
   have hno:Hid (x<0→s.a≠0→aM s=false):=fun h1 h2=>gw (j:=0) (by omega) (by
    show (decide (0≤Lib.indexByte (bg s.k) 65) || decide (s.a=0))=false
    rw[hx];simp[h2];omega)
   have hnx:Hid (bH s 0=true→∀m,m<0+1→bH s m=true):=fun h m hm=>by
    by_cases e:m=0
    ·rw[e];exact h
    ·exact hall m (by omega)
   clear hx hix hfd hall
   by_cases hx0:x<0
   ·cases hv:(s.a != 0)
    ·have hstep:Hid (∀m,m<0+1→bH s m=true):=hnx.out (hok.out (oR (by simpa using hv)))
     go_wp2_with (first|(go_at_call 153;(refine cM (show Calls _ _ _ _ _ from hixH.out) ?_);rintro e w' ⟨rfl,rfl⟩)|(go_at_call 72;(refine cM (show Calls _ _ _ _ _ from hfdH.out) ?_);rintro e w' ⟨rfl,rfl⟩))
     go_roundw
     case rel=>exact ⟨0+1,by omega,by go_num,hstep,by trivial⟩
     case measure=>simp[intOf]
    ·have hfin:Hid (aM s=false):=hno.out hx0 (by simpa using hv)
     go_wp2_with (first|(go_at_call 153;(refine cM (show Calls _ _ _ _ _ from hixH.out) ?_);rintro e w' ⟨rfl,rfl⟩)|(go_at_call 72;(refine cM (show Calls _ _ _ _ _ from hfdH.out) ?_);rintro e w' ⟨rfl,rfl⟩))
     go_ret
     exact ⟨by rw[hfin.out];rfl,hg0⟩
   ·have hstep:Hid (∀m,m<0+1→bH s m=true):=hnx.out (hok.out (oL (by omega)))
    go_wp2_with (first|(go_at_call 153;(refine cM (show Calls _ _ _ _ _ from hixH.out) ?_);rintro e w' ⟨rfl,rfl⟩)|(go_at_call 72;(refine cM (show Calls _ _ _ _ _ from hfdH.out) ?_);rintro e w' ⟨rfl,rfl⟩))
    go_roundw
    case rel=>exact ⟨0+1,by omega,by go_num,hstep,by trivial⟩
    case measure=>simp[intOf]
  ·have cj:(w.alloc (Z #[I V s.k,I V s.a,I V s.b,I V s.c,I V s.o,I V s.v,O s.p s.l.length s.n] 86)).cell? ⟨w.heap.size,2,none⟩=some (I V s.b):=aa (gR _) rfl
   obtain ⟨x,hx⟩:∃x,Lib.indexByte (bg s.k) 66=x:=⟨_,rfl⟩
   have hix:=cR (bg s.k) 66 (w.alloc (Z #[I V s.k,I V s.a,I V s.b,I V s.c,I V s.o,I V s.v,O s.p s.l.length s.n] 86))
   have hfd:=eN w.heap.size 66 (w.alloc (Z #[I V s.k,I V s.a,I V s.b,I V s.c,I V s.o,I V s.v,O s.p s.l.length s.n] 86))
   rw[hx] at hix
   have hixH:Hid (Calls S 153 #[Y ⟨(bg s.k).toArray⟩,I .u8 66] _ _):=hix
   have hfdH:Hid (Calls S 72 _ _ fun e w'=>e= J (X (some ⟨w.heap.size,2,none⟩))∧w'=_):=hfd
   have hok:Hid ((0≤x∨s.b=0)→bH s 1=true):=fun h=>by
    show (decide (0≤Lib.indexByte (bg s.k) 66) || decide (s.b=0))=true
    rw[hx];simpa using h
   have hno:Hid (x<0→s.b≠0→aM s=false):=fun h1 h2=>gw (j:=1) (by omega) (by
    show (decide (0≤Lib.indexByte (bg s.k) 66) || decide (s.b=0))=false
    rw[hx];simp[h2];omega)
   have hnx:Hid (bH s 1=true→∀m,m<1+1→bH s m=true):=fun h m hm=>by
    by_cases e:m=1
    ·rw[e];exact h
    ·exact hall m (by omega)
   clear hx hix hfd hall
   by_cases hx0:x<0
   ·cases hv:(s.b != 0)
    ·have hstep:Hid (∀m,m<1+1→bH s m=true):=hnx.out (hok.out (oR (by simpa using hv)))
     go_wp2_with (first|(go_at_call 153;(refine cM (show Calls _ _ _ _ _ from hixH.out) ?_);rintro e w' ⟨rfl,rfl⟩)|(go_at_call 72;(refine cM (show Calls _ _ _ _ _ from hfdH.out) ?_);rintro e w' ⟨rfl,rfl⟩))
     go_roundw
     case rel=>exact ⟨1+1,by omega,by go_num,hstep,by trivial⟩
     case measure=>simp[intOf]
    ·have hfin:Hid (aM s=false):=hno.out hx0 (by simpa using hv)
     go_wp2_with (first|(go_at_call 153;(refine cM (show Calls _ _ _ _ _ from hixH.out) ?_);rintro e w' ⟨rfl,rfl⟩)|(go_at_call 72;(refine cM (show Calls _ _ _ _ _ from hfdH.out) ?_);rintro e w' ⟨rfl,rfl⟩))
     go_ret
     exact ⟨by rw[hfin.out];rfl,hg0⟩
   ·have hstep:Hid (∀m,m<1+1→bH s m=true):=hnx.out (hok.out (oL (by omega)))
    go_wp2_with (first|(go_at_call 153;(refine cM (show Calls _ _ _ _ _ from hixH.out) ?_);rintro e w' ⟨rfl,rfl⟩)|(go_at_call 72;(refine cM (show Calls _ _ _ _ _ from hfdH.out) ?_);rintro e w' ⟨rfl,rfl⟩))
    go_roundw
    case rel=>exact ⟨1+1,by omega,by go_num,hstep,by trivial⟩
    case measure=>simp[intOf]
  ·have cj:(w.alloc (Z #[I V s.k,I V s.a,I V s.b,I V s.c,I V s.o,I V s.v,O s.p s.l.length s.n] 86)).cell? ⟨w.heap.size,3,none⟩=some (I V s.c):=aa (gR _) rfl
   obtain ⟨x,hx⟩:∃x,Lib.indexByte (bg s.k) 67=x:=⟨_,rfl⟩
   have hix:=cR (bg s.k) 67 (w.alloc (Z #[I V s.k,I V s.a,I V s.b,I V s.c,I V s.o,I V s.v,O s.p s.l.length s.n] 86))
   have hfd:=eN w.heap.size 67 (w.alloc (Z #[I V s.k,I V s.a,I V s.b,I V s.c,I V s.o,I V s.v,O s.p s.l.length s.n] 86))
   rw[hx] at hix
   have hixH:Hid (Calls S 153 #[Y ⟨(bg s.k).toArray⟩,I .u8 67] _ _):=hix
   have hfdH:Hid (Calls S 72 _ _ fun e w'=>e= J (X (some ⟨w.heap.size,3,none⟩))∧w'=_):=hfd
   have hok:Hid ((0≤x∨s.c=0)→bH s 2=true):=fun h=>by
    show (decide (0≤Lib.indexByte (bg s.k) 67) || decide (s.c=0))=true
    rw[hx];simpa using h
   have hno:Hid (x<0→s.c≠0→aM s=false):=fun h1 h2=>gw (j:=2) (by omega) (by
    show (decide (0≤Lib.indexByte (bg s.k) 67) || decide (s.c=0))=false
    rw[hx];simp[h2];omega)
   have hnx:Hid (bH s 2=true→∀m,m<2+1→bH s m=true):=fun h m hm=>by
    by_cases e:m=2
    ·rw[e];exact h
    ·exact hall m (by omega)
   clear hx hix hfd hall
   by_cases hx0:x<0
   ·cases hv:(s.c != 0)
    ·have hstep:Hid (∀m,m<2+1→bH s m=true):=hnx.out (hok.out (oR (by simpa using hv)))
     go_wp2_with (first|(go_at_call 153;(refine cM (show Calls _ _ _ _ _ from hixH.out) ?_);rintro e w' ⟨rfl,rfl⟩)|(go_at_call 72;(refine cM (show Calls _ _ _ _ _ from hfdH.out) ?_);rintro e w' ⟨rfl,rfl⟩))
     go_roundw
     case rel=>exact ⟨2+1,by omega,by go_num,hstep,by trivial⟩
     case measure=>simp[intOf]
    ·have hfin:Hid (aM s=false):=hno.out hx0 (by simpa using hv)
     go_wp2_with (first|(go_at_call 153;(refine cM (show Calls _ _ _ _ _ from hixH.out) ?_);rintro e w' ⟨rfl,rfl⟩)|(go_at_call 72;(refine cM (show Calls _ _ _ _ _ from hfdH.out) ?_);rintro e w' ⟨rfl,rfl⟩))
     go_ret
     exact ⟨by rw[hfin.out];rfl,hg0⟩
   ·have hstep:Hid (∀m,m<2+1→bH s m=true):=hnx.out (hok.out (oL (by omega)))
    go_wp2_with (first|(go_at_call 153;(refine cM (show Calls _ _ _ _ _ from hixH.out) ?_);rintro e w' ⟨rfl,rfl⟩)|(go_at_call 72;(refine cM (show Calls _ _ _ _ _ from hfdH.out) ?_);rintro e w' ⟨rfl,rfl⟩))
    go_roundw
    case rel=>exact ⟨2+1,by omega,by go_num,hstep,by trivial⟩
    case measure=>simp[intOf]
  ·have cj:(w.alloc (Z #[I V s.k,I V s.a,I V s.b,I V s.c,I V s.o,I V s.v,O s.p s.l.length s.n] 86)).cell? ⟨w.heap.size,4,none⟩=some (I V s.o):=aa (gR _) rfl
   obtain ⟨x,hx⟩:∃x,Lib.indexByte (bg s.k) 79=x:=⟨_,rfl⟩
   have hix:=cR (bg s.k) 79 (w.alloc (Z #[I V s.k,I V s.a,I V s.b,I V s.c,I V s.o,I V s.v,O s.p s.l.length s.n] 86))
   have hfd:=eN w.heap.size 79 (w.alloc (Z #[I V s.k,I V s.a,I V s.b,I V s.c,I V s.o,I V s.v,O s.p s.l.length s.n] 86))
   rw[hx] at hix
   have hixH:Hid (Calls S 153 #[Y ⟨(bg s.k).toArray⟩,I .u8 79] _ _):=hix
   have hfdH:Hid (Calls S 72 _ _ fun e w'=>e= J (X (some ⟨w.heap.size,4,none⟩))∧w'=_):=hfd
   have hok:Hid ((0≤x∨s.o=0)→bH s 3=true):=fun h=>by
    show (decide (0≤Lib.indexByte (bg s.k) 79) || decide (s.o=0))=true
    rw[hx];simpa using h
   have hno:Hid (x<0→s.o≠0→aM s=false):=fun h1 h2=>gw (j:=3) (by omega) (by
    show (decide (0≤Lib.indexByte (bg s.k) 79) || decide (s.o=0))=false
    rw[hx];simp[h2];omega)
   have hnx:Hid (bH s 3=true→∀m,m<3+1→bH s m=true):=fun h m hm=>by
    by_cases e:m=3
    ·rw[e];exact h
    ·exact hall m (by omega)
   clear hx hix hfd hall
   by_cases hx0:x<0
   ·cases hv:(s.o != 0)
    ·have hstep:Hid (∀m,m<3+1→bH s m=true):=hnx.out (hok.out (oR (by simpa using hv)))
     go_wp2_with (first|(go_at_call 153;(refine cM (show Calls _ _ _ _ _ from hixH.out) ?_);rintro e w' ⟨rfl,rfl⟩)|(go_at_call 72;(refine cM (show Calls _ _ _ _ _ from hfdH.out) ?_);rintro e w' ⟨rfl,rfl⟩))
     go_roundw
     case rel=>exact ⟨3+1,by omega,by go_num,hstep,by trivial⟩
     case measure=>simp[intOf]
    ·have hfin:Hid (aM s=false):=hno.out hx0 (by simpa using hv)
     go_wp2_with (first|(go_at_call 153;(refine cM (show Calls _ _ _ _ _ from hixH.out) ?_);rintro e w' ⟨rfl,rfl⟩)|(go_at_call 72;(refine cM (show Calls _ _ _ _ _ from hfdH.out) ?_);rintro e w' ⟨rfl,rfl⟩))
     go_ret
     exact ⟨by rw[hfin.out];rfl,hg0⟩
   ·have hstep:Hid (∀m,m<3+1→bH s m=true):=hnx.out (hok.out (oL (by omega)))
    go_wp2_with (first|(go_at_call 153;(refine cM (show Calls _ _ _ _ _ from hixH.out) ?_);rintro e w' ⟨rfl,rfl⟩)|(go_at_call 72;(refine cM (show Calls _ _ _ _ _ from hfdH.out) ?_);rintro e w' ⟨rfl,rfl⟩))
    go_roundw
    case rel=>exact ⟨3+1,by omega,by go_num,hstep,by trivial⟩
    case measure=>simp[intOf]
  ·have cj:(w.alloc (Z #[I V s.k,I V s.a,I V s.b,I V s.c,I V s.o,I V s.v,O s.p s.l.length s.n] 86)).cell? ⟨w.heap.size,5,none⟩=some (I V s.v):=aa (gR _) rfl
   obtain ⟨x,hx⟩:∃x,Lib.indexByte (bg s.k) 86=x:=⟨_,rfl⟩
   have hix:=cR (bg s.k) 86 (w.alloc (Z #[I V s.k,I V s.a,I V s.b,I V s.c,I V s.o,I V s.v,O s.p s.l.length s.n] 86))
   have hfd:=eN w.heap.size 86 (w.alloc (Z #[I V s.k,I V s.a,I V s.b,I V s.c,I V s.o,I V s.v,O s.p s.l.length s.n] 86))
   rw[hx] at hix
   have hixH:Hid (Calls S 153 #[Y ⟨(bg s.k).toArray⟩,I .u8 86] _ _):=hix
   have hfdH:Hid (Calls S 72 _ _ fun e w'=>e= J (X (some ⟨w.heap.size,5,none⟩))∧w'=_):=hfd
   have hok:Hid ((0≤x∨s.v=0)→bH s 4=true):=fun h=>by
    show (decide (0≤Lib.indexByte (bg s.k) 86) || decide (s.v=0))=true
    rw[hx];simpa using h
   have hno:Hid (x<0→s.v≠0→aM s=false):=fun h1 h2=>gw (j:=4) (by omega) (by
    show (decide (0≤Lib.indexByte (bg s.k) 86) || decide (s.v=0))=false
    rw[hx];simp[h2];omega)
   have hnx:Hid (bH s 4=true→∀m,m<4+1→bH s m=true):=fun h m hm=>by
    by_cases e:m=4
    ·rw[e];exact h
    ·exact hall m (by omega)
   clear hx hix hfd hall
   by_cases hx0:x<0
   ·cases hv:(s.v != 0)
    ·have hstep:Hid (∀m,m<4+1→bH s m=true):=hnx.out (hok.out (oR (by simpa using hv)))
     go_wp2_with (first|(go_at_call 153;(refine cM (show Calls _ _ _ _ _ from hixH.out) ?_);rintro e w' ⟨rfl,rfl⟩)|(go_at_call 72;(refine cM (show Calls _ _ _ _ _ from hfdH.out) ?_);rintro e w' ⟨rfl,rfl⟩))
     go_roundw
     case rel=>exact ⟨4+1,by omega,by go_num,hstep,by trivial⟩
     case measure=>simp[intOf]
    ·have hfin:Hid (aM s=false):=hno.out hx0 (by simpa using hv)
     go_wp2_with (first|(go_at_call 153;(refine cM (show Calls _ _ _ _ _ from hixH.out) ?_);rintro e w' ⟨rfl,rfl⟩)|(go_at_call 72;(refine cM (show Calls _ _ _ _ _ from hfdH.out) ?_);rintro e w' ⟨rfl,rfl⟩))
     go_ret
     exact ⟨by rw[hfin.out];rfl,hg0⟩
   ·have hstep:Hid (∀m,m<4+1→bH s m=true):=hnx.out (hok.out (oL (by omega)))
    go_wp2_with (first|(go_at_call 153;(refine cM (show Calls _ _ _ _ _ from hixH.out) ?_);rintro e w' ⟨rfl,rfl⟩)|(go_at_call 72;(refine cM (show Calls _ _ _ _ _ from hfdH.out) ?_);rintro e w' ⟨rfl,rfl⟩))
    go_roundw
    case rel=>exact ⟨4+1,by omega,by go_num,hstep,by trivial⟩
    case measure=>simp[intOf]
  ·have c6:(w.alloc (Z #[I V s.k,I V s.a,I V s.b,I V s.c,I V s.o,I V s.v,O s.p s.l.length s.n] 86)).cell? ⟨w.heap.size,6,none⟩=some (O s.p s.l.length s.n):=aa (gR _) rfl
   obtain ⟨x,hx⟩:∃x,Lib.indexByte (bg s.k) 76=x:=⟨_,rfl⟩
   have hix:=cR (bg s.k) 76 (w.alloc (Z #[I V s.k,I V s.a,I V s.b,I V s.c,I V s.o,I V s.v,O s.p s.l.length s.n] 86))
   rw[hx] at hix
   have hixH:Hid (Calls S 153 #[Y ⟨(bg s.k).toArray⟩,I .u8 76] _ _):=hix
   have hend:Hid (aM s=(decide (0≤x) || s.l.isEmpty)):=by
    show _=_
    unfold aM
    rw[List.all_eq_true.2 fun m hm=>hall m (List.mem_range.1 hm)]
    show (true && (decide (0≤Lib.indexByte (bg s.k) 76) || s.l.isEmpty))=_
    rw[hx];simp
   clear hx hix hall
   by_cases hx0:0≤x
   ·have hfin:Hid (aM s=true):=by show _=_;rw[hend.out];simp[hx0]
    go_wp2_with (go_at_call 153;(refine cM (show Calls _ _ _ _ _ from hixH.out) ?_);rintro e w' ⟨rfl,rfl⟩)
    go_ret
    exact ⟨by rw[hfin.out];rfl,hg0⟩
   ·by_cases hl0:s.l=[]
    ·have hfin:Hid (aM s=true):=by show _=_;rw[hend.out,hl0];simp
     have hl00:((s.l.length:Int)==0)=true:=by rw[hl0];rfl
     clear hl0
     go_wp2_with (go_at_call 153;(refine cM (show Calls _ _ _ _ _ from hixH.out) ?_);rintro e w' ⟨rfl,rfl⟩)
     go_ret
     exact ⟨by rw[hfin.out];rfl,hg0⟩
    ·have hfin:Hid (aM s=false):=by show _=_;rw[hend.out];simp[hl0];omega
     have hl00:((s.l.length:Int)==0)=false:=by
      have:=List.length_pos_iff.2 hl0
      simp;omega
     have hxd:decide (0≤x)=false:=by simpa using hx0
     clear hl0
     go_wp2_with (go_at_call 153;(refine cM (show Calls _ _ _ _ _ from hixH.out) ?_);rintro e w' ⟨rfl,rfl⟩)
     go_ret
     exact ⟨by rw[hfin.out,←hxd];rfl,hg0⟩

end Go.Proofs.YtfedpiamlpflhaaGreatDoor
