/-
  query.tellsItsPartsAlone: has a step nothing that its kind doesn't tell?
  query.widthOfOne, widthOfTwo: the width of a step's set.
  query.width: the width of a step behind those whose widths are given.
-/
import Derived.Test.YtkadjjmkokhldaaGreatM15
namespace Go.Proofs.YtkadjjmkokhldaaGreat
open Go.RowKit Go.Sort

/-- Does a kind tell this part? -/
def tellsB (k:Int) (p:UInt8):Bool:=decide (0≤Lib.indexByte (partL k) p)
/-- The parts that are one number each, and what a step has there. -/
def prtL:List UInt8:=[65,66,67,79,86]
def Stp.at (s:Stp) (j:Nat):Int:=[s.a,s.b,s.c,s.o,s.v].getD j 0
def condB (s:Stp) (j:Nat):Bool:=tellsB s.k (prtL.getD j 0) || decide (s.at j=0)
def aloneB (s:Stp):Bool:=(List.range 5).all (condB s) && (tellsB s.k 76 || s.l.isEmpty)
theorem alone_no {s:Stp} {j:Nat} (hj:j<5) (h:condB s j=false):aloneB s=false:=by
 unfold aloneB
 rw[Bool.and_eq_false_iff]
 left
 rw[List.all_eq_false]
 exact ⟨j,List.mem_range.2 hj,by rw[h];simp⟩
theorem indexByte_any (l:List UInt8) (p:UInt8) (w:World):Calls Tryz.prog 133 #[.string ⟨l.toArray⟩,.int .u8 p.toNat] w fun e w'=>e= .returned (.int .i64 (Lib.indexByte l p))∧w'=w:=by
 have h:=Any.strings_IndexByte Tryz.laysIndexByte ⟨l.toArray⟩ (p.toNat:Int) w
 change Calls Tryz.prog 133 _ _ _ at h
 simpa using h

set_option maxRecDepth 100000 in
set_option maxHeartbeats 4000000 in
theorem alone_any (s:Stp) (w:World) :
  Calls Tryz.prog 107 #[.agg #[.int .i64 s.k,.int .i64 s.a,.int .i64 s.b,.int .i64 s.c,.int .i64 s.o,.int .i64 s.v,.slice s.p s.l.length s.n]] w fun e w'=>e= .returned (.bool (aloneB s))∧Gr w w':=by
 have hg0:Gr w (w.alloc (.cells #[.int .i64 s.k,.int .i64 s.a,.int .i64 s.b,.int .i64 s.c,.int .i64 s.o,.int .i64 s.v,.slice s.p s.l.length s.n] 48)):=(Gr.refl w).alloc _
 have hfo:=formOf_any s.k (w.alloc (.cells #[.int .i64 s.k,.int .i64 s.a,.int .i64 s.b,.int .i64 s.c,.int .i64 s.o,.int .i64 s.v,.slice s.p s.l.length s.n] 48))
 have hfoH:Hid _:=hfo
 clear hfo
 have c0:(w.alloc (.cells #[.int .i64 s.k,.int .i64 s.a,.int .i64 s.b,.int .i64 s.c,.int .i64 s.o,.int .i64 s.v,.slice s.p s.l.length s.n] 48)).cell? ⟨w.heap.size,0,none⟩=some (.int .i64 s.k):=box1 (Gr.refl _) rfl
 go_enter Tryz.func107,Tryz.ntmps107
 go_wp2_with fail
 refine Calls.mono (show Calls _ _ _ _ _ from hfoH.out) ?_
 rintro e w1 ⟨rfl,rfl⟩
 clear hfoH c0
 go_wp2
 go_loopw [13] (fun i wr=>∃j:Nat,j≤5∧i= .int .i64 j∧Hid (∀m,m<j→condB s m=true)∧wr=(w.alloc (.cells #[.int .i64 s.k,.int .i64 s.a,.int .i64 s.b,.int .i64 s.c,.int .i64 s.o,.int .i64 s.v,.slice s.p s.l.length s.n] 48))) (fun i _=>5-(intOf i).toNat)
 case atStart=>exact ⟨0,by omega,rfl,fun m h=>by omega,by trivial⟩
 case round =>
  obtain ⟨j,hj,rfl,hall,rfl⟩:=hrel
  have hj6:j=0∨j=1∨j=2∨j=3∨j=4∨j=5:=by omega
  rcases hj6 with rfl|rfl|rfl|rfl|rfl|rfl
  ·have cj:(w.alloc (.cells #[.int .i64 s.k,.int .i64 s.a,.int .i64 s.b,.int .i64 s.c,.int .i64 s.o,.int .i64 s.v,.slice s.p s.l.length s.n] 48)).cell? ⟨w.heap.size,1,none⟩=some (.int .i64 s.a):=box1 (Gr.refl _) rfl
   obtain ⟨x,hx⟩:∃x,Lib.indexByte (partL s.k) 65=x:=⟨_,rfl⟩
   have hix:=indexByte_any (partL s.k) 65 (w.alloc (.cells #[.int .i64 s.k,.int .i64 s.a,.int .i64 s.b,.int .i64 s.c,.int .i64 s.o,.int .i64 s.v,.slice s.p s.l.length s.n] 48))
   have hfd:=field_any w.heap.size 65 (w.alloc (.cells #[.int .i64 s.k,.int .i64 s.a,.int .i64 s.b,.int .i64 s.c,.int .i64 s.o,.int .i64 s.v,.slice s.p s.l.length s.n] 48))
   rw[hx] at hix
   have hixH:Hid (Calls Tryz.prog 133 #[.string ⟨(partL s.k).toArray⟩,.int .u8 65] _ _):=hix
   have hfdH:Hid (Calls Tryz.prog 134 _ _ fun e w'=>e= .returned (.pointer (some ⟨w.heap.size,1,none⟩))∧w'=_):=hfd
   have hok:Hid ((0≤x∨s.a=0)→condB s 0=true):=fun h=>by
    show (decide (0≤Lib.indexByte (partL s.k) 65) || decide (s.a=0))=true
    rw[hx];simpa using h
   have hno:Hid (x<0→s.a≠0→aloneB s=false):=fun h1 h2=>alone_no (j:=0) (by omega) (by
    show (decide (0≤Lib.indexByte (partL s.k) 65) || decide (s.a=0))=false
    rw[hx];simp[h2];omega)
   have hnx:Hid (condB s 0=true→∀m,m<0+1→condB s m=true):=fun h m hm=>by
    by_cases e:m=0
    ·rw[e];exact h
    ·exact hall m (by omega)
   clear hx hix hfd hall
   by_cases hx0:x<0
   ·cases hv:(s.a != 0)
    ·have hstep:Hid (∀m,m<0+1→condB s m=true):=hnx.out (hok.out (Or.inr (by simpa using hv)))
     go_wp2_with (first|(go_at_call 133;(refine Calls.mono (show Calls _ _ _ _ _ from hixH.out) ?_);rintro e w' ⟨rfl,rfl⟩)|(go_at_call 134;(refine Calls.mono (show Calls _ _ _ _ _ from hfdH.out) ?_);rintro e w' ⟨rfl,rfl⟩))
     go_roundw
     case rel=>exact ⟨0+1,by omega,by go_num,hstep,by trivial⟩
     case measure=>simp[intOf]
    ·have hfin:Hid (aloneB s=false):=hno.out hx0 (by simpa using hv)
     go_wp2_with (first|(go_at_call 133;(refine Calls.mono (show Calls _ _ _ _ _ from hixH.out) ?_);rintro e w' ⟨rfl,rfl⟩)|(go_at_call 134;(refine Calls.mono (show Calls _ _ _ _ _ from hfdH.out) ?_);rintro e w' ⟨rfl,rfl⟩))
     go_ret
     exact ⟨by rw[hfin.out];rfl,hg0⟩
   ·have hstep:Hid (∀m,m<0+1→condB s m=true):=hnx.out (hok.out (Or.inl (by omega)))
    go_wp2_with (first|(go_at_call 133;(refine Calls.mono (show Calls _ _ _ _ _ from hixH.out) ?_);rintro e w' ⟨rfl,rfl⟩)|(go_at_call 134;(refine Calls.mono (show Calls _ _ _ _ _ from hfdH.out) ?_);rintro e w' ⟨rfl,rfl⟩))
    go_roundw
    case rel=>exact ⟨0+1,by omega,by go_num,hstep,by trivial⟩
    case measure=>simp[intOf]
  ·have cj:(w.alloc (.cells #[.int .i64 s.k,.int .i64 s.a,.int .i64 s.b,.int .i64 s.c,.int .i64 s.o,.int .i64 s.v,.slice s.p s.l.length s.n] 48)).cell? ⟨w.heap.size,2,none⟩=some (.int .i64 s.b):=box1 (Gr.refl _) rfl
   obtain ⟨x,hx⟩:∃x,Lib.indexByte (partL s.k) 66=x:=⟨_,rfl⟩
   have hix:=indexByte_any (partL s.k) 66 (w.alloc (.cells #[.int .i64 s.k,.int .i64 s.a,.int .i64 s.b,.int .i64 s.c,.int .i64 s.o,.int .i64 s.v,.slice s.p s.l.length s.n] 48))
   have hfd:=field_any w.heap.size 66 (w.alloc (.cells #[.int .i64 s.k,.int .i64 s.a,.int .i64 s.b,.int .i64 s.c,.int .i64 s.o,.int .i64 s.v,.slice s.p s.l.length s.n] 48))
   rw[hx] at hix
   have hixH:Hid (Calls Tryz.prog 133 #[.string ⟨(partL s.k).toArray⟩,.int .u8 66] _ _):=hix
   have hfdH:Hid (Calls Tryz.prog 134 _ _ fun e w'=>e= .returned (.pointer (some ⟨w.heap.size,2,none⟩))∧w'=_):=hfd
   have hok:Hid ((0≤x∨s.b=0)→condB s 1=true):=fun h=>by
    show (decide (0≤Lib.indexByte (partL s.k) 66) || decide (s.b=0))=true
    rw[hx];simpa using h
   have hno:Hid (x<0→s.b≠0→aloneB s=false):=fun h1 h2=>alone_no (j:=1) (by omega) (by
    show (decide (0≤Lib.indexByte (partL s.k) 66) || decide (s.b=0))=false
    rw[hx];simp[h2];omega)
   have hnx:Hid (condB s 1=true→∀m,m<1+1→condB s m=true):=fun h m hm=>by
    by_cases e:m=1
    ·rw[e];exact h
    ·exact hall m (by omega)
   clear hx hix hfd hall
   by_cases hx0:x<0
   ·cases hv:(s.b != 0)
    ·have hstep:Hid (∀m,m<1+1→condB s m=true):=hnx.out (hok.out (Or.inr (by simpa using hv)))
     go_wp2_with (first|(go_at_call 133;(refine Calls.mono (show Calls _ _ _ _ _ from hixH.out) ?_);rintro e w' ⟨rfl,rfl⟩)|(go_at_call 134;(refine Calls.mono (show Calls _ _ _ _ _ from hfdH.out) ?_);rintro e w' ⟨rfl,rfl⟩))
     go_roundw
     case rel=>exact ⟨1+1,by omega,by go_num,hstep,by trivial⟩
     case measure=>simp[intOf]
    ·have hfin:Hid (aloneB s=false):=hno.out hx0 (by simpa using hv)
     go_wp2_with (first|(go_at_call 133;(refine Calls.mono (show Calls _ _ _ _ _ from hixH.out) ?_);rintro e w' ⟨rfl,rfl⟩)|(go_at_call 134;(refine Calls.mono (show Calls _ _ _ _ _ from hfdH.out) ?_);rintro e w' ⟨rfl,rfl⟩))
     go_ret
     exact ⟨by rw[hfin.out];rfl,hg0⟩
   ·have hstep:Hid (∀m,m<1+1→condB s m=true):=hnx.out (hok.out (Or.inl (by omega)))
    go_wp2_with (first|(go_at_call 133;(refine Calls.mono (show Calls _ _ _ _ _ from hixH.out) ?_);rintro e w' ⟨rfl,rfl⟩)|(go_at_call 134;(refine Calls.mono (show Calls _ _ _ _ _ from hfdH.out) ?_);rintro e w' ⟨rfl,rfl⟩))
    go_roundw
    case rel=>exact ⟨1+1,by omega,by go_num,hstep,by trivial⟩
    case measure=>simp[intOf]
  ·have cj:(w.alloc (.cells #[.int .i64 s.k,.int .i64 s.a,.int .i64 s.b,.int .i64 s.c,.int .i64 s.o,.int .i64 s.v,.slice s.p s.l.length s.n] 48)).cell? ⟨w.heap.size,3,none⟩=some (.int .i64 s.c):=box1 (Gr.refl _) rfl
   obtain ⟨x,hx⟩:∃x,Lib.indexByte (partL s.k) 67=x:=⟨_,rfl⟩
   have hix:=indexByte_any (partL s.k) 67 (w.alloc (.cells #[.int .i64 s.k,.int .i64 s.a,.int .i64 s.b,.int .i64 s.c,.int .i64 s.o,.int .i64 s.v,.slice s.p s.l.length s.n] 48))
   have hfd:=field_any w.heap.size 67 (w.alloc (.cells #[.int .i64 s.k,.int .i64 s.a,.int .i64 s.b,.int .i64 s.c,.int .i64 s.o,.int .i64 s.v,.slice s.p s.l.length s.n] 48))
   rw[hx] at hix
   have hixH:Hid (Calls Tryz.prog 133 #[.string ⟨(partL s.k).toArray⟩,.int .u8 67] _ _):=hix
   have hfdH:Hid (Calls Tryz.prog 134 _ _ fun e w'=>e= .returned (.pointer (some ⟨w.heap.size,3,none⟩))∧w'=_):=hfd
   have hok:Hid ((0≤x∨s.c=0)→condB s 2=true):=fun h=>by
    show (decide (0≤Lib.indexByte (partL s.k) 67) || decide (s.c=0))=true
    rw[hx];simpa using h
   have hno:Hid (x<0→s.c≠0→aloneB s=false):=fun h1 h2=>alone_no (j:=2) (by omega) (by
    show (decide (0≤Lib.indexByte (partL s.k) 67) || decide (s.c=0))=false
    rw[hx];simp[h2];omega)
   have hnx:Hid (condB s 2=true→∀m,m<2+1→condB s m=true):=fun h m hm=>by
    by_cases e:m=2
    ·rw[e];exact h
    ·exact hall m (by omega)
   clear hx hix hfd hall
   by_cases hx0:x<0
   ·cases hv:(s.c != 0)
    ·have hstep:Hid (∀m,m<2+1→condB s m=true):=hnx.out (hok.out (Or.inr (by simpa using hv)))
     go_wp2_with (first|(go_at_call 133;(refine Calls.mono (show Calls _ _ _ _ _ from hixH.out) ?_);rintro e w' ⟨rfl,rfl⟩)|(go_at_call 134;(refine Calls.mono (show Calls _ _ _ _ _ from hfdH.out) ?_);rintro e w' ⟨rfl,rfl⟩))
     go_roundw
     case rel=>exact ⟨2+1,by omega,by go_num,hstep,by trivial⟩
     case measure=>simp[intOf]
    ·have hfin:Hid (aloneB s=false):=hno.out hx0 (by simpa using hv)
     go_wp2_with (first|(go_at_call 133;(refine Calls.mono (show Calls _ _ _ _ _ from hixH.out) ?_);rintro e w' ⟨rfl,rfl⟩)|(go_at_call 134;(refine Calls.mono (show Calls _ _ _ _ _ from hfdH.out) ?_);rintro e w' ⟨rfl,rfl⟩))
     go_ret
     exact ⟨by rw[hfin.out];rfl,hg0⟩
   ·have hstep:Hid (∀m,m<2+1→condB s m=true):=hnx.out (hok.out (Or.inl (by omega)))
    go_wp2_with (first|(go_at_call 133;(refine Calls.mono (show Calls _ _ _ _ _ from hixH.out) ?_);rintro e w' ⟨rfl,rfl⟩)|(go_at_call 134;(refine Calls.mono (show Calls _ _ _ _ _ from hfdH.out) ?_);rintro e w' ⟨rfl,rfl⟩))
    go_roundw
    case rel=>exact ⟨2+1,by omega,by go_num,hstep,by trivial⟩
    case measure=>simp[intOf]
  ·have cj:(w.alloc (.cells #[.int .i64 s.k,.int .i64 s.a,.int .i64 s.b,.int .i64 s.c,.int .i64 s.o,.int .i64 s.v,.slice s.p s.l.length s.n] 48)).cell? ⟨w.heap.size,4,none⟩=some (.int .i64 s.o):=box1 (Gr.refl _) rfl
   obtain ⟨x,hx⟩:∃x,Lib.indexByte (partL s.k) 79=x:=⟨_,rfl⟩
   have hix:=indexByte_any (partL s.k) 79 (w.alloc (.cells #[.int .i64 s.k,.int .i64 s.a,.int .i64 s.b,.int .i64 s.c,.int .i64 s.o,.int .i64 s.v,.slice s.p s.l.length s.n] 48))
   have hfd:=field_any w.heap.size 79 (w.alloc (.cells #[.int .i64 s.k,.int .i64 s.a,.int .i64 s.b,.int .i64 s.c,.int .i64 s.o,.int .i64 s.v,.slice s.p s.l.length s.n] 48))
   rw[hx] at hix
   have hixH:Hid (Calls Tryz.prog 133 #[.string ⟨(partL s.k).toArray⟩,.int .u8 79] _ _):=hix
   have hfdH:Hid (Calls Tryz.prog 134 _ _ fun e w'=>e= .returned (.pointer (some ⟨w.heap.size,4,none⟩))∧w'=_):=hfd
   have hok:Hid ((0≤x∨s.o=0)→condB s 3=true):=fun h=>by
    show (decide (0≤Lib.indexByte (partL s.k) 79) || decide (s.o=0))=true
    rw[hx];simpa using h
   have hno:Hid (x<0→s.o≠0→aloneB s=false):=fun h1 h2=>alone_no (j:=3) (by omega) (by
    show (decide (0≤Lib.indexByte (partL s.k) 79) || decide (s.o=0))=false
    rw[hx];simp[h2];omega)
   have hnx:Hid (condB s 3=true→∀m,m<3+1→condB s m=true):=fun h m hm=>by
    by_cases e:m=3
    ·rw[e];exact h
    ·exact hall m (by omega)
   clear hx hix hfd hall
   by_cases hx0:x<0
   ·cases hv:(s.o != 0)
    ·have hstep:Hid (∀m,m<3+1→condB s m=true):=hnx.out (hok.out (Or.inr (by simpa using hv)))
     go_wp2_with (first|(go_at_call 133;(refine Calls.mono (show Calls _ _ _ _ _ from hixH.out) ?_);rintro e w' ⟨rfl,rfl⟩)|(go_at_call 134;(refine Calls.mono (show Calls _ _ _ _ _ from hfdH.out) ?_);rintro e w' ⟨rfl,rfl⟩))
     go_roundw
     case rel=>exact ⟨3+1,by omega,by go_num,hstep,by trivial⟩
     case measure=>simp[intOf]
    ·have hfin:Hid (aloneB s=false):=hno.out hx0 (by simpa using hv)
     go_wp2_with (first|(go_at_call 133;(refine Calls.mono (show Calls _ _ _ _ _ from hixH.out) ?_);rintro e w' ⟨rfl,rfl⟩)|(go_at_call 134;(refine Calls.mono (show Calls _ _ _ _ _ from hfdH.out) ?_);rintro e w' ⟨rfl,rfl⟩))
     go_ret
     exact ⟨by rw[hfin.out];rfl,hg0⟩
   ·have hstep:Hid (∀m,m<3+1→condB s m=true):=hnx.out (hok.out (Or.inl (by omega)))
    go_wp2_with (first|(go_at_call 133;(refine Calls.mono (show Calls _ _ _ _ _ from hixH.out) ?_);rintro e w' ⟨rfl,rfl⟩)|(go_at_call 134;(refine Calls.mono (show Calls _ _ _ _ _ from hfdH.out) ?_);rintro e w' ⟨rfl,rfl⟩))
    go_roundw
    case rel=>exact ⟨3+1,by omega,by go_num,hstep,by trivial⟩
    case measure=>simp[intOf]
  ·have cj:(w.alloc (.cells #[.int .i64 s.k,.int .i64 s.a,.int .i64 s.b,.int .i64 s.c,.int .i64 s.o,.int .i64 s.v,.slice s.p s.l.length s.n] 48)).cell? ⟨w.heap.size,5,none⟩=some (.int .i64 s.v):=box1 (Gr.refl _) rfl
   obtain ⟨x,hx⟩:∃x,Lib.indexByte (partL s.k) 86=x:=⟨_,rfl⟩
   have hix:=indexByte_any (partL s.k) 86 (w.alloc (.cells #[.int .i64 s.k,.int .i64 s.a,.int .i64 s.b,.int .i64 s.c,.int .i64 s.o,.int .i64 s.v,.slice s.p s.l.length s.n] 48))
   have hfd:=field_any w.heap.size 86 (w.alloc (.cells #[.int .i64 s.k,.int .i64 s.a,.int .i64 s.b,.int .i64 s.c,.int .i64 s.o,.int .i64 s.v,.slice s.p s.l.length s.n] 48))
   rw[hx] at hix
   have hixH:Hid (Calls Tryz.prog 133 #[.string ⟨(partL s.k).toArray⟩,.int .u8 86] _ _):=hix
   have hfdH:Hid (Calls Tryz.prog 134 _ _ fun e w'=>e= .returned (.pointer (some ⟨w.heap.size,5,none⟩))∧w'=_):=hfd
   have hok:Hid ((0≤x∨s.v=0)→condB s 4=true):=fun h=>by
    show (decide (0≤Lib.indexByte (partL s.k) 86) || decide (s.v=0))=true
    rw[hx];simpa using h
   have hno:Hid (x<0→s.v≠0→aloneB s=false):=fun h1 h2=>alone_no (j:=4) (by omega) (by
    show (decide (0≤Lib.indexByte (partL s.k) 86) || decide (s.v=0))=false
    rw[hx];simp[h2];omega)
   have hnx:Hid (condB s 4=true→∀m,m<4+1→condB s m=true):=fun h m hm=>by
    by_cases e:m=4
    ·rw[e];exact h
    ·exact hall m (by omega)
   clear hx hix hfd hall
   by_cases hx0:x<0
   ·cases hv:(s.v != 0)
    ·have hstep:Hid (∀m,m<4+1→condB s m=true):=hnx.out (hok.out (Or.inr (by simpa using hv)))
     go_wp2_with (first|(go_at_call 133;(refine Calls.mono (show Calls _ _ _ _ _ from hixH.out) ?_);rintro e w' ⟨rfl,rfl⟩)|(go_at_call 134;(refine Calls.mono (show Calls _ _ _ _ _ from hfdH.out) ?_);rintro e w' ⟨rfl,rfl⟩))
     go_roundw
     case rel=>exact ⟨4+1,by omega,by go_num,hstep,by trivial⟩
     case measure=>simp[intOf]
    ·have hfin:Hid (aloneB s=false):=hno.out hx0 (by simpa using hv)
     go_wp2_with (first|(go_at_call 133;(refine Calls.mono (show Calls _ _ _ _ _ from hixH.out) ?_);rintro e w' ⟨rfl,rfl⟩)|(go_at_call 134;(refine Calls.mono (show Calls _ _ _ _ _ from hfdH.out) ?_);rintro e w' ⟨rfl,rfl⟩))
     go_ret
     exact ⟨by rw[hfin.out];rfl,hg0⟩
   ·have hstep:Hid (∀m,m<4+1→condB s m=true):=hnx.out (hok.out (Or.inl (by omega)))
    go_wp2_with (first|(go_at_call 133;(refine Calls.mono (show Calls _ _ _ _ _ from hixH.out) ?_);rintro e w' ⟨rfl,rfl⟩)|(go_at_call 134;(refine Calls.mono (show Calls _ _ _ _ _ from hfdH.out) ?_);rintro e w' ⟨rfl,rfl⟩))
    go_roundw
    case rel=>exact ⟨4+1,by omega,by go_num,hstep,by trivial⟩
    case measure=>simp[intOf]
  ·have c6:(w.alloc (.cells #[.int .i64 s.k,.int .i64 s.a,.int .i64 s.b,.int .i64 s.c,.int .i64 s.o,.int .i64 s.v,.slice s.p s.l.length s.n] 48)).cell? ⟨w.heap.size,6,none⟩=some (.slice s.p s.l.length s.n):=box1 (Gr.refl _) rfl
   obtain ⟨x,hx⟩:∃x,Lib.indexByte (partL s.k) 76=x:=⟨_,rfl⟩
   have hix:=indexByte_any (partL s.k) 76 (w.alloc (.cells #[.int .i64 s.k,.int .i64 s.a,.int .i64 s.b,.int .i64 s.c,.int .i64 s.o,.int .i64 s.v,.slice s.p s.l.length s.n] 48))
   rw[hx] at hix
   have hixH:Hid (Calls Tryz.prog 133 #[.string ⟨(partL s.k).toArray⟩,.int .u8 76] _ _):=hix
   have hend:Hid (aloneB s=(decide (0≤x) || s.l.isEmpty)):=by
    show _=_
    unfold aloneB
    rw[List.all_eq_true.2 fun m hm=>hall m (List.mem_range.1 hm)]
    show (true && (decide (0≤Lib.indexByte (partL s.k) 76) || s.l.isEmpty))=_
    rw[hx];simp
   clear hx hix hall
   by_cases hx0:0≤x
   ·have hfin:Hid (aloneB s=true):=by show _=_;rw[hend.out];simp[hx0]
    go_wp2_with (go_at_call 133;(refine Calls.mono (show Calls _ _ _ _ _ from hixH.out) ?_);rintro e w' ⟨rfl,rfl⟩)
    go_ret
    exact ⟨by rw[hfin.out];rfl,hg0⟩
   ·by_cases hl0:s.l=[]
    ·have hfin:Hid (aloneB s=true):=by show _=_;rw[hend.out,hl0];simp
     have hl00:((s.l.length:Int)==0)=true:=by rw[hl0];rfl
     clear hl0
     go_wp2_with (go_at_call 133;(refine Calls.mono (show Calls _ _ _ _ _ from hixH.out) ?_);rintro e w' ⟨rfl,rfl⟩)
     go_ret
     exact ⟨by rw[hfin.out];rfl,hg0⟩
    ·have hfin:Hid (aloneB s=false):=by show _=_;rw[hend.out];simp[hl0];omega
     have hl00:((s.l.length:Int)==0)=false:=by
      have:=List.length_pos_iff.2 hl0
      simp;omega
     have hxd:decide (0≤x)=false:=by simpa using hx0
     clear hl0
     go_wp2_with (go_at_call 133;(refine Calls.mono (show Calls _ _ _ _ _ from hixH.out) ?_);rintro e w' ⟨rfl,rfl⟩)
     go_ret
     exact ⟨by rw[hfin.out,←hxd];rfl,hg0⟩

end Go.Proofs.YtkadjjmkokhldaaGreat

namespace Go.Proofs.YtkadjjmkokhldaaGreat
open Go.RowKit Go.Sort

/-- The width of a step that takes one set, of width a; 0, if it may not be. -/
def oneW (s:Stp) (a:Int):Int:=if s.k=2 then (if belowB s.c a && opB s.o && numB s.v then a else 0) else if s.k=3 then (if decide (s.l.length≤8) && s.l.all (fun n=>belowB n a) then s.l.length else 0) else if s.k=7 then a else if s.k=8 then (if belowB s.c a then 2 else 0) else if s.k=9 then (if belowB s.c a && belowB s.v a then 2 else 0) else 0
/-- The width of a step that takes two. -/
def twoW (s:Stp) (a b:Int):Int:=if s.k=4 then (if belowB s.c a && belowB s.v b && decide (a+b≤8) then a+b else 0) else if s.k=5 then (if a=b then a else 0) else if s.k=6 then (if a=b then a else 0) else 0
theorem below_g {n k:Int} {r:Bool} (h:belowB n k=r) (w:World):Calls Tryz.prog 108 #[.int .i64 n,.int .i64 k] w fun e w'=>e= .returned (.bool r)∧w'=w:=by rw[←h];exact isBelow_any n k w
theorem op_g {n:Int} {r:Bool} (h:opB n=r) (w:World):Calls Tryz.prog 135 #[.int .i64 n] w fun e w'=>e= .returned (.bool r)∧w'=w:=by rw[←h];exact isOp_any n w
theorem num_g {n:Int} {r:Bool} (h:numB n=r) (w:World):Calls Tryz.prog 136 #[.int .i64 n] w fun e w'=>e= .returned (.bool r)∧w'=w:=by rw[←h];exact isNumber_any n w

set_option maxRecDepth 100000 in
set_option maxHeartbeats 4000000 in
theorem oneW_any (s:Stp) (a:Int) (w:World) (hl:s.l.length≤maxLen) (hr:RowI w s.p s.l) :
  Calls Tryz.prog 110 #[.agg #[.int .i64 s.k,.int .i64 s.a,.int .i64 s.b,.int .i64 s.c,.int .i64 s.o,.int .i64 s.v,.slice s.p s.l.length s.n],.int .i64 a] w fun e w'=>e= .returned (.int .i64 (oneW s a))∧Gr w w':=by
 have hg0:Gr w (w.alloc (.cells #[.int .i64 s.k,.int .i64 s.a,.int .i64 s.b,.int .i64 s.c,.int .i64 s.o,.int .i64 s.v,.slice s.p s.l.length s.n] 48)):=(Gr.refl w).alloc _
 have c0:(w.alloc (.cells #[.int .i64 s.k,.int .i64 s.a,.int .i64 s.b,.int .i64 s.c,.int .i64 s.o,.int .i64 s.v,.slice s.p s.l.length s.n] 48)).cell? ⟨w.heap.size,0,none⟩=some (.int .i64 s.k):=box1 (Gr.refl _) rfl
 have c1:(w.alloc (.cells #[.int .i64 s.k,.int .i64 s.a,.int .i64 s.b,.int .i64 s.c,.int .i64 s.o,.int .i64 s.v,.slice s.p s.l.length s.n] 48)).cell? ⟨w.heap.size,1,none⟩=some (.int .i64 s.a):=box1 (Gr.refl _) rfl
 have c2:(w.alloc (.cells #[.int .i64 s.k,.int .i64 s.a,.int .i64 s.b,.int .i64 s.c,.int .i64 s.o,.int .i64 s.v,.slice s.p s.l.length s.n] 48)).cell? ⟨w.heap.size,2,none⟩=some (.int .i64 s.b):=box1 (Gr.refl _) rfl
 have c3:(w.alloc (.cells #[.int .i64 s.k,.int .i64 s.a,.int .i64 s.b,.int .i64 s.c,.int .i64 s.o,.int .i64 s.v,.slice s.p s.l.length s.n] 48)).cell? ⟨w.heap.size,3,none⟩=some (.int .i64 s.c):=box1 (Gr.refl _) rfl
 have c4:(w.alloc (.cells #[.int .i64 s.k,.int .i64 s.a,.int .i64 s.b,.int .i64 s.c,.int .i64 s.o,.int .i64 s.v,.slice s.p s.l.length s.n] 48)).cell? ⟨w.heap.size,4,none⟩=some (.int .i64 s.o):=box1 (Gr.refl _) rfl
 have c5:(w.alloc (.cells #[.int .i64 s.k,.int .i64 s.a,.int .i64 s.b,.int .i64 s.c,.int .i64 s.o,.int .i64 s.v,.slice s.p s.l.length s.n] 48)).cell? ⟨w.heap.size,5,none⟩=some (.int .i64 s.v):=box1 (Gr.refl _) rfl
 have c6:(w.alloc (.cells #[.int .i64 s.k,.int .i64 s.a,.int .i64 s.b,.int .i64 s.c,.int .i64 s.o,.int .i64 s.v,.slice s.p s.l.length s.n] 48)).cell? ⟨w.heap.size,6,none⟩=some (.slice s.p s.l.length s.n):=box1 (Gr.refl _) rfl
 have hrH:Hid (RowI (w.alloc (.cells #[.int .i64 s.k,.int .i64 s.a,.int .i64 s.b,.int .i64 s.c,.int .i64 s.o,.int .i64 s.v,.slice s.p s.l.length s.n] 48)) s.p s.l∧s.l.length≤maxLen):=⟨hr.gr hg0,hl⟩
 clear hr hl
 by_cases hk:s.k=2
 ·skip
  have e0:(w.alloc (.cells #[.int .i64 s.k,.int .i64 s.a,.int .i64 s.b,.int .i64 s.c,.int .i64 s.o,.int .i64 s.v,.slice s.p s.l.length s.n] 48)).cell? ⟨w.heap.size,0,none⟩=some (.int .i64 2):=by rw[←hk];exact c0
  clear c0
  cases h1:belowB s.c a
  ·have hfin:Hid (oneW s a=0):=by show _=_;unfold oneW;rw[if_pos hk];simp[*]
   have zh1H:Hid (Calls Tryz.prog 108 #[.int .i64 s.c,.int .i64 a] (w.alloc (.cells #[.int .i64 s.k,.int .i64 s.a,.int .i64 s.b,.int .i64 s.c,.int .i64 s.o,.int .i64 s.v,.slice s.p s.l.length s.n] 48)) fun e w'=>e= .returned (.bool false)∧w'=(w.alloc (.cells #[.int .i64 s.k,.int .i64 s.a,.int .i64 s.b,.int .i64 s.c,.int .i64 s.o,.int .i64 s.v,.slice s.p s.l.length s.n] 48))):=below_g h1 (w.alloc (.cells #[.int .i64 s.k,.int .i64 s.a,.int .i64 s.b,.int .i64 s.c,.int .i64 s.o,.int .i64 s.v,.slice s.p s.l.length s.n] 48))
   clear hk
   go_enter Tryz.func110,Tryz.ntmps110
   go_wp2_with (go_at_call 108;(with_reducible refine Calls.mono zh1H.out ?_);rintro e w' ⟨rfl,rfl⟩)
   go_ret
   exact ⟨by rw[hfin.out];rfl,hg0⟩
  ·have zh1H:Hid (Calls Tryz.prog 108 #[.int .i64 s.c,.int .i64 a] (w.alloc (.cells #[.int .i64 s.k,.int .i64 s.a,.int .i64 s.b,.int .i64 s.c,.int .i64 s.o,.int .i64 s.v,.slice s.p s.l.length s.n] 48)) fun e w'=>e= .returned (.bool true)∧w'=(w.alloc (.cells #[.int .i64 s.k,.int .i64 s.a,.int .i64 s.b,.int .i64 s.c,.int .i64 s.o,.int .i64 s.v,.slice s.p s.l.length s.n] 48))):=below_g h1 (w.alloc (.cells #[.int .i64 s.k,.int .i64 s.a,.int .i64 s.b,.int .i64 s.c,.int .i64 s.o,.int .i64 s.v,.slice s.p s.l.length s.n] 48))
   cases h2:opB s.o
   ·have hfin:Hid (oneW s a=0):=by show _=_;unfold oneW;rw[if_pos hk];simp[*]
    have zh2H:Hid (Calls Tryz.prog 135 #[.int .i64 s.o] (w.alloc (.cells #[.int .i64 s.k,.int .i64 s.a,.int .i64 s.b,.int .i64 s.c,.int .i64 s.o,.int .i64 s.v,.slice s.p s.l.length s.n] 48)) fun e w'=>e= .returned (.bool false)∧w'=(w.alloc (.cells #[.int .i64 s.k,.int .i64 s.a,.int .i64 s.b,.int .i64 s.c,.int .i64 s.o,.int .i64 s.v,.slice s.p s.l.length s.n] 48))):=op_g h2 (w.alloc (.cells #[.int .i64 s.k,.int .i64 s.a,.int .i64 s.b,.int .i64 s.c,.int .i64 s.o,.int .i64 s.v,.slice s.p s.l.length s.n] 48))
    clear hk
    go_enter Tryz.func110,Tryz.ntmps110
    go_wp2_with (first|(go_at_call 108;(with_reducible refine Calls.mono zh1H.out ?_);rintro e w' ⟨rfl,rfl⟩)|(go_at_call 135;(with_reducible refine Calls.mono zh2H.out ?_);rintro e w' ⟨rfl,rfl⟩))
    go_ret
    exact ⟨by rw[hfin.out];rfl,hg0⟩
   ·have zh2H:Hid (Calls Tryz.prog 135 #[.int .i64 s.o] (w.alloc (.cells #[.int .i64 s.k,.int .i64 s.a,.int .i64 s.b,.int .i64 s.c,.int .i64 s.o,.int .i64 s.v,.slice s.p s.l.length s.n] 48)) fun e w'=>e= .returned (.bool true)∧w'=(w.alloc (.cells #[.int .i64 s.k,.int .i64 s.a,.int .i64 s.b,.int .i64 s.c,.int .i64 s.o,.int .i64 s.v,.slice s.p s.l.length s.n] 48))):=op_g h2 (w.alloc (.cells #[.int .i64 s.k,.int .i64 s.a,.int .i64 s.b,.int .i64 s.c,.int .i64 s.o,.int .i64 s.v,.slice s.p s.l.length s.n] 48))
    cases h3:numB s.v
    ·have hfin:Hid (oneW s a=0):=by show _=_;unfold oneW;rw[if_pos hk];simp[*]
     have zh3H:Hid (Calls Tryz.prog 136 #[.int .i64 s.v] (w.alloc (.cells #[.int .i64 s.k,.int .i64 s.a,.int .i64 s.b,.int .i64 s.c,.int .i64 s.o,.int .i64 s.v,.slice s.p s.l.length s.n] 48)) fun e w'=>e= .returned (.bool false)∧w'=(w.alloc (.cells #[.int .i64 s.k,.int .i64 s.a,.int .i64 s.b,.int .i64 s.c,.int .i64 s.o,.int .i64 s.v,.slice s.p s.l.length s.n] 48))):=num_g h3 (w.alloc (.cells #[.int .i64 s.k,.int .i64 s.a,.int .i64 s.b,.int .i64 s.c,.int .i64 s.o,.int .i64 s.v,.slice s.p s.l.length s.n] 48))
     clear hk
     go_enter Tryz.func110,Tryz.ntmps110
     go_wp2_with (first|(go_at_call 108;(with_reducible refine Calls.mono zh1H.out ?_);rintro e w' ⟨rfl,rfl⟩)|(go_at_call 135;(with_reducible refine Calls.mono zh2H.out ?_);rintro e w' ⟨rfl,rfl⟩)|(go_at_call 136;(with_reducible refine Calls.mono zh3H.out ?_);rintro e w' ⟨rfl,rfl⟩))
     go_ret
     exact ⟨by rw[hfin.out];rfl,hg0⟩
    ·have zh3H:Hid (Calls Tryz.prog 136 #[.int .i64 s.v] (w.alloc (.cells #[.int .i64 s.k,.int .i64 s.a,.int .i64 s.b,.int .i64 s.c,.int .i64 s.o,.int .i64 s.v,.slice s.p s.l.length s.n] 48)) fun e w'=>e= .returned (.bool true)∧w'=(w.alloc (.cells #[.int .i64 s.k,.int .i64 s.a,.int .i64 s.b,.int .i64 s.c,.int .i64 s.o,.int .i64 s.v,.slice s.p s.l.length s.n] 48))):=num_g h3 (w.alloc (.cells #[.int .i64 s.k,.int .i64 s.a,.int .i64 s.b,.int .i64 s.c,.int .i64 s.o,.int .i64 s.v,.slice s.p s.l.length s.n] 48))
     have hfin:Hid (oneW s a=a):=by show _=_;unfold oneW;rw[if_pos hk];simp[h1,h2,h3]
     clear hk
     go_enter Tryz.func110,Tryz.ntmps110
     go_wp2_with (first|(go_at_call 108;(with_reducible refine Calls.mono zh1H.out ?_);rintro e w' ⟨rfl,rfl⟩)|(go_at_call 135;(with_reducible refine Calls.mono zh2H.out ?_);rintro e w' ⟨rfl,rfl⟩)|(go_at_call 136;(with_reducible refine Calls.mono zh3H.out ?_);rintro e w' ⟨rfl,rfl⟩))
     go_ret
     exact ⟨by rw[hfin.out];rfl,hg0⟩
 by_cases hk:s.k=3
 ·skip
  have e0:(w.alloc (.cells #[.int .i64 s.k,.int .i64 s.a,.int .i64 s.b,.int .i64 s.c,.int .i64 s.o,.int .i64 s.v,.slice s.p s.l.length s.n] 48)).cell? ⟨w.heap.size,0,none⟩=some (.int .i64 3):=by rw[←hk];exact c0
  clear c0
  have har:=areBelow_any s.l a s.p s.n (w.alloc (.cells #[.int .i64 s.k,.int .i64 s.a,.int .i64 s.b,.int .i64 s.c,.int .i64 s.o,.int .i64 s.v,.slice s.p s.l.length s.n] 48)) hrH.out.2 hrH.out.1
  by_cases h8:s.l.length≤8
  ·have h8z:(s.l.length:Int)≤8:=by omega
   cases h1:s.l.all (fun n=>belowB n a)
   ·have hfin:Hid (oneW s a=0):=by show _=_;unfold oneW;rw[if_neg (by omega:¬s.k=2),if_pos hk];simp[h1]
    rw[h1] at har
    have harH:Hid _:=har
    clear har hk
    go_enter Tryz.func110,Tryz.ntmps110
    go_wp2_with fail
    refine Calls.mono (show Calls _ _ _ _ _ from harH.out) ?_
    rintro e w2 ⟨rfl,hg2⟩
    have d6:w2.cell? ⟨w.heap.size,6,none⟩=some (.slice s.p s.l.length s.n):=box1 hg2 rfl
    clear harH c1 c2 c3 c4 c5 c6 e0
    go_wp2
    go_ret
    exact ⟨by rw[hfin.out];rfl,hg0.trans hg2⟩
   ·have hfin:Hid (oneW s a=s.l.length):=by show _=_;unfold oneW;rw[if_neg (by omega:¬s.k=2),if_pos hk];simp[h1,h8]
    rw[h1] at har
    have harH:Hid _:=har
    clear har hk
    go_enter Tryz.func110,Tryz.ntmps110
    go_wp2_with fail
    refine Calls.mono (show Calls _ _ _ _ _ from harH.out) ?_
    rintro e w2 ⟨rfl,hg2⟩
    have d6:w2.cell? ⟨w.heap.size,6,none⟩=some (.slice s.p s.l.length s.n):=box1 hg2 rfl
    clear harH c1 c2 c3 c4 c5 c6 e0
    go_wp2
    go_ret
    exact ⟨by rw[hfin.out];rfl,hg0.trans hg2⟩
  ·have h8z:¬(s.l.length:Int)≤8:=by omega
   have hfin:Hid (oneW s a=0):=by show _=_;unfold oneW;rw[if_neg (by omega:¬s.k=2),if_pos hk];simp[h8]
   clear har hk
   go_enter Tryz.func110,Tryz.ntmps110
   go_wp2
   go_ret
   exact ⟨by rw[hfin.out];rfl,hg0⟩
 by_cases hk:s.k=7
 ·skip
  have e0:(w.alloc (.cells #[.int .i64 s.k,.int .i64 s.a,.int .i64 s.b,.int .i64 s.c,.int .i64 s.o,.int .i64 s.v,.slice s.p s.l.length s.n] 48)).cell? ⟨w.heap.size,0,none⟩=some (.int .i64 7):=by rw[←hk];exact c0
  clear c0
  have hfin:Hid (oneW s a=a):=by show _=_;unfold oneW;rw[if_neg (by omega:¬s.k=2),if_neg (by omega:¬s.k=3),if_pos hk]
  clear hk
  go_enter Tryz.func110,Tryz.ntmps110
  go_wp2
  go_ret
  exact ⟨by rw[hfin.out];rfl,hg0⟩
 by_cases hk:s.k=8
 ·skip
  have e0:(w.alloc (.cells #[.int .i64 s.k,.int .i64 s.a,.int .i64 s.b,.int .i64 s.c,.int .i64 s.o,.int .i64 s.v,.slice s.p s.l.length s.n] 48)).cell? ⟨w.heap.size,0,none⟩=some (.int .i64 8):=by rw[←hk];exact c0
  clear c0
  cases h1:belowB s.c a
  ·have hfin:Hid (oneW s a=0):=by show _=_;unfold oneW;rw[if_neg (by omega:¬s.k=2),if_neg (by omega:¬s.k=3),if_neg (by omega:¬s.k=7),if_pos hk];simp[*]
   have zh1H:Hid (Calls Tryz.prog 108 #[.int .i64 s.c,.int .i64 a] (w.alloc (.cells #[.int .i64 s.k,.int .i64 s.a,.int .i64 s.b,.int .i64 s.c,.int .i64 s.o,.int .i64 s.v,.slice s.p s.l.length s.n] 48)) fun e w'=>e= .returned (.bool false)∧w'=(w.alloc (.cells #[.int .i64 s.k,.int .i64 s.a,.int .i64 s.b,.int .i64 s.c,.int .i64 s.o,.int .i64 s.v,.slice s.p s.l.length s.n] 48))):=below_g h1 (w.alloc (.cells #[.int .i64 s.k,.int .i64 s.a,.int .i64 s.b,.int .i64 s.c,.int .i64 s.o,.int .i64 s.v,.slice s.p s.l.length s.n] 48))
   clear hk
   go_enter Tryz.func110,Tryz.ntmps110
   go_wp2_with (go_at_call 108;(with_reducible refine Calls.mono zh1H.out ?_);rintro e w' ⟨rfl,rfl⟩)
   go_ret
   exact ⟨by rw[hfin.out];rfl,hg0⟩
  ·have zh1H:Hid (Calls Tryz.prog 108 #[.int .i64 s.c,.int .i64 a] (w.alloc (.cells #[.int .i64 s.k,.int .i64 s.a,.int .i64 s.b,.int .i64 s.c,.int .i64 s.o,.int .i64 s.v,.slice s.p s.l.length s.n] 48)) fun e w'=>e= .returned (.bool true)∧w'=(w.alloc (.cells #[.int .i64 s.k,.int .i64 s.a,.int .i64 s.b,.int .i64 s.c,.int .i64 s.o,.int .i64 s.v,.slice s.p s.l.length s.n] 48))):=below_g h1 (w.alloc (.cells #[.int .i64 s.k,.int .i64 s.a,.int .i64 s.b,.int .i64 s.c,.int .i64 s.o,.int .i64 s.v,.slice s.p s.l.length s.n] 48))
   have hfin:Hid (oneW s a=2):=by show _=_;unfold oneW;rw[if_neg (by omega:¬s.k=2),if_neg (by omega:¬s.k=3),if_neg (by omega:¬s.k=7),if_pos hk];simp[h1]
   clear hk
   go_enter Tryz.func110,Tryz.ntmps110
   go_wp2_with (go_at_call 108;(with_reducible refine Calls.mono zh1H.out ?_);rintro e w' ⟨rfl,rfl⟩)
   go_ret
   exact ⟨by rw[hfin.out];rfl,hg0⟩
 by_cases hk:s.k=9
 ·skip
  have e0:(w.alloc (.cells #[.int .i64 s.k,.int .i64 s.a,.int .i64 s.b,.int .i64 s.c,.int .i64 s.o,.int .i64 s.v,.slice s.p s.l.length s.n] 48)).cell? ⟨w.heap.size,0,none⟩=some (.int .i64 9):=by rw[←hk];exact c0
  clear c0
  cases h1:belowB s.c a
  ·have hfin:Hid (oneW s a=0):=by show _=_;unfold oneW;rw[if_neg (by omega:¬s.k=2),if_neg (by omega:¬s.k=3),if_neg (by omega:¬s.k=7),if_neg (by omega:¬s.k=8),if_pos hk];simp[*]
   have zh1H:Hid (Calls Tryz.prog 108 #[.int .i64 s.c,.int .i64 a] (w.alloc (.cells #[.int .i64 s.k,.int .i64 s.a,.int .i64 s.b,.int .i64 s.c,.int .i64 s.o,.int .i64 s.v,.slice s.p s.l.length s.n] 48)) fun e w'=>e= .returned (.bool false)∧w'=(w.alloc (.cells #[.int .i64 s.k,.int .i64 s.a,.int .i64 s.b,.int .i64 s.c,.int .i64 s.o,.int .i64 s.v,.slice s.p s.l.length s.n] 48))):=below_g h1 (w.alloc (.cells #[.int .i64 s.k,.int .i64 s.a,.int .i64 s.b,.int .i64 s.c,.int .i64 s.o,.int .i64 s.v,.slice s.p s.l.length s.n] 48))
   clear hk
   go_enter Tryz.func110,Tryz.ntmps110
   go_wp2_with (go_at_call 108;(with_reducible refine Calls.mono zh1H.out ?_);rintro e w' ⟨rfl,rfl⟩)
   go_ret
   exact ⟨by rw[hfin.out];rfl,hg0⟩
  ·have zh1H:Hid (Calls Tryz.prog 108 #[.int .i64 s.c,.int .i64 a] (w.alloc (.cells #[.int .i64 s.k,.int .i64 s.a,.int .i64 s.b,.int .i64 s.c,.int .i64 s.o,.int .i64 s.v,.slice s.p s.l.length s.n] 48)) fun e w'=>e= .returned (.bool true)∧w'=(w.alloc (.cells #[.int .i64 s.k,.int .i64 s.a,.int .i64 s.b,.int .i64 s.c,.int .i64 s.o,.int .i64 s.v,.slice s.p s.l.length s.n] 48))):=below_g h1 (w.alloc (.cells #[.int .i64 s.k,.int .i64 s.a,.int .i64 s.b,.int .i64 s.c,.int .i64 s.o,.int .i64 s.v,.slice s.p s.l.length s.n] 48))
   cases h2:belowB s.v a
   ·have hfin:Hid (oneW s a=0):=by show _=_;unfold oneW;rw[if_neg (by omega:¬s.k=2),if_neg (by omega:¬s.k=3),if_neg (by omega:¬s.k=7),if_neg (by omega:¬s.k=8),if_pos hk];simp[*]
    have zh2H:Hid (Calls Tryz.prog 108 #[.int .i64 s.v,.int .i64 a] (w.alloc (.cells #[.int .i64 s.k,.int .i64 s.a,.int .i64 s.b,.int .i64 s.c,.int .i64 s.o,.int .i64 s.v,.slice s.p s.l.length s.n] 48)) fun e w'=>e= .returned (.bool false)∧w'=(w.alloc (.cells #[.int .i64 s.k,.int .i64 s.a,.int .i64 s.b,.int .i64 s.c,.int .i64 s.o,.int .i64 s.v,.slice s.p s.l.length s.n] 48))):=below_g h2 (w.alloc (.cells #[.int .i64 s.k,.int .i64 s.a,.int .i64 s.b,.int .i64 s.c,.int .i64 s.o,.int .i64 s.v,.slice s.p s.l.length s.n] 48))
    clear hk
    go_enter Tryz.func110,Tryz.ntmps110
    go_wp2_with (first|(go_at_call 108;(with_reducible refine Calls.mono zh1H.out ?_);rintro e w' ⟨rfl,rfl⟩)|(go_at_call 108;(with_reducible refine Calls.mono zh2H.out ?_);rintro e w' ⟨rfl,rfl⟩))
    go_ret
    exact ⟨by rw[hfin.out];rfl,hg0⟩
   ·have zh2H:Hid (Calls Tryz.prog 108 #[.int .i64 s.v,.int .i64 a] (w.alloc (.cells #[.int .i64 s.k,.int .i64 s.a,.int .i64 s.b,.int .i64 s.c,.int .i64 s.o,.int .i64 s.v,.slice s.p s.l.length s.n] 48)) fun e w'=>e= .returned (.bool true)∧w'=(w.alloc (.cells #[.int .i64 s.k,.int .i64 s.a,.int .i64 s.b,.int .i64 s.c,.int .i64 s.o,.int .i64 s.v,.slice s.p s.l.length s.n] 48))):=below_g h2 (w.alloc (.cells #[.int .i64 s.k,.int .i64 s.a,.int .i64 s.b,.int .i64 s.c,.int .i64 s.o,.int .i64 s.v,.slice s.p s.l.length s.n] 48))
    have hfin:Hid (oneW s a=2):=by show _=_;unfold oneW;rw[if_neg (by omega:¬s.k=2),if_neg (by omega:¬s.k=3),if_neg (by omega:¬s.k=7),if_neg (by omega:¬s.k=8),if_pos hk];simp[h1,h2]
    clear hk
    go_enter Tryz.func110,Tryz.ntmps110
    go_wp2_with (first|(go_at_call 108;(with_reducible refine Calls.mono zh1H.out ?_);rintro e w' ⟨rfl,rfl⟩)|(go_at_call 108;(with_reducible refine Calls.mono zh2H.out ?_);rintro e w' ⟨rfl,rfl⟩))
    go_ret
    exact ⟨by rw[hfin.out];rfl,hg0⟩
 have hfin:Hid (oneW s a=0):=by show _=_;unfold oneW;rw[if_neg (by assumption:¬s.k=2),if_neg (by assumption:¬s.k=3),if_neg (by assumption:¬s.k=7),if_neg (by assumption:¬s.k=8),if_neg (by assumption:¬s.k=9)]
 have q2:(s.k==2)=false:=by simp;omega
 have q3:(s.k==3)=false:=by simp;omega
 have q7:(s.k==7)=false:=by simp;omega
 have q8:(s.k==8)=false:=by simp;omega
 have q9:(s.k==9)=false:=by simp;omega
 go_enter Tryz.func110,Tryz.ntmps110
 go_wp2
 go_ret
 exact ⟨by rw[hfin.out];rfl,hg0⟩

set_option maxRecDepth 100000 in
set_option maxHeartbeats 4000000 in
theorem twoW_any (s:Stp) (a b:Int) (w:World) (ha:0≤a∧a≤8) (hb:0≤b∧b≤8) :
  Calls Tryz.prog 109 #[.agg #[.int .i64 s.k,.int .i64 s.a,.int .i64 s.b,.int .i64 s.c,.int .i64 s.o,.int .i64 s.v,.slice s.p s.l.length s.n],.int .i64 a,.int .i64 b] w fun e w'=>e= .returned (.int .i64 (twoW s a b))∧Gr w w':=by
 have hg0:Gr w (w.alloc (.cells #[.int .i64 s.k,.int .i64 s.a,.int .i64 s.b,.int .i64 s.c,.int .i64 s.o,.int .i64 s.v,.slice s.p s.l.length s.n] 48)):=(Gr.refl w).alloc _
 have hab:IntKind.i64.wrap (a+b)=a+b:=by rw[IntKind.wrap_i64];omega
 have c0:(w.alloc (.cells #[.int .i64 s.k,.int .i64 s.a,.int .i64 s.b,.int .i64 s.c,.int .i64 s.o,.int .i64 s.v,.slice s.p s.l.length s.n] 48)).cell? ⟨w.heap.size,0,none⟩=some (.int .i64 s.k):=box1 (Gr.refl _) rfl
 have c1:(w.alloc (.cells #[.int .i64 s.k,.int .i64 s.a,.int .i64 s.b,.int .i64 s.c,.int .i64 s.o,.int .i64 s.v,.slice s.p s.l.length s.n] 48)).cell? ⟨w.heap.size,1,none⟩=some (.int .i64 s.a):=box1 (Gr.refl _) rfl
 have c2:(w.alloc (.cells #[.int .i64 s.k,.int .i64 s.a,.int .i64 s.b,.int .i64 s.c,.int .i64 s.o,.int .i64 s.v,.slice s.p s.l.length s.n] 48)).cell? ⟨w.heap.size,2,none⟩=some (.int .i64 s.b):=box1 (Gr.refl _) rfl
 have c3:(w.alloc (.cells #[.int .i64 s.k,.int .i64 s.a,.int .i64 s.b,.int .i64 s.c,.int .i64 s.o,.int .i64 s.v,.slice s.p s.l.length s.n] 48)).cell? ⟨w.heap.size,3,none⟩=some (.int .i64 s.c):=box1 (Gr.refl _) rfl
 have c4:(w.alloc (.cells #[.int .i64 s.k,.int .i64 s.a,.int .i64 s.b,.int .i64 s.c,.int .i64 s.o,.int .i64 s.v,.slice s.p s.l.length s.n] 48)).cell? ⟨w.heap.size,4,none⟩=some (.int .i64 s.o):=box1 (Gr.refl _) rfl
 have c5:(w.alloc (.cells #[.int .i64 s.k,.int .i64 s.a,.int .i64 s.b,.int .i64 s.c,.int .i64 s.o,.int .i64 s.v,.slice s.p s.l.length s.n] 48)).cell? ⟨w.heap.size,5,none⟩=some (.int .i64 s.v):=box1 (Gr.refl _) rfl
 by_cases hk:s.k=4
 ·skip
  have e0:(w.alloc (.cells #[.int .i64 s.k,.int .i64 s.a,.int .i64 s.b,.int .i64 s.c,.int .i64 s.o,.int .i64 s.v,.slice s.p s.l.length s.n] 48)).cell? ⟨w.heap.size,0,none⟩=some (.int .i64 4):=by rw[←hk];exact c0
  clear c0
  by_cases h8:a+b≤8
  ·skip
   cases h1:belowB s.c a
   ·have hfin:Hid (twoW s a b=0):=by show _=_;unfold twoW;rw[if_pos hk];simp[*]
    have zh1H:Hid (Calls Tryz.prog 108 #[.int .i64 s.c,.int .i64 a] (w.alloc (.cells #[.int .i64 s.k,.int .i64 s.a,.int .i64 s.b,.int .i64 s.c,.int .i64 s.o,.int .i64 s.v,.slice s.p s.l.length s.n] 48)) fun e w'=>e= .returned (.bool false)∧w'=(w.alloc (.cells #[.int .i64 s.k,.int .i64 s.a,.int .i64 s.b,.int .i64 s.c,.int .i64 s.o,.int .i64 s.v,.slice s.p s.l.length s.n] 48))):=below_g h1 (w.alloc (.cells #[.int .i64 s.k,.int .i64 s.a,.int .i64 s.b,.int .i64 s.c,.int .i64 s.o,.int .i64 s.v,.slice s.p s.l.length s.n] 48))
    clear hk
    go_enter Tryz.func109,Tryz.ntmps109
    go_wp2_with (go_at_call 108;(with_reducible refine Calls.mono zh1H.out ?_);rintro e w' ⟨rfl,rfl⟩)
    go_ret
    exact ⟨by rw[hfin.out];rfl,hg0⟩
   ·have zh1H:Hid (Calls Tryz.prog 108 #[.int .i64 s.c,.int .i64 a] (w.alloc (.cells #[.int .i64 s.k,.int .i64 s.a,.int .i64 s.b,.int .i64 s.c,.int .i64 s.o,.int .i64 s.v,.slice s.p s.l.length s.n] 48)) fun e w'=>e= .returned (.bool true)∧w'=(w.alloc (.cells #[.int .i64 s.k,.int .i64 s.a,.int .i64 s.b,.int .i64 s.c,.int .i64 s.o,.int .i64 s.v,.slice s.p s.l.length s.n] 48))):=below_g h1 (w.alloc (.cells #[.int .i64 s.k,.int .i64 s.a,.int .i64 s.b,.int .i64 s.c,.int .i64 s.o,.int .i64 s.v,.slice s.p s.l.length s.n] 48))
    cases h2:belowB s.v b
    ·have hfin:Hid (twoW s a b=0):=by show _=_;unfold twoW;rw[if_pos hk];simp[*]
     have zh2H:Hid (Calls Tryz.prog 108 #[.int .i64 s.v,.int .i64 b] (w.alloc (.cells #[.int .i64 s.k,.int .i64 s.a,.int .i64 s.b,.int .i64 s.c,.int .i64 s.o,.int .i64 s.v,.slice s.p s.l.length s.n] 48)) fun e w'=>e= .returned (.bool false)∧w'=(w.alloc (.cells #[.int .i64 s.k,.int .i64 s.a,.int .i64 s.b,.int .i64 s.c,.int .i64 s.o,.int .i64 s.v,.slice s.p s.l.length s.n] 48))):=below_g h2 (w.alloc (.cells #[.int .i64 s.k,.int .i64 s.a,.int .i64 s.b,.int .i64 s.c,.int .i64 s.o,.int .i64 s.v,.slice s.p s.l.length s.n] 48))
     clear hk
     go_enter Tryz.func109,Tryz.ntmps109
     go_wp2_with (first|(go_at_call 108;(with_reducible refine Calls.mono zh1H.out ?_);rintro e w' ⟨rfl,rfl⟩)|(go_at_call 108;(with_reducible refine Calls.mono zh2H.out ?_);rintro e w' ⟨rfl,rfl⟩))
     go_ret
     exact ⟨by rw[hfin.out];rfl,hg0⟩
    ·have zh2H:Hid (Calls Tryz.prog 108 #[.int .i64 s.v,.int .i64 b] (w.alloc (.cells #[.int .i64 s.k,.int .i64 s.a,.int .i64 s.b,.int .i64 s.c,.int .i64 s.o,.int .i64 s.v,.slice s.p s.l.length s.n] 48)) fun e w'=>e= .returned (.bool true)∧w'=(w.alloc (.cells #[.int .i64 s.k,.int .i64 s.a,.int .i64 s.b,.int .i64 s.c,.int .i64 s.o,.int .i64 s.v,.slice s.p s.l.length s.n] 48))):=below_g h2 (w.alloc (.cells #[.int .i64 s.k,.int .i64 s.a,.int .i64 s.b,.int .i64 s.c,.int .i64 s.o,.int .i64 s.v,.slice s.p s.l.length s.n] 48))
     have hfin:Hid (twoW s a b=a+b):=by show _=_;unfold twoW;rw[if_pos hk];simp[h1,h2,h8]
     clear hk
     go_enter Tryz.func109,Tryz.ntmps109
     go_wp2_with (first|(go_at_call 108;(with_reducible refine Calls.mono zh1H.out ?_);rintro e w' ⟨rfl,rfl⟩)|(go_at_call 108;(with_reducible refine Calls.mono zh2H.out ?_);rintro e w' ⟨rfl,rfl⟩))
     go_ret
     exact ⟨by rw[hfin.out];rfl,hg0⟩
  ·skip
   cases h1:belowB s.c a
   ·have hfin:Hid (twoW s a b=0):=by show _=_;unfold twoW;rw[if_pos hk];simp[*]
    have zh1H:Hid (Calls Tryz.prog 108 #[.int .i64 s.c,.int .i64 a] (w.alloc (.cells #[.int .i64 s.k,.int .i64 s.a,.int .i64 s.b,.int .i64 s.c,.int .i64 s.o,.int .i64 s.v,.slice s.p s.l.length s.n] 48)) fun e w'=>e= .returned (.bool false)∧w'=(w.alloc (.cells #[.int .i64 s.k,.int .i64 s.a,.int .i64 s.b,.int .i64 s.c,.int .i64 s.o,.int .i64 s.v,.slice s.p s.l.length s.n] 48))):=below_g h1 (w.alloc (.cells #[.int .i64 s.k,.int .i64 s.a,.int .i64 s.b,.int .i64 s.c,.int .i64 s.o,.int .i64 s.v,.slice s.p s.l.length s.n] 48))
    clear hk
    go_enter Tryz.func109,Tryz.ntmps109
    go_wp2_with (go_at_call 108;(with_reducible refine Calls.mono zh1H.out ?_);rintro e w' ⟨rfl,rfl⟩)
    go_ret
    exact ⟨by rw[hfin.out];rfl,hg0⟩
   ·have zh1H:Hid (Calls Tryz.prog 108 #[.int .i64 s.c,.int .i64 a] (w.alloc (.cells #[.int .i64 s.k,.int .i64 s.a,.int .i64 s.b,.int .i64 s.c,.int .i64 s.o,.int .i64 s.v,.slice s.p s.l.length s.n] 48)) fun e w'=>e= .returned (.bool true)∧w'=(w.alloc (.cells #[.int .i64 s.k,.int .i64 s.a,.int .i64 s.b,.int .i64 s.c,.int .i64 s.o,.int .i64 s.v,.slice s.p s.l.length s.n] 48))):=below_g h1 (w.alloc (.cells #[.int .i64 s.k,.int .i64 s.a,.int .i64 s.b,.int .i64 s.c,.int .i64 s.o,.int .i64 s.v,.slice s.p s.l.length s.n] 48))
    cases h2:belowB s.v b
    ·have hfin:Hid (twoW s a b=0):=by show _=_;unfold twoW;rw[if_pos hk];simp[*]
     have zh2H:Hid (Calls Tryz.prog 108 #[.int .i64 s.v,.int .i64 b] (w.alloc (.cells #[.int .i64 s.k,.int .i64 s.a,.int .i64 s.b,.int .i64 s.c,.int .i64 s.o,.int .i64 s.v,.slice s.p s.l.length s.n] 48)) fun e w'=>e= .returned (.bool false)∧w'=(w.alloc (.cells #[.int .i64 s.k,.int .i64 s.a,.int .i64 s.b,.int .i64 s.c,.int .i64 s.o,.int .i64 s.v,.slice s.p s.l.length s.n] 48))):=below_g h2 (w.alloc (.cells #[.int .i64 s.k,.int .i64 s.a,.int .i64 s.b,.int .i64 s.c,.int .i64 s.o,.int .i64 s.v,.slice s.p s.l.length s.n] 48))
     clear hk
     go_enter Tryz.func109,Tryz.ntmps109
     go_wp2_with (first|(go_at_call 108;(with_reducible refine Calls.mono zh1H.out ?_);rintro e w' ⟨rfl,rfl⟩)|(go_at_call 108;(with_reducible refine Calls.mono zh2H.out ?_);rintro e w' ⟨rfl,rfl⟩))
     go_ret
     exact ⟨by rw[hfin.out];rfl,hg0⟩
    ·have zh2H:Hid (Calls Tryz.prog 108 #[.int .i64 s.v,.int .i64 b] (w.alloc (.cells #[.int .i64 s.k,.int .i64 s.a,.int .i64 s.b,.int .i64 s.c,.int .i64 s.o,.int .i64 s.v,.slice s.p s.l.length s.n] 48)) fun e w'=>e= .returned (.bool true)∧w'=(w.alloc (.cells #[.int .i64 s.k,.int .i64 s.a,.int .i64 s.b,.int .i64 s.c,.int .i64 s.o,.int .i64 s.v,.slice s.p s.l.length s.n] 48))):=below_g h2 (w.alloc (.cells #[.int .i64 s.k,.int .i64 s.a,.int .i64 s.b,.int .i64 s.c,.int .i64 s.o,.int .i64 s.v,.slice s.p s.l.length s.n] 48))
     have hfin:Hid (twoW s a b=0):=by show _=_;unfold twoW;rw[if_pos hk];simp[h8]
     clear hk
     go_enter Tryz.func109,Tryz.ntmps109
     go_wp2_with (first|(go_at_call 108;(with_reducible refine Calls.mono zh1H.out ?_);rintro e w' ⟨rfl,rfl⟩)|(go_at_call 108;(with_reducible refine Calls.mono zh2H.out ?_);rintro e w' ⟨rfl,rfl⟩))
     go_ret
     exact ⟨by rw[hfin.out];rfl,hg0⟩
 by_cases hk:s.k=5
 ·skip
  have e0:(w.alloc (.cells #[.int .i64 s.k,.int .i64 s.a,.int .i64 s.b,.int .i64 s.c,.int .i64 s.o,.int .i64 s.v,.slice s.p s.l.length s.n] 48)).cell? ⟨w.heap.size,0,none⟩=some (.int .i64 5):=by rw[←hk];exact c0
  clear c0
  by_cases hab2:a=b
  ·subst hab2
   have hfin:Hid (twoW s a a=a):=by show _=_;unfold twoW;rw[if_neg (by omega:¬s.k=4),if_pos hk];simp
   clear hk
   go_enter Tryz.func109,Tryz.ntmps109
   go_wp2
   go_ret
   exact ⟨by rw[hfin.out];rfl,hg0⟩
  ·have hfin:Hid (twoW s a b=0):=by show _=_;unfold twoW;rw[if_neg (by omega:¬s.k=4),if_pos hk];simp[hab2]
   have hqb:(a==b)=false:=by simpa using hab2
   clear hk hab2
   go_enter Tryz.func109,Tryz.ntmps109
   go_wp2
   go_ret
   exact ⟨by rw[hfin.out];rfl,hg0⟩
 by_cases hk:s.k=6
 ·skip
  have e0:(w.alloc (.cells #[.int .i64 s.k,.int .i64 s.a,.int .i64 s.b,.int .i64 s.c,.int .i64 s.o,.int .i64 s.v,.slice s.p s.l.length s.n] 48)).cell? ⟨w.heap.size,0,none⟩=some (.int .i64 6):=by rw[←hk];exact c0
  clear c0
  by_cases hab2:a=b
  ·subst hab2
   have hfin:Hid (twoW s a a=a):=by show _=_;unfold twoW;rw[if_neg (by omega:¬s.k=4),if_neg (by omega:¬s.k=5),if_pos hk];simp
   clear hk
   go_enter Tryz.func109,Tryz.ntmps109
   go_wp2
   go_ret
   exact ⟨by rw[hfin.out];rfl,hg0⟩
  ·have hfin:Hid (twoW s a b=0):=by show _=_;unfold twoW;rw[if_neg (by omega:¬s.k=4),if_neg (by omega:¬s.k=5),if_pos hk];simp[hab2]
   have hqb:(a==b)=false:=by simpa using hab2
   clear hk hab2
   go_enter Tryz.func109,Tryz.ntmps109
   go_wp2
   go_ret
   exact ⟨by rw[hfin.out];rfl,hg0⟩
 have hfin:Hid (twoW s a b=0):=by show _=_;unfold twoW;rw[if_neg (by assumption:¬s.k=4),if_neg (by assumption:¬s.k=5),if_neg (by assumption:¬s.k=6)]
 have q4:(s.k==4)=false:=by simp;omega
 have q5:(s.k==5)=false:=by simp;omega
 have q6:(s.k==6)=false:=by simp;omega
 go_enter Tryz.func109,Tryz.ntmps109
 go_wp2
 go_ret
 exact ⟨by rw[hfin.out];rfl,hg0⟩

end Go.Proofs.YtkadjjmkokhldaaGreat

namespace Go.Proofs.YtkadjjmkokhldaaGreat
open Go.RowKit Go.Sort

/-- The width of a step behind those of widths ah; 0, if it may not stand there. -/
def widW (s:Stp) (ah:List Int):Int:=if aloneB s=true then (if s.k=1 then (if belowB s.a 2=true then 4 else 0) else if belowB s.a ah.length=true then (if s.k=4∨s.k=5∨s.k=6 then (if belowB s.b ah.length=true then twoW s (ah.getD s.a.toNat 0) (ah.getD s.b.toNat 0) else 0) else oneW s (ah.getD s.a.toNat 0)) else 0) else 0
theorem grD {w w':World} (h:Gr w w'):∃q os',w'=grow (w.drewN q) os':=h
theorem below_nat {n:Int} {m:Nat} (h:belowB n m=true):∃k:Nat,n=k∧k<m:=by
 simp only[belowB,Bool.and_eq_true,decide_eq_true_eq] at h
 exact ⟨n.toNat,by omega,by omega⟩
theorem getD_in {l:List Int} {k:Nat} (h:k<l.length):l.getD k 0=l[k]:=by rw[List.getD_eq_getElem?_getD,List.getElem?_eq_getElem h];rfl

set_option maxRecDepth 100000 in
set_option maxHeartbeats 4000000 in
theorem width_any (s:Stp) (ah:List Int) (A:Option Addr) (ca:Nat) (w:World) (hl:s.l.length≤maxLen) (hr:RowI w s.p s.l) (hra:RowI w A ah) (hah:∀x∈ah,0≤x∧x≤8) :
  Calls Tryz.prog 86 #[.agg #[.int .i64 s.k,.int .i64 s.a,.int .i64 s.b,.int .i64 s.c,.int .i64 s.o,.int .i64 s.v,.slice s.p s.l.length s.n],.slice A ah.length ca] w fun e w'=>e= .returned (.int .i64 (widW s ah))∧Gr w w':=by
 have mixed:Tryz.prog.follows .mixedOrders=true:=by kernel_rfl
 have hg0:Gr w (w.alloc (.cells #[.int .i64 s.k,.int .i64 s.a,.int .i64 s.b,.int .i64 s.c,.int .i64 s.o,.int .i64 s.v,.slice s.p s.l.length s.n] 48)):=(Gr.refl w).alloc _
 have hlo:=alone_any s (w.alloc (.cells #[.int .i64 s.k,.int .i64 s.a,.int .i64 s.b,.int .i64 s.c,.int .i64 s.o,.int .i64 s.v,.slice s.p s.l.length s.n] 48))
 have hloH:Hid _:=hlo
 have c0:(w.alloc (.cells #[.int .i64 s.k,.int .i64 s.a,.int .i64 s.b,.int .i64 s.c,.int .i64 s.o,.int .i64 s.v,.slice s.p s.l.length s.n] 48)).cell? ⟨w.heap.size,0,none⟩=some (.int .i64 s.k):=box1 (Gr.refl _) rfl
 have c1:(w.alloc (.cells #[.int .i64 s.k,.int .i64 s.a,.int .i64 s.b,.int .i64 s.c,.int .i64 s.o,.int .i64 s.v,.slice s.p s.l.length s.n] 48)).cell? ⟨w.heap.size,1,none⟩=some (.int .i64 s.a):=box1 (Gr.refl _) rfl
 have c2:(w.alloc (.cells #[.int .i64 s.k,.int .i64 s.a,.int .i64 s.b,.int .i64 s.c,.int .i64 s.o,.int .i64 s.v,.slice s.p s.l.length s.n] 48)).cell? ⟨w.heap.size,2,none⟩=some (.int .i64 s.b):=box1 (Gr.refl _) rfl
 have c3:(w.alloc (.cells #[.int .i64 s.k,.int .i64 s.a,.int .i64 s.b,.int .i64 s.c,.int .i64 s.o,.int .i64 s.v,.slice s.p s.l.length s.n] 48)).cell? ⟨w.heap.size,3,none⟩=some (.int .i64 s.c):=box1 (Gr.refl _) rfl
 have c4:(w.alloc (.cells #[.int .i64 s.k,.int .i64 s.a,.int .i64 s.b,.int .i64 s.c,.int .i64 s.o,.int .i64 s.v,.slice s.p s.l.length s.n] 48)).cell? ⟨w.heap.size,4,none⟩=some (.int .i64 s.o):=box1 (Gr.refl _) rfl
 have c5:(w.alloc (.cells #[.int .i64 s.k,.int .i64 s.a,.int .i64 s.b,.int .i64 s.c,.int .i64 s.o,.int .i64 s.v,.slice s.p s.l.length s.n] 48)).cell? ⟨w.heap.size,5,none⟩=some (.int .i64 s.v):=box1 (Gr.refl _) rfl
 have c6:(w.alloc (.cells #[.int .i64 s.k,.int .i64 s.a,.int .i64 s.b,.int .i64 s.c,.int .i64 s.o,.int .i64 s.v,.slice s.p s.l.length s.n] 48)).cell? ⟨w.heap.size,6,none⟩=some (.slice s.p s.l.length s.n):=box1 (Gr.refl _) rfl
 have hrH:Hid (RowI w s.p s.l∧s.l.length≤maxLen∧RowI w A ah∧∀x∈ah,0≤x∧x≤8):=⟨hr,hl,hra,hah⟩
 clear hlo hr hl hra hah
 go_enter Tryz.func86,Tryz.ntmps86
 go_wp2_with fail
 refine Calls.mono (show Calls _ _ _ _ _ from hloH.out) ?_
 rintro e w1 ⟨rfl,hg1⟩
 clear hloH c0 c1 c2 c3 c4 c5 c6
 have c0:w1.cell? ⟨w.heap.size,0,none⟩=some (.int .i64 s.k):=box1 hg1 rfl
 have c1:w1.cell? ⟨w.heap.size,1,none⟩=some (.int .i64 s.a):=box1 hg1 rfl
 have c2:w1.cell? ⟨w.heap.size,2,none⟩=some (.int .i64 s.b):=box1 hg1 rfl
 have c3:w1.cell? ⟨w.heap.size,3,none⟩=some (.int .i64 s.c):=box1 hg1 rfl
 have c4:w1.cell? ⟨w.heap.size,4,none⟩=some (.int .i64 s.o):=box1 hg1 rfl
 have c5:w1.cell? ⟨w.heap.size,5,none⟩=some (.int .i64 s.v):=box1 hg1 rfl
 have c6:w1.cell? ⟨w.heap.size,6,none⟩=some (.slice s.p s.l.length s.n):=box1 hg1 rfl
 have hgw:Gr w w1:=hg0.trans hg1
 cases hal0:aloneB s
 ·have hfin:Hid (widW s ah=0):=by show _=_;unfold widW;rw[if_neg (by rw[hal0];simp)]
  go_wp2
  go_ret
  exact ⟨by rw[hfin.out];rfl,hgw⟩
 have hun:Hid (widW s ah=if s.k=1 then (if belowB s.a 2=true then 4 else 0) else if belowB s.a ah.length=true then (if s.k=4∨s.k=5∨s.k=6 then (if belowB s.b ah.length=true then twoW s (ah.getD s.a.toNat 0) (ah.getD s.b.toNat 0) else 0) else oneW s (ah.getD s.a.toNat 0)) else 0):=by show _=_;unfold widW;rw[if_pos hal0]
 by_cases hk:s.k=1
 ·have e0:w1.cell? ⟨w.heap.size,0,none⟩=some (.int .i64 1):=by rw[←hk];exact c0
  clear c0
  cases hb:belowB s.a 2
  ·have hfin:Hid (widW s ah=0):=by show _=_;rw[hun.out,if_pos hk,if_neg (by rw[hb];simp)]
   have hzH:Hid (Calls Tryz.prog 108 #[.int .i64 s.a,.int .i64 2] w1 fun e w'=>e= .returned (.bool false)∧w'=w1):=below_g hb w1
   clear hk
   go_wp2_with (go_at_call 108;(with_reducible refine Calls.mono hzH.out ?_);rintro e w' ⟨rfl,hw'⟩;subst w')
   go_ret
   exact ⟨by rw[hfin.out];rfl,hgw⟩
  ·have hfin:Hid (widW s ah=4):=by show _=_;rw[hun.out,if_pos hk,if_pos hb]
   have hzH:Hid (Calls Tryz.prog 108 #[.int .i64 s.a,.int .i64 2] w1 fun e w'=>e= .returned (.bool true)∧w'=w1):=below_g hb w1
   clear hk
   go_wp2_with (go_at_call 108;(with_reducible refine Calls.mono hzH.out ?_);rintro e w' ⟨rfl,hw'⟩;subst w')
   go_ret
   exact ⟨by rw[hfin.out];rfl,hgw⟩
 have hkb:(s.k==1)=false:=by simpa using hk
 cases hb:belowB s.a ah.length
 ·have hfin:Hid (widW s ah=0):=by show _=_;rw[hun.out,if_neg hk,if_neg (by rw[hb];simp)]
  have hzH:Hid (Calls Tryz.prog 108 #[.int .i64 s.a,.int .i64 ah.length] w1 fun e w'=>e= .returned (.bool false)∧w'=w1):=below_g hb w1
  clear hk
  go_wp2_with (go_at_call 108;(with_reducible refine Calls.mono hzH.out ?_);rintro e w' ⟨rfl,hw'⟩;subst w')
  go_ret
  exact ⟨by rw[hfin.out];rfl,hgw⟩
 have hzH:Hid (Calls Tryz.prog 108 #[.int .i64 s.a,.int .i64 ah.length] w1 fun e w'=>e= .returned (.bool true)∧w'=w1):=below_g hb w1
 obtain ⟨ka,hka,hkal⟩:=below_nat hb
 have hra1:RowI w1 A ah:=hrH.out.2.2.1.gr hgw
 obtain ⟨ba,oa,rfl,hba,hca⟩:=hra1.at hkal
 obtain ⟨xa,hxa⟩:∃x,ah[ka]=x:=⟨_,rfl⟩
 have ea0:=hca ka hkal 0 (by omega)
 rw[hxa] at ea0
 have ea:w1.cell? ⟨ba,oa+ka,none⟩=some (.int .i64 xa):=by simpa[encI] using ea0
 have hga:Hid (ah.getD s.a.toNat 0=xa∧0≤xa∧xa≤8):=by
  refine ⟨?_,hrH.out.2.2.2 xa (by rw[←hxa];exact List.getElem_mem hkal)⟩
  rw[hka,Int.toNat_natCast,getD_in hkal,hxa]
 have hkaz:(ka:Int)<(ah.length:Int):=by omega
 have d1:w1.cell? ⟨w.heap.size,1,none⟩=some (.int .i64 (ka:Int)):=by rw[←hka];exact c1
 rw[hka] at hzH
 clear ea0 hxa c1
 by_cases hk2:s.k=4∨s.k=5∨s.k=6
 ·cases hb2:belowB s.b ah.length
  ·have hfin:Hid (widW s ah=0):=by show _=_;rw[hun.out,if_neg hk,if_pos hb,if_pos hk2,if_neg (by rw[hb2];simp)]
   have hyH:Hid (Calls Tryz.prog 108 #[.int .i64 s.b,.int .i64 ah.length] w1 fun e w'=>e= .returned (.bool false)∧w'=w1):=below_g hb2 w1
   clear hk hka hb hca hra1
   rcases hk2 with k4|k4|k4
   all_goals
    rw[k4] at c0
    clear k4 hkb
    go_wp2_with (first|(go_at_call 108;(with_reducible refine Calls.mono hzH.out ?_);rintro e w' ⟨rfl,hw'⟩;subst w')|(go_at_call 108;(with_reducible refine Calls.mono hyH.out ?_);rintro e w' ⟨rfl,hw'⟩;subst w'))
    go_ret
    exact ⟨by rw[hfin.out];rfl,hgw⟩
  ·have hyH0:Calls Tryz.prog 108 #[.int .i64 s.b,.int .i64 ah.length] w1 fun e w'=>e= .returned (.bool true)∧w'=w1:=below_g hb2 w1
   obtain ⟨kb,hkb2,hkbl⟩:=below_nat hb2
   obtain ⟨xb,hxb⟩:∃x,ah[kb]=x:=⟨_,rfl⟩
   have eb0:=hca kb hkbl 0 (by omega)
   rw[hxb] at eb0
   have eb:w1.cell? ⟨ba,oa+kb,none⟩=some (.int .i64 xb):=by simpa[encI] using eb0
   have hgb:Hid (ah.getD s.b.toNat 0=xb∧0≤xb∧xb≤8):=by
    refine ⟨?_,hrH.out.2.2.2 xb (by rw[←hxb];exact List.getElem_mem hkbl)⟩
    rw[hkb2,Int.toNat_natCast,getD_in hkbl,hxb]
   have hkbz:(kb:Int)<(ah.length:Int):=by omega
   have d2:w1.cell? ⟨w.heap.size,2,none⟩=some (.int .i64 (kb:Int)):=by rw[←hkb2];exact c2
   rw[hkb2] at hyH0
   have hyH:Hid (Calls Tryz.prog 108 #[.int .i64 (kb:Int),.int .i64 ah.length] w1 fun e w'=>e= .returned (.bool true)∧w'=w1):=hyH0
   have hfin:Hid (widW s ah=twoW s xa xb):=by show _=_;rw[hun.out,if_neg hk,if_pos hb,if_pos hk2,if_pos hb2,hga.out.1,hgb.out.1]
   have htw:∀n os,Calls Tryz.prog 109 #[.agg #[.int .i64 s.k,.int .i64 s.a,.int .i64 s.b,.int .i64 s.c,.int .i64 s.o,.int .i64 s.v,.slice s.p s.l.length s.n],.int .i64 xa,.int .i64 xb] (grow (w1.drewN n) os) fun e w'=>e= .returned (.int .i64 (twoW s xa xb))∧∃q os',w'=grow ((grow (w1.drewN n) os).drewN q) os':=fun n os=>(twoW_any s xa xb _ hga.out.2 hgb.out.2).mono fun e w' h=>⟨h.1,grD h.2⟩
   rw[hka,hkb2] at htw
   have gb:=(Gr.refl w1).cellG (a:=⟨ba,oa+kb,none⟩) hba eb
   have xlt:w.heap.size<w1.heap.size:=World.block_lt_of_cell? w1 ⟨w.heap.size,0,none⟩ c0
   have g0:=(Gr.refl w1).cellG (a:=⟨w.heap.size,0,none⟩) xlt c0
   have g1:=(Gr.refl w1).cellG (a:=⟨w.heap.size,1,none⟩) xlt d1
   have g2:=(Gr.refl w1).cellG (a:=⟨w.heap.size,2,none⟩) xlt d2
   have g3:=(Gr.refl w1).cellG (a:=⟨w.heap.size,3,none⟩) xlt c3
   have g4:=(Gr.refl w1).cellG (a:=⟨w.heap.size,4,none⟩) xlt c4
   have g5:=(Gr.refl w1).cellG (a:=⟨w.heap.size,5,none⟩) xlt c5
   have g6:=(Gr.refl w1).cellG (a:=⟨w.heap.size,6,none⟩) xlt c6
   have ga:=(Gr.refl w1).cellG (a:=⟨ba,oa+ka,none⟩) hba ea
   clear hk hb hca hra1 eb0 hxb c2 hyH0 hb2
   rcases hk2 with k4|k4|k4
   all_goals
    rw[k4] at c0 htw g0
    have htwH:Hid (∀n os,Calls Tryz.prog 109 _ (grow (w1.drewN n) os) _):=htw
    clear k4 hkb htw
    go_wp2_with (first|(go_at_call 108;(with_reducible refine Calls.mono hzH.out ?_);rintro e w' ⟨rfl,hw'⟩;subst w')|(go_at_call 108;(with_reducible refine Calls.mono hyH.out ?_);rintro e w' ⟨rfl,hw'⟩;subst w'))
    refine wp_region_quiet_grown mixed (by kernel_rfl) ?_
    repeat (go_big_quiet_step ((go_at_call 109;refine Calls.grown_of (htwH.out _ _))))
    refine wpQuiet_nil ?_
    rintro _ ⟨⟨nq2,osq2⟩,rfl⟩
    go_wp2
    go_ret
    exact ⟨by rw[hfin.out];rfl,hgw.trans ⟨nq2,osq2,rfl⟩⟩
 ·have hfin:Hid (widW s ah=oneW s xa):=by show _=_;rw[hun.out,if_neg hk,if_pos hb,if_neg hk2,hga.out.1]
  have how:∀n os,Calls Tryz.prog 110 #[.agg #[.int .i64 s.k,.int .i64 s.a,.int .i64 s.b,.int .i64 s.c,.int .i64 s.o,.int .i64 s.v,.slice s.p s.l.length s.n],.int .i64 xa] (grow (w1.drewN n) os) fun e w'=>e= .returned (.int .i64 (oneW s xa))∧∃q os',w'=grow ((grow (w1.drewN n) os).drewN q) os':=fun n os=>(oneW_any s xa _ hrH.out.2.1 (hrH.out.1.gr (hgw.trans ⟨n,os,rfl⟩))).mono fun e w' h=>⟨h.1,grD h.2⟩
  rw[hka] at how
  have howH:Hid (∀n os,Calls Tryz.prog 110 _ (grow (w1.drewN n) os) _):=how
  have q4:(s.k==4)=false:=by simp;omega
  have q5:(s.k==5)=false:=by simp;omega
  have q6:(s.k==6)=false:=by simp;omega
  have xlt:w.heap.size<w1.heap.size:=World.block_lt_of_cell? w1 ⟨w.heap.size,0,none⟩ c0
  have g0:=(Gr.refl w1).cellG (a:=⟨w.heap.size,0,none⟩) xlt c0
  have g1:=(Gr.refl w1).cellG (a:=⟨w.heap.size,1,none⟩) xlt d1
  have g2:=(Gr.refl w1).cellG (a:=⟨w.heap.size,2,none⟩) xlt c2
  have g3:=(Gr.refl w1).cellG (a:=⟨w.heap.size,3,none⟩) xlt c3
  have g4:=(Gr.refl w1).cellG (a:=⟨w.heap.size,4,none⟩) xlt c4
  have g5:=(Gr.refl w1).cellG (a:=⟨w.heap.size,5,none⟩) xlt c5
  have g6:=(Gr.refl w1).cellG (a:=⟨w.heap.size,6,none⟩) xlt c6
  have ga:=(Gr.refl w1).cellG (a:=⟨ba,oa+ka,none⟩) hba ea
  clear hk hb hca hra1 how hk2
  go_wp2_with (go_at_call 108;(with_reducible refine Calls.mono hzH.out ?_);rintro e w' ⟨rfl,hw'⟩;subst w')
  refine wp_region_quiet_grown mixed (by kernel_rfl) ?_
  repeat (go_big_quiet_step ((go_at_call 110;refine Calls.grown_of (howH.out _ _))))
  refine wpQuiet_nil ?_
  rintro _ ⟨⟨nq2,osq2⟩,rfl⟩
  go_wp2
  go_ret
  exact ⟨by rw[hfin.out];rfl,hgw.trans ⟨nq2,osq2,rfl⟩⟩

end Go.Proofs.YtkadjjmkokhldaaGreat
