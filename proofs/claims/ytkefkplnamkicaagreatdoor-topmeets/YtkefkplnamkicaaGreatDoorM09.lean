/-
  query.widthOfOne, widthOfTwo: the width of a step's set.
  query.width: the width of a step behind those whose widths are given.
  query.widths, query.Check, query.Width.
  What a query tells, on plain lists: each step's set; where, pick, union and minus of two sets together are those of both, together.
  query.Check, query.Width; viewref.In.
  What a step's width is, in the document's tests, kind by kind.
-/
import Derived.Test.YtkefkplnamkicaaGreatDoorM08
set_option maxRecDepth 100000
set_option maxHeartbeats 8000000
open Go.Ending renaming returned → O
open Go.IntKind renaming i64 → I
open Go.Obj renaming cells → H
open Go.Proofs.Tryz renaming prog → S
open Go.Value renaming int → V, slice → J, bool → Z, agg → Y
namespace Go.Proofs.YtkefkplnamkicaaGreatDoor
open Go.RowKit Go.Sort

def cL (s:Stp) (a:Int):Int:=if s.k=2 then (if belowB s.c a && opB s.o && mI s.v then a else 0) else if s.k=3 then (if decide (s.l.length≤8) && s.l.all (fun n=>belowB n a) then s.l.length else 0) else if s.k=7 then a else if s.k=8 then (if belowB s.c a then 2 else 0) else if s.k=9 then (if belowB s.c a && belowB s.v a then 2 else 0) else 0
def dA (s:Stp) (a b:Int):Int:=if s.k=4 then (if belowB s.c a && belowB s.v b && decide (a+b≤8) then a+b else 0) else if s.k=5 then (if a=b then a else 0) else if s.k=6 then (if a=b then a else 0) else 0
theorem bQ {n k:Int} {r:Bool} (h:belowB n k=r) (w:World):Calls S 126 #[V I n,V I k] w fun e w'=>e= O (Z r)∧w'=w:=by rw[←h];exact im n k w
theorem B9 {n:Int} {r:Bool} (h:opB n=r) (w:World):Calls S 178 #[V I n] w fun e w'=>e= O (Z r)∧w'=w:=by rw[←h];exact xh n w
theorem zV {n:Int} {r:Bool} (h:mI n=r) (w:World):Calls S 179 #[V I n] w fun e w'=>e= O (Z r)∧w'=w:=by rw[←h];exact pJ n w

theorem xH (s:Stp) (a:Int) (w:World) (hl:s.l.length≤maxLen) (hr:ay w s.p s.l) :
  Calls S 128 #[Y #[V I s.k,V I s.a,V I s.b,V I s.c,V I s.o,V I s.v,J s.p s.l.length s.n],V I a] w fun e w'=>e= O (V I (cL s a))∧Gr w w':=by
 obtain ⟨W,hW⟩:∃W,w.alloc (H #[V I s.k,V I s.a,V I s.b,V I s.c,V I s.o,V I s.v,J s.p s.l.length s.n] 105)=W:=⟨_,rfl⟩
 have hg0:Gr w W:=by rw[←hW];exact (gR w).alloc _
 have c0:W.cell? ⟨w.heap.size,0,none⟩=some (V I s.k):=by rw[←hW];exact ab (gR _) rfl
 have c1:W.cell? ⟨w.heap.size,1,none⟩=some (V I s.a):=by rw[←hW];exact ab (gR _) rfl
 have c2:W.cell? ⟨w.heap.size,2,none⟩=some (V I s.b):=by rw[←hW];exact ab (gR _) rfl
 have c3:W.cell? ⟨w.heap.size,3,none⟩=some (V I s.c):=by rw[←hW];exact ab (gR _) rfl
 have c4:W.cell? ⟨w.heap.size,4,none⟩=some (V I s.o):=by rw[←hW];exact ab (gR _) rfl
 have c5:W.cell? ⟨w.heap.size,5,none⟩=some (V I s.v):=by rw[←hW];exact ab (gR _) rfl
 have c6:W.cell? ⟨w.heap.size,6,none⟩=some (J s.p s.l.length s.n):=by rw[←hW];exact ab (gR _) rfl
 have hrH:Hid (ay W s.p s.l∧s.l.length≤maxLen):=⟨hr.gr hg0,hl⟩
 clear hr hl
 by_cases hk:s.k=2
 ·skip
  have e0:W.cell? ⟨w.heap.size,0,none⟩=some (V I 2):=by rw[←hk];exact c0
  clear c0
  cases h1:belowB s.c a
  ·have hfin:Hid (cL s a=0):=by show _=_;unfold cL;rw[if_pos hk];simp[*]
   have zh1H:Hid (Calls S 126 #[V I s.c,V I a] W fun e w'=>e= O (Z false)∧w'=W):=bQ h1 W
   clear hk
   go_enter Tryz.func128,Tryz.ntmps128
   go_wp2_with (go_at_call 126;(with_reducible refine cM zh1H.out ?_);rintro e w' ⟨rfl,hw'⟩;subst w')
   go_ret
   exact ⟨by rw[hfin.out];rfl,hg0⟩
  ·have zh1H:Hid (Calls S 126 #[V I s.c,V I a] W fun e w'=>e= O (Z true)∧w'=W):=bQ h1 W
   cases h2:opB s.o
   ·have hfin:Hid (cL s a=0):=by show _=_;unfold cL;rw[if_pos hk];simp[*]
    have zh2H:Hid (Calls S 178 #[V I s.o] W fun e w'=>e= O (Z false)∧w'=W):=B9 h2 W
    clear hk
    go_enter Tryz.func128,Tryz.ntmps128
    go_wp2_with (first|(go_at_call 126;(with_reducible refine cM zh1H.out ?_);rintro e w' ⟨rfl,hw'⟩;subst w')|(go_at_call 178;(with_reducible refine cM zh2H.out ?_);rintro e w' ⟨rfl,hw'⟩;subst w'))
    go_ret
    exact ⟨by rw[hfin.out];rfl,hg0⟩
   ·have zh2H:Hid (Calls S 178 #[V I s.o] W fun e w'=>e= O (Z true)∧w'=W):=B9 h2 W
    cases h3:mI s.v
    ·have hfin:Hid (cL s a=0):=by show _=_;unfold cL;rw[if_pos hk];simp[*]
     have zh3H:Hid (Calls S 179 #[V I s.v] W fun e w'=>e= O (Z false)∧w'=W):=zV h3 W
     clear hk
     go_enter Tryz.func128,Tryz.ntmps128
     go_wp2_with (first|(go_at_call 126;(with_reducible refine cM zh1H.out ?_);rintro e w' ⟨rfl,hw'⟩;subst w')|(go_at_call 178;(with_reducible refine cM zh2H.out ?_);rintro e w' ⟨rfl,hw'⟩;subst w')|(go_at_call 179;(with_reducible refine cM zh3H.out ?_);rintro e w' ⟨rfl,hw'⟩;subst w'))
     go_ret
     exact ⟨by rw[hfin.out];rfl,hg0⟩
    ·have zh3H:Hid (Calls S 179 #[V I s.v] W fun e w'=>e= O (Z true)∧w'=W):=zV h3 W
     have hfin:Hid (cL s a=a):=by show _=_;unfold cL;rw[if_pos hk];simp[h1,h2,h3]
     clear hk
     go_enter Tryz.func128,Tryz.ntmps128
     go_wp2_with (first|(go_at_call 126;(with_reducible refine cM zh1H.out ?_);rintro e w' ⟨rfl,hw'⟩;subst w')|(go_at_call 178;(with_reducible refine cM zh2H.out ?_);rintro e w' ⟨rfl,hw'⟩;subst w')|(go_at_call 179;(with_reducible refine cM zh3H.out ?_);rintro e w' ⟨rfl,hw'⟩;subst w'))
     go_ret
     exact ⟨by rw[hfin.out];rfl,hg0⟩
 by_cases hk:s.k=3
 ·skip
  have e0:W.cell? ⟨w.heap.size,0,none⟩=some (V I 3):=by rw[←hk];exact c0
  clear c0
  have har:=pA s.l a s.p s.n W hrH.out.2 hrH.out.1
  by_cases h8:s.l.length≤8
  ·have h8z:(s.l.length:Int)≤8:=by omega
   cases h1:s.l.all (fun n=>belowB n a)
   ·have hfin:Hid (cL s a=0):=by show _=_;unfold cL;rw[if_neg (by omega:¬s.k=2),if_pos hk];simp[h1]
    rw[h1] at har
    have harH:Hid _:=har
    clear har hk
    go_enter Tryz.func128,Tryz.ntmps128
    go_wp2_with fail
    refine cM (show Calls _ _ _ _ _ from harH.out) ?_
    rintro e w2 ⟨rfl,hg2⟩
    have d6:w2.cell? ⟨w.heap.size,6,none⟩=some (J s.p s.l.length s.n):=(hg2.cell (p:=⟨w.heap.size,6,none⟩) (by rw[←hW];simp)).trans c6
    clear harH c1 c2 c3 c4 c5 c6 e0
    go_wp2
    go_ret
    exact ⟨by rw[hfin.out];rfl,hg0.trans hg2⟩
   ·have hfin:Hid (cL s a=s.l.length):=by show _=_;unfold cL;rw[if_neg (by omega:¬s.k=2),if_pos hk];simp[h1,h8]
    rw[h1] at har
    have harH:Hid _:=har
    clear har hk
    go_enter Tryz.func128,Tryz.ntmps128
    go_wp2_with fail
    refine cM (show Calls _ _ _ _ _ from harH.out) ?_
    rintro e w2 ⟨rfl,hg2⟩
    have d6:w2.cell? ⟨w.heap.size,6,none⟩=some (J s.p s.l.length s.n):=(hg2.cell (p:=⟨w.heap.size,6,none⟩) (by rw[←hW];simp)).trans c6
    clear harH c1 c2 c3 c4 c5 c6 e0
    go_wp2
    go_ret
    exact ⟨by rw[hfin.out];rfl,hg0.trans hg2⟩
  ·have h8z:¬(s.l.length:Int)≤8:=by omega
   have hfin:Hid (cL s a=0):=by show _=_;unfold cL;rw[if_neg (by omega:¬s.k=2),if_pos hk];simp[h8]
   clear har hk
   go_enter Tryz.func128,Tryz.ntmps128
   go_wp2
   go_ret
   exact ⟨by rw[hfin.out];rfl,hg0⟩
 by_cases hk:s.k=7
 ·skip
  have e0:W.cell? ⟨w.heap.size,0,none⟩=some (V I 7):=by rw[←hk];exact c0
  clear c0
  have hfin:Hid (cL s a=a):=by show _=_;unfold cL;rw[if_neg (by omega:¬s.k=2),if_neg (by omega:¬s.k=3),if_pos hk]
  clear hk
  go_enter Tryz.func128,Tryz.ntmps128
  go_wp2
  go_ret
  exact ⟨by rw[hfin.out];rfl,hg0⟩
 by_cases hk:s.k=8
 ·skip
  have e0:W.cell? ⟨w.heap.size,0,none⟩=some (V I 8):=by rw[←hk];exact c0
  clear c0
  cases h1:belowB s.c a
  ·have hfin:Hid (cL s a=0):=by show _=_;unfold cL;rw[if_neg (by omega:¬s.k=2),if_neg (by omega:¬s.k=3),if_neg (by omega:¬s.k=7),if_pos hk];simp[*]
   have zh1H:Hid (Calls S 126 #[V I s.c,V I a] W fun e w'=>e= O (Z false)∧w'=W):=bQ h1 W
   clear hk
   go_enter Tryz.func128,Tryz.ntmps128
   go_wp2_with (go_at_call 126;(with_reducible refine cM zh1H.out ?_);rintro e w' ⟨rfl,hw'⟩;subst w')
   go_ret
   exact ⟨by rw[hfin.out];rfl,hg0⟩
  ·have zh1H:Hid (Calls S 126 #[V I s.c,V I a] W fun e w'=>e= O (Z true)∧w'=W):=bQ h1 W
   have hfin:Hid (cL s a=2):=by show _=_;unfold cL;rw[if_neg (by omega:¬s.k=2),if_neg (by omega:¬s.k=3),if_neg (by omega:¬s.k=7),if_pos hk];simp[h1]
   clear hk
   go_enter Tryz.func128,Tryz.ntmps128
   go_wp2_with (go_at_call 126;(with_reducible refine cM zh1H.out ?_);rintro e w' ⟨rfl,hw'⟩;subst w')
   go_ret
   exact ⟨by rw[hfin.out];rfl,hg0⟩
 by_cases hk:s.k=9
 ·skip
  have e0:W.cell? ⟨w.heap.size,0,none⟩=some (V I 9):=by rw[←hk];exact c0
  clear c0
  cases h1:belowB s.c a
  ·have hfin:Hid (cL s a=0):=by show _=_;unfold cL;rw[if_neg (by omega:¬s.k=2),if_neg (by omega:¬s.k=3),if_neg (by omega:¬s.k=7),if_neg (by omega:¬s.k=8),if_pos hk];simp[*]
   have zh1H:Hid (Calls S 126 #[V I s.c,V I a] W fun e w'=>e= O (Z false)∧w'=W):=bQ h1 W
   clear hk
   go_enter Tryz.func128,Tryz.ntmps128
   go_wp2_with (go_at_call 126;(with_reducible refine cM zh1H.out ?_);rintro e w' ⟨rfl,hw'⟩;subst w')
   go_ret
   exact ⟨by rw[hfin.out];rfl,hg0⟩
  ·have zh1H:Hid (Calls S 126 #[V I s.c,V I a] W fun e w'=>e= O (Z true)∧w'=W):=bQ h1 W
   cases h2:belowB s.v a
   ·have hfin:Hid (cL s a=0):=by show _=_;unfold cL;rw[if_neg (by omega:¬s.k=2),if_neg (by omega:¬s.k=3),if_neg (by omega:¬s.k=7),if_neg (by omega:¬s.k=8),if_pos hk];simp[*]
    have zh2H:Hid (Calls S 126 #[V I s.v,V I a] W fun e w'=>e= O (Z false)∧w'=W):=bQ h2 W
    clear hk
    go_enter Tryz.func128,Tryz.ntmps128
    go_wp2_with (first|(go_at_call 126;(with_reducible refine cM zh1H.out ?_);rintro e w' ⟨rfl,hw'⟩;subst w')|(go_at_call 126;(with_reducible refine cM zh2H.out ?_);rintro e w' ⟨rfl,hw'⟩;subst w'))
    go_ret
    exact ⟨by rw[hfin.out];rfl,hg0⟩
   ·have zh2H:Hid (Calls S 126 #[V I s.v,V I a] W fun e w'=>e= O (Z true)∧w'=W):=bQ h2 W
    have hfin:Hid (cL s a=2):=by show _=_;unfold cL;rw[if_neg (by omega:¬s.k=2),if_neg (by omega:¬s.k=3),if_neg (by omega:¬s.k=7),if_neg (by omega:¬s.k=8),if_pos hk];simp[h1,h2]
    clear hk
    go_enter Tryz.func128,Tryz.ntmps128
    go_wp2_with (first|(go_at_call 126;(with_reducible refine cM zh1H.out ?_);rintro e w' ⟨rfl,hw'⟩;subst w')|(go_at_call 126;(with_reducible refine cM zh2H.out ?_);rintro e w' ⟨rfl,hw'⟩;subst w'))
    go_ret
    exact ⟨by rw[hfin.out];rfl,hg0⟩
 have hfin:Hid (cL s a=0):=by show _=_;unfold cL;rw[if_neg (by assumption:¬s.k=2),if_neg (by assumption:¬s.k=3),if_neg (by assumption:¬s.k=7),if_neg (by assumption:¬s.k=8),if_neg (by assumption:¬s.k=9)]
 have q2:(s.k==2)=false:=by simp;omega
 have q3:(s.k==3)=false:=by simp;omega
 have q7:(s.k==7)=false:=by simp;omega
 have q8:(s.k==8)=false:=by simp;omega
 have q9:(s.k==9)=false:=by simp;omega
 go_enter Tryz.func128,Tryz.ntmps128
 go_wp2
 go_ret
 exact ⟨by rw[hfin.out];rfl,hg0⟩

theorem yr (s:Stp) (a b:Int) (w:World) (ha:0≤a∧a≤8) (hb:0≤b∧b≤8) :
  Calls S 127 #[Y #[V I s.k,V I s.a,V I s.b,V I s.c,V I s.o,V I s.v,J s.p s.l.length s.n],V I a,V I b] w fun e w'=>e= O (V I (dA s a b))∧Gr w w':=by
 obtain ⟨W,hW⟩:∃W,w.alloc (H #[V I s.k,V I s.a,V I s.b,V I s.c,V I s.o,V I s.v,J s.p s.l.length s.n] 105)=W:=⟨_,rfl⟩
 have hg0:Gr w W:=by rw[←hW];exact (gR w).alloc _
 have hab:IntKind.i64.wrap (a+b)=a+b:=by rw[IntKind.wrap_i64];omega
 have c0:W.cell? ⟨w.heap.size,0,none⟩=some (V I s.k):=by rw[←hW];exact ab (gR _) rfl
 have c1:W.cell? ⟨w.heap.size,1,none⟩=some (V I s.a):=by rw[←hW];exact ab (gR _) rfl
 have c2:W.cell? ⟨w.heap.size,2,none⟩=some (V I s.b):=by rw[←hW];exact ab (gR _) rfl
 have c3:W.cell? ⟨w.heap.size,3,none⟩=some (V I s.c):=by rw[←hW];exact ab (gR _) rfl
 have c4:W.cell? ⟨w.heap.size,4,none⟩=some (V I s.o):=by rw[←hW];exact ab (gR _) rfl
 have c5:W.cell? ⟨w.heap.size,5,none⟩=some (V I s.v):=by rw[←hW];exact ab (gR _) rfl
 by_cases hk:s.k=4
 ·skip
  have e0:W.cell? ⟨w.heap.size,0,none⟩=some (V I 4):=by rw[←hk];exact c0
  clear c0
  by_cases h8:a+b≤8
  ·skip
   cases h1:belowB s.c a
   ·have hfin:Hid (dA s a b=0):=by show _=_;unfold dA;rw[if_pos hk];simp[*]
    have zh1H:Hid (Calls S 126 #[V I s.c,V I a] W fun e w'=>e= O (Z false)∧w'=W):=bQ h1 W
    clear hk
    go_enter Tryz.func127,Tryz.ntmps127
    go_wp2_with (go_at_call 126;(with_reducible refine cM zh1H.out ?_);rintro e w' ⟨rfl,hw'⟩;subst w')
    go_ret
    exact ⟨by rw[hfin.out];rfl,hg0⟩
   ·have zh1H:Hid (Calls S 126 #[V I s.c,V I a] W fun e w'=>e= O (Z true)∧w'=W):=bQ h1 W
    cases h2:belowB s.v b
    ·have hfin:Hid (dA s a b=0):=by show _=_;unfold dA;rw[if_pos hk];simp[*]
     have zh2H:Hid (Calls S 126 #[V I s.v,V I b] W fun e w'=>e= O (Z false)∧w'=W):=bQ h2 W
     clear hk
     go_enter Tryz.func127,Tryz.ntmps127
     go_wp2_with (first|(go_at_call 126;(with_reducible refine cM zh1H.out ?_);rintro e w' ⟨rfl,hw'⟩;subst w')|(go_at_call 126;(with_reducible refine cM zh2H.out ?_);rintro e w' ⟨rfl,hw'⟩;subst w'))
     go_ret
     exact ⟨by rw[hfin.out];rfl,hg0⟩
    ·have zh2H:Hid (Calls S 126 #[V I s.v,V I b] W fun e w'=>e= O (Z true)∧w'=W):=bQ h2 W
     have hfin:Hid (dA s a b=a+b):=by show _=_;unfold dA;rw[if_pos hk];simp[h1,h2,h8]
     clear hk
     go_enter Tryz.func127,Tryz.ntmps127
     go_wp2_with (first|(go_at_call 126;(with_reducible refine cM zh1H.out ?_);rintro e w' ⟨rfl,hw'⟩;subst w')|(go_at_call 126;(with_reducible refine cM zh2H.out ?_);rintro e w' ⟨rfl,hw'⟩;subst w'))
     go_ret
     exact ⟨by rw[hfin.out];rfl,hg0⟩
  ·skip
   cases h1:belowB s.c a
   ·have hfin:Hid (dA s a b=0):=by show _=_;unfold dA;rw[if_pos hk];simp[*]
    have zh1H:Hid (Calls S 126 #[V I s.c,V I a] W fun e w'=>e= O (Z false)∧w'=W):=bQ h1 W
    clear hk
    go_enter Tryz.func127,Tryz.ntmps127
    go_wp2_with (go_at_call 126;(with_reducible refine cM zh1H.out ?_);rintro e w' ⟨rfl,hw'⟩;subst w')
    go_ret
    exact ⟨by rw[hfin.out];rfl,hg0⟩
   ·have zh1H:Hid (Calls S 126 #[V I s.c,V I a] W fun e w'=>e= O (Z true)∧w'=W):=bQ h1 W
    cases h2:belowB s.v b
    ·have hfin:Hid (dA s a b=0):=by show _=_;unfold dA;rw[if_pos hk];simp[*]
     have zh2H:Hid (Calls S 126 #[V I s.v,V I b] W fun e w'=>e= O (Z false)∧w'=W):=bQ h2 W
     clear hk
     go_enter Tryz.func127,Tryz.ntmps127
     go_wp2_with (first|(go_at_call 126;(with_reducible refine cM zh1H.out ?_);rintro e w' ⟨rfl,hw'⟩;subst w')|(go_at_call 126;(with_reducible refine cM zh2H.out ?_);rintro e w' ⟨rfl,hw'⟩;subst w'))
     go_ret
     exact ⟨by rw[hfin.out];rfl,hg0⟩
    ·have zh2H:Hid (Calls S 126 #[V I s.v,V I b] W fun e w'=>e= O (Z true)∧w'=W):=bQ h2 W
     have hfin:Hid (dA s a b=0):=by show _=_;unfold dA;rw[if_pos hk];simp[h8]
     clear hk
     go_enter Tryz.func127,Tryz.ntmps127
     go_wp2_with (first|(go_at_call 126;(with_reducible refine cM zh1H.out ?_);rintro e w' ⟨rfl,hw'⟩;subst w')|(go_at_call 126;(with_reducible refine cM zh2H.out ?_);rintro e w' ⟨rfl,hw'⟩;subst w'))
     go_ret
     exact ⟨by rw[hfin.out];rfl,hg0⟩
 by_cases hk:s.k=5
 ·skip
  have e0:W.cell? ⟨w.heap.size,0,none⟩=some (V I 5):=by rw[←hk];exact c0
  clear c0
  by_cases hab2:a=b
  ·subst hab2
   have hfin:Hid (dA s a a=a):=by show _=_;unfold dA;rw[if_neg (by omega:¬s.k=4),if_pos hk];simp
   clear hk
   go_enter Tryz.func127,Tryz.ntmps127
   go_wp2
   go_ret
   exact ⟨by rw[hfin.out];rfl,hg0⟩
  ·have hfin:Hid (dA s a b=0):=by show _=_;unfold dA;rw[if_neg (by omega:¬s.k=4),if_pos hk];simp[hab2]
   have hqb:(a==b)=false:=by simpa using hab2
   clear hk hab2
   go_enter Tryz.func127,Tryz.ntmps127
   go_wp2
   go_ret
   exact ⟨by rw[hfin.out];rfl,hg0⟩
 by_cases hk:s.k=6
 ·skip
  have e0:W.cell? ⟨w.heap.size,0,none⟩=some (V I 6):=by rw[←hk];exact c0
  clear c0
  by_cases hab2:a=b
  ·subst hab2
   have hfin:Hid (dA s a a=a):=by show _=_;unfold dA;rw[if_neg (by omega:¬s.k=4),if_neg (by omega:¬s.k=5),if_pos hk];simp
   clear hk
   go_enter Tryz.func127,Tryz.ntmps127
   go_wp2
   go_ret
   exact ⟨by rw[hfin.out];rfl,hg0⟩
  ·have hfin:Hid (dA s a b=0):=by show _=_;unfold dA;rw[if_neg (by omega:¬s.k=4),if_neg (by omega:¬s.k=5),if_pos hk];simp[hab2]
   have hqb:(a==b)=false:=by simpa using hab2
   clear hk hab2
   go_enter Tryz.func127,Tryz.ntmps127
   go_wp2
   go_ret
   exact ⟨by rw[hfin.out];rfl,hg0⟩
 have hfin:Hid (dA s a b=0):=by show _=_;unfold dA;rw[if_neg (by assumption:¬s.k=4),if_neg (by assumption:¬s.k=5),if_neg (by assumption:¬s.k=6)]
 have q4:(s.k==4)=false:=by simp;omega
 have q5:(s.k==5)=false:=by simp;omega
 have q6:(s.k==6)=false:=by simp;omega
 go_enter Tryz.func127,Tryz.ntmps127
 go_wp2
 go_ret
 exact ⟨by rw[hfin.out];rfl,hg0⟩


def aO (s:Stp) (ah:List Int):Int:=if bJ s=true then (if s.k=1 then (if belowB s.a 2=true then 4 else 0) else if belowB s.a ah.length=true then (if s.k=4∨s.k=5∨s.k=6 then (if belowB s.b ah.length=true then dA s (ah.getD s.a.toNat 0) (ah.getD s.b.toNat 0) else 0) else cL s (ah.getD s.a.toNat 0)) else 0) else 0
theorem grD {w w':World} (h:Gr w w'):∃q os',w'=grow (w.drewN q) os':=h
theorem oe {n:Int} {m:Nat} (h:belowB n m=true):∃k:Nat,n=k∧k<m:=by
 simp only[belowB,Bool.and_eq_true,decide_eq_true_eq] at h
 exact ⟨n.toNat,by omega,by omega⟩
theorem tJ {l:List Int} {k:Nat} (h:k<l.length):l.getD k 0=l[k]:=by rw[List.getD_eq_getElem?_getD,List.getElem?_eq_getElem h];rfl

theorem vQ (s:Stp) (ah:List Int) (A:Option Addr) (ca:Nat) (w:World) (hl:s.l.length≤maxLen) (hr:ay w s.p s.l) (hra:ay w A ah) (hah:∀x∈ah,0≤x∧x≤8) :
  Calls S 89 #[Y #[V I s.k,V I s.a,V I s.b,V I s.c,V I s.o,V I s.v,J s.p s.l.length s.n],J A ah.length ca] w fun e w'=>e= O (V I (aO s ah))∧Gr w w':=by
 have mixed:Tryz.prog.follows .mixedOrders=true:=by kernel_rfl
 have hg0:Gr w (w.alloc (H #[V I s.k,V I s.a,V I s.b,V I s.c,V I s.o,V I s.v,J s.p s.l.length s.n] 105)):=(gR w).alloc _
 have hlo:=ul s (w.alloc (H #[V I s.k,V I s.a,V I s.b,V I s.c,V I s.o,V I s.v,J s.p s.l.length s.n] 105))
 have hloH:Hid _:=hlo
 have c0:(w.alloc (H #[V I s.k,V I s.a,V I s.b,V I s.c,V I s.o,V I s.v,J s.p s.l.length s.n] 105)).cell? ⟨w.heap.size,0,none⟩=some (V I s.k):=ab (gR _) rfl
 have c1:(w.alloc (H #[V I s.k,V I s.a,V I s.b,V I s.c,V I s.o,V I s.v,J s.p s.l.length s.n] 105)).cell? ⟨w.heap.size,1,none⟩=some (V I s.a):=ab (gR _) rfl
 have c2:(w.alloc (H #[V I s.k,V I s.a,V I s.b,V I s.c,V I s.o,V I s.v,J s.p s.l.length s.n] 105)).cell? ⟨w.heap.size,2,none⟩=some (V I s.b):=ab (gR _) rfl
 have c3:(w.alloc (H #[V I s.k,V I s.a,V I s.b,V I s.c,V I s.o,V I s.v,J s.p s.l.length s.n] 105)).cell? ⟨w.heap.size,3,none⟩=some (V I s.c):=ab (gR _) rfl
 have c4:(w.alloc (H #[V I s.k,V I s.a,V I s.b,V I s.c,V I s.o,V I s.v,J s.p s.l.length s.n] 105)).cell? ⟨w.heap.size,4,none⟩=some (V I s.o):=ab (gR _) rfl
 have c5:(w.alloc (H #[V I s.k,V I s.a,V I s.b,V I s.c,V I s.o,V I s.v,J s.p s.l.length s.n] 105)).cell? ⟨w.heap.size,5,none⟩=some (V I s.v):=ab (gR _) rfl
 have c6:(w.alloc (H #[V I s.k,V I s.a,V I s.b,V I s.c,V I s.o,V I s.v,J s.p s.l.length s.n] 105)).cell? ⟨w.heap.size,6,none⟩=some (J s.p s.l.length s.n):=ab (gR _) rfl
 have hrH:Hid (ay w s.p s.l∧s.l.length≤maxLen∧ay w A ah∧∀x∈ah,0≤x∧x≤8):=⟨hr,hl,hra,hah⟩
 clear hlo hr hl hra hah
 go_enter Tryz.func89,Tryz.ntmps89
 go_wp2_with fail
 refine cM (show Calls _ _ _ _ _ from hloH.out) ?_
 rintro e w1 ⟨rfl,hg1⟩
 clear hloH c0 c1 c2 c3 c4 c5 c6
 have c0:w1.cell? ⟨w.heap.size,0,none⟩=some (V I s.k):=ab hg1 rfl
 have c1:w1.cell? ⟨w.heap.size,1,none⟩=some (V I s.a):=ab hg1 rfl
 have c2:w1.cell? ⟨w.heap.size,2,none⟩=some (V I s.b):=ab hg1 rfl
 have c3:w1.cell? ⟨w.heap.size,3,none⟩=some (V I s.c):=ab hg1 rfl
 have c4:w1.cell? ⟨w.heap.size,4,none⟩=some (V I s.o):=ab hg1 rfl
 have c5:w1.cell? ⟨w.heap.size,5,none⟩=some (V I s.v):=ab hg1 rfl
 have c6:w1.cell? ⟨w.heap.size,6,none⟩=some (J s.p s.l.length s.n):=ab hg1 rfl
 have hgw:Gr w w1:=hg0.trans hg1
 cases hal0:bJ s
 ·have hfin:Hid (aO s ah=0):=by show _=_;unfold aO;rw[if_neg (by rw[hal0];simp)]
  go_wp2
  go_ret
  exact ⟨by rw[hfin.out];rfl,hgw⟩
 have hun:Hid (aO s ah=if s.k=1 then (if belowB s.a 2=true then 4 else 0) else if belowB s.a ah.length=true then (if s.k=4∨s.k=5∨s.k=6 then (if belowB s.b ah.length=true then dA s (ah.getD s.a.toNat 0) (ah.getD s.b.toNat 0) else 0) else cL s (ah.getD s.a.toNat 0)) else 0):=by show _=_;unfold aO;rw[if_pos hal0]
 by_cases hk:s.k=1
 ·have e0:w1.cell? ⟨w.heap.size,0,none⟩=some (V I 1):=by rw[←hk];exact c0
  clear c0
  cases hb:belowB s.a 2
  ·have hfin:Hid (aO s ah=0):=by show _=_;rw[hun.out,if_pos hk,if_neg (by rw[hb];simp)]
   have hzH:Hid (Calls S 126 #[V I s.a,V I 2] w1 fun e w'=>e= O (Z false)∧w'=w1):=bQ hb w1
   clear hk
   go_wp2_with (go_at_call 126;(with_reducible refine cM hzH.out ?_);rintro e w' ⟨rfl,hw'⟩;subst w')
   go_ret
   exact ⟨by rw[hfin.out];rfl,hgw⟩
  ·have hfin:Hid (aO s ah=4):=by show _=_;rw[hun.out,if_pos hk,if_pos hb]
   have hzH:Hid (Calls S 126 #[V I s.a,V I 2] w1 fun e w'=>e= O (Z true)∧w'=w1):=bQ hb w1
   clear hk
   go_wp2_with (go_at_call 126;(with_reducible refine cM hzH.out ?_);rintro e w' ⟨rfl,hw'⟩;subst w')
   go_ret
   exact ⟨by rw[hfin.out];rfl,hgw⟩
 have hkb:(s.k==1)=false:=by simpa using hk
 cases hb:belowB s.a ah.length
 ·have hfin:Hid (aO s ah=0):=by show _=_;rw[hun.out,if_neg hk,if_neg (by rw[hb];simp)]
  have hzH:Hid (Calls S 126 #[V I s.a,V I ah.length] w1 fun e w'=>e= O (Z false)∧w'=w1):=bQ hb w1
  clear hk
  go_wp2_with (go_at_call 126;(with_reducible refine cM hzH.out ?_);rintro e w' ⟨rfl,hw'⟩;subst w')
  go_ret
  exact ⟨by rw[hfin.out];rfl,hgw⟩
 have hzH:Hid (Calls S 126 #[V I s.a,V I ah.length] w1 fun e w'=>e= O (Z true)∧w'=w1):=bQ hb w1
 obtain ⟨ka,hka,hkal⟩:=oe hb
 have hra1:ay w1 A ah:=hrH.out.2.2.1.gr hgw
 obtain ⟨ba,oa,rfl,hba,hca⟩:=hra1.at hkal
 obtain ⟨xa,hxa⟩:∃x,ah[ka]=x:=⟨_,rfl⟩
 have ea0:=hca ka hkal 0 (by omega)
 rw[hxa] at ea0
 have ea:w1.cell? ⟨ba,oa+ka,none⟩=some (V I xa):=by simpa[fp] using ea0
 have hga:Hid (ah.getD s.a.toNat 0=xa∧0≤xa∧xa≤8):=by
  refine ⟨?_,hrH.out.2.2.2 xa (by rw[←hxa];exact gM hkal)⟩
  rw[hka,Int.toNat_natCast,tJ hkal,hxa]
 have hkaz:(ka:Int)<(ah.length:Int):=by omega
 have d1:w1.cell? ⟨w.heap.size,1,none⟩=some (V I (ka:Int)):=by rw[←hka];exact c1
 rw[hka] at hzH
 clear ea0 hxa c1
 by_cases hk2:s.k=4∨s.k=5∨s.k=6
 ·cases hb2:belowB s.b ah.length
  ·have hfin:Hid (aO s ah=0):=by show _=_;rw[hun.out,if_neg hk,if_pos hb,if_pos hk2,if_neg (by rw[hb2];simp)]
   have hyH:Hid (Calls S 126 #[V I s.b,V I ah.length] w1 fun e w'=>e= O (Z false)∧w'=w1):=bQ hb2 w1
   clear hk hka hb hca hra1
   rcases hk2 with k4|k4|k4
   all_goals
    rw[k4] at c0
    clear k4 hkb
    go_wp2_with (first|(go_at_call 126;(with_reducible refine cM hzH.out ?_);rintro e w' ⟨rfl,hw'⟩;subst w')|(go_at_call 126;(with_reducible refine cM hyH.out ?_);rintro e w' ⟨rfl,hw'⟩;subst w'))
    go_ret
    exact ⟨by rw[hfin.out];rfl,hgw⟩
  ·have hyH0:Calls S 126 #[V I s.b,V I ah.length] w1 fun e w'=>e= O (Z true)∧w'=w1:=bQ hb2 w1
   obtain ⟨kb,hkb2,hkbl⟩:=oe hb2
   obtain ⟨xb,hxb⟩:∃x,ah[kb]=x:=⟨_,rfl⟩
   have eb0:=hca kb hkbl 0 (by omega)
   rw[hxb] at eb0
   have eb:w1.cell? ⟨ba,oa+kb,none⟩=some (V I xb):=by simpa[fp] using eb0
   have hgb:Hid (ah.getD s.b.toNat 0=xb∧0≤xb∧xb≤8):=by
    refine ⟨?_,hrH.out.2.2.2 xb (by rw[←hxb];exact gM hkbl)⟩
    rw[hkb2,Int.toNat_natCast,tJ hkbl,hxb]
   have hkbz:(kb:Int)<(ah.length:Int):=by omega
   have d2:w1.cell? ⟨w.heap.size,2,none⟩=some (V I (kb:Int)):=by rw[←hkb2];exact c2
   rw[hkb2] at hyH0
   have hyH:Hid (Calls S 126 #[V I (kb:Int),V I ah.length] w1 fun e w'=>e= O (Z true)∧w'=w1):=hyH0
   have hfin:Hid (aO s ah=dA s xa xb):=by show _=_;rw[hun.out,if_neg hk,if_pos hb,if_pos hk2,if_pos hb2,hga.out.1,hgb.out.1]
   have htw:∀n os,Calls S 127 #[Y #[V I s.k,V I s.a,V I s.b,V I s.c,V I s.o,V I s.v,J s.p s.l.length s.n],V I xa,V I xb] (grow (w1.drewN n) os) fun e w'=>e= O (V I (dA s xa xb))∧∃q os',w'=grow ((grow (w1.drewN n) os).drewN q) os':=fun n os=>(yr s xa xb _ hga.out.2 hgb.out.2).mono fun e w' h=>⟨h.1,grD h.2⟩
   rw[hka,hkb2] at htw
   have gb:=(gR w1).cellG (a:=⟨ba,oa+kb,none⟩) hba eb
   have xlt:w.heap.size<w1.heap.size:=World.block_lt_of_cell? w1 ⟨w.heap.size,0,none⟩ c0
   have g0:=(gR w1).cellG (a:=⟨w.heap.size,0,none⟩) xlt c0
   have g1:=(gR w1).cellG (a:=⟨w.heap.size,1,none⟩) xlt d1
   have g2:=(gR w1).cellG (a:=⟨w.heap.size,2,none⟩) xlt d2
   have g3:=(gR w1).cellG (a:=⟨w.heap.size,3,none⟩) xlt c3
   have g4:=(gR w1).cellG (a:=⟨w.heap.size,4,none⟩) xlt c4
   have g5:=(gR w1).cellG (a:=⟨w.heap.size,5,none⟩) xlt c5
   have g6:=(gR w1).cellG (a:=⟨w.heap.size,6,none⟩) xlt c6
   have ga:=(gR w1).cellG (a:=⟨ba,oa+ka,none⟩) hba ea
   clear hk hb hca hra1 eb0 hxb c2 hyH0 hb2
   rcases hk2 with k4|k4|k4
   all_goals
    rw[k4] at c0 htw g0
    have htwH:Hid (∀n os,Calls S 127 _ (grow (w1.drewN n) os) _):=htw
    clear k4 hkb htw
    go_wp2_with (first|(go_at_call 126;(with_reducible refine cM hzH.out ?_);rintro e w' ⟨rfl,hw'⟩;subst w')|(go_at_call 126;(with_reducible refine cM hyH.out ?_);rintro e w' ⟨rfl,hw'⟩;subst w'))
    refine wp_region_quiet_grown mixed (by kernel_rfl) ?_
    repeat (go_big_quiet_step ((go_at_call 127;refine Calls.grown_of (htwH.out _ _))))
    refine wpQuiet_nil ?_
    rintro _ ⟨⟨nq2,osq2⟩,rfl⟩
    go_wp2
    go_ret
    exact ⟨by rw[hfin.out];rfl,hgw.trans ⟨nq2,osq2,rfl⟩⟩
 ·have hfin:Hid (aO s ah=cL s xa):=by show _=_;rw[hun.out,if_neg hk,if_pos hb,if_neg hk2,hga.out.1]
  have how:∀n os,Calls S 128 #[Y #[V I s.k,V I s.a,V I s.b,V I s.c,V I s.o,V I s.v,J s.p s.l.length s.n],V I xa] (grow (w1.drewN n) os) fun e w'=>e= O (V I (cL s xa))∧∃q os',w'=grow ((grow (w1.drewN n) os).drewN q) os':=fun n os=>(xH s xa _ hrH.out.2.1 (hrH.out.1.gr (hgw.trans ⟨n,os,rfl⟩))).mono fun e w' h=>⟨h.1,grD h.2⟩
  rw[hka] at how
  have howH:Hid (∀n os,Calls S 128 _ (grow (w1.drewN n) os) _):=how
  have q4:(s.k==4)=false:=by simp;omega
  have q5:(s.k==5)=false:=by simp;omega
  have q6:(s.k==6)=false:=by simp;omega
  have xlt:w.heap.size<w1.heap.size:=World.block_lt_of_cell? w1 ⟨w.heap.size,0,none⟩ c0
  have g0:=(gR w1).cellG (a:=⟨w.heap.size,0,none⟩) xlt c0
  have g1:=(gR w1).cellG (a:=⟨w.heap.size,1,none⟩) xlt d1
  have g2:=(gR w1).cellG (a:=⟨w.heap.size,2,none⟩) xlt c2
  have g3:=(gR w1).cellG (a:=⟨w.heap.size,3,none⟩) xlt c3
  have g4:=(gR w1).cellG (a:=⟨w.heap.size,4,none⟩) xlt c4
  have g5:=(gR w1).cellG (a:=⟨w.heap.size,5,none⟩) xlt c5
  have g6:=(gR w1).cellG (a:=⟨w.heap.size,6,none⟩) xlt c6
  have ga:=(gR w1).cellG (a:=⟨ba,oa+ka,none⟩) hba ea
  clear hk hb hca hra1 how hk2
  go_wp2_with (go_at_call 126;(with_reducible refine cM hzH.out ?_);rintro e w' ⟨rfl,hw'⟩;subst w')
  refine wp_region_quiet_grown mixed (by kernel_rfl) ?_
  repeat (go_big_quiet_step ((go_at_call 128;refine Calls.grown_of (howH.out _ _))))
  refine wpQuiet_nil ?_
  rintro _ ⟨⟨nq2,osq2⟩,rfl⟩
  go_wp2
  go_ret
  exact ⟨by rw[hfin.out];rfl,hgw.trans ⟨nq2,osq2,rfl⟩⟩


structure Stps (w:World) (A:Option Addr) (q:List Stp):Prop where
 row:au jj 7 w A q
 each:∀s∈q,ay w s.p s.l∧s.l.length≤maxLen∧(s.p=none→s.n=0)
theorem Stps.below {w w':World} {A:Option Addr} {q:List Stp} (h:Stps w A q) (k:Below w.heap.size w w'):Stps w' A q:=⟨h.row.below k,fun s hs=>⟨(h.each s hs).1.below k,(h.each s hs).2⟩⟩
theorem Stps.gr {w w':World} {A:Option Addr} {q:List Stp} (h:Stps w A q) (k:Gr w w'):Stps w' A q:=h.below k.below
theorem Stps.at {w:World} {A:Option Addr} {q:List Stp} (h:Stps w A q) {j:Nat} (hj:j<q.length):∃b off,A=some ⟨b,off,none⟩∧b<w.heap.size∧∀i,i<7→w.cell? ⟨b,off+j*7+i,none⟩=(jj q[j])[i]? := by
 obtain ⟨b,off,hA,hb,hc⟩:=h.row.at hj
 exact ⟨b,off,hA,hb,fun i hi=>hc j hj i hi⟩
def dw:List Stp→List Int→Option (List Int)
 | [],ah=>some ah
 | s::t,ah=>if aO s ah=0 then none else dw t (ah++[aO s ah])
def bV (q:List Stp):Int:=if q.length=0 then 1 else if 8<q.length then 2 else if (dw q []).isSome=true then 0 else 1
def je (q:List Stp):List Int:=if bV q=0 then (dw q []).getD [] else []
theorem mr {l:List Int} (h:∀x∈l,0≤x∧x≤8) (k:Nat):0≤l.getD k 0∧l.getD k 0≤8:=by
 rw[List.getD_eq_getElem?_getD]
 cases e:l[k]? with
 | none=>simp
 | some x=>exact h x (List.mem_of_getElem? e)
theorem AD (s:Stp) {a:Int} (h:0≤a∧a≤8):0≤cL s a∧cL s a≤8:=by
 unfold cL
 repeat' split
 all_goals first|omega|skip
 rename_i h1
 simp at h1
 omega
theorem AN (s:Stp) {a b:Int} (h:0≤a∧a≤8) (k:0≤b∧b≤8):0≤dA s a b∧dA s a b≤8:=by
 unfold dA
 repeat' split
 all_goals first|omega|skip
 rename_i h1
 simp at h1
 omega
theorem yv (s:Stp) {ah:List Int} (h:∀x∈ah,0≤x∧x≤8):0≤aO s ah∧aO s ah≤8:=by
 have h1:=AD s (mr h s.a.toNat)
 have h2:=AN s (mr h s.a.toNat) (mr h s.b.toNat)
 unfold aO
 repeat' split
 all_goals omega

theorem tu (q:List Stp) (A:Option Addr) (ca:Nat) (w:World) (hl:q.length≤maxLen) (hq:Stps w A q) :
  Calls S 64 #[J A q.length ca] w fun e w'=>∃(C:Option Addr) (c:Nat),e= O (.tuple #[J C (je q).length c,V I (bV q)])∧ay w' C (je q)∧(C=none→c=0)∧Below w.heap.size w w':=by
 unfold maxLen at hl
 by_cases h0:q.length=0
 ·have e1:Hid (bV q=1∧je q=[]):=by
   have e:bV q=1:=by unfold bV;rw[if_pos h0]
   exact ⟨e,by unfold je;rw[e,if_neg (by decide)]⟩
  have h0z:((q.length:Int)==0)=true:=by rw[h0];rfl
  clear h0
  go_enter Tryz.func64,Tryz.ntmps64
  go_wp2
  go_ret2
  exact ⟨none,0,by rw[e1.out.1,e1.out.2];rfl,by rw[e1.out.2];exact oL rfl,fun _=>rfl,bR _ _⟩
 have h0z:((q.length:Int)==0)=false:=beq_eq_false_iff_ne.2 (by omega)
 by_cases h8:8<q.length
 ·have e1:Hid (bV q=2∧je q=[]):=by
   have e:bV q=2:=by unfold bV;rw[if_neg h0,if_pos h8]
   exact ⟨e,by unfold je;rw[e,if_neg (by decide)]⟩
  have h8z:(8:Int)<(q.length:Int):=by omega
  clear h0
  go_enter Tryz.func64,Tryz.ntmps64
  go_wp2
  go_ret2
  exact ⟨none,0,by rw[e1.out.1,e1.out.2];rfl,by rw[e1.out.2];exact oL rfl,fun _=>rfl,bR _ _⟩
 have h8z:¬(8:Int)<(q.length:Int):=by omega
 have herr:Hid (bV q=if (dw q []).isSome=true then 0 else 1):=by show _=_;unfold bV;rw[if_neg h0,if_neg h8]
 have hqH:Hid (Stps w A q):=hq
 clear hq h0
 go_enter Tryz.func64,Tryz.ntmps64
 go_wp2
 go_loopw [4,16] (fun v i wr=>∃(j:Nat) (ah:List Int),j≤q.length∧i= V I j∧Hid (ah.length=j∧(∀x∈ah,0≤x∧x≤8)∧dw q []=dw (q.drop j) ah)∧Hid (eB wr w.heap.size v ah∧Below w.heap.size w wr)) (fun _ i _=>q.length-(intOf i).toNat)
 case atStart=>exact ⟨0,[],by omega,rfl,⟨rfl,(fun x hx=>by cases hx),by simp⟩,af.nil _ _ _ _ _,bR _ _⟩
 case round =>
  obtain ⟨j,ah,hj,rfl,hfo,hov⟩:=hrel
  by_cases hlt:j<q.length
  ·have hltz:(j:Int)<(q.length:Int):=by omega
   have hI:Hid (Stps wr A q):=hqH.out.below hov.out.2
   obtain ⟨bb,off,rfl,hb,hcs⟩:=hI.out.at hlt
   obtain ⟨s,hs⟩:∃s,q[j]=s:=⟨_,rfl⟩
   have hsr:=hI.out.each s (by rw[←hs];exact gM hlt)
   rw[hs] at hcs
   have m0:wr.cell? ⟨bb,off+j*7,none⟩=some (V I s.k):=hcs 0 (by omega)
   have m1:wr.cell? ⟨bb,off+j*7+1,none⟩=some (V I s.a):=hcs 1 (by omega)
   have m2:wr.cell? ⟨bb,off+j*7+2,none⟩=some (V I s.b):=hcs 2 (by omega)
   have m3:wr.cell? ⟨bb,off+j*7+3,none⟩=some (V I s.c):=hcs 3 (by omega)
   have m4:wr.cell? ⟨bb,off+j*7+4,none⟩=some (V I s.o):=hcs 4 (by omega)
   have m5:wr.cell? ⟨bb,off+j*7+5,none⟩=some (V I s.v):=hcs 5 (by omega)
   have m6:wr.cell? ⟨bb,off+j*7+6,none⟩=some (J s.p s.l.length s.n):=hcs 6 (by omega)
   have hstep:Hid (dw q []=if aO s ah=0 then none else dw (q.drop (j+1)) (ah++[aO s ah])):=by
    show _=_
    rw[hfo.out.2.2,List.drop_eq_getElem_cons hlt,hs]
    rfl
   have hwb:=yv s hfo.out.2.1
   obtain ⟨G,gc,rfl,hG,hrow,hlt4⟩:=af.row bZ hov.out.1
   have hg0:Gr wr (wr.alloc (H #[V I s.k,V I s.a,V I s.b,V I s.c,V I s.o,V I s.v,J s.p s.l.length s.n] 105)):=(gR wr).alloc _
   have c0:(wr.alloc (H #[V I s.k,V I s.a,V I s.b,V I s.c,V I s.o,V I s.v,J s.p s.l.length s.n] 105)).cell? ⟨wr.heap.size,0,none⟩=some (V I s.k):=ab (gR _) rfl
   have c1:(wr.alloc (H #[V I s.k,V I s.a,V I s.b,V I s.c,V I s.o,V I s.v,J s.p s.l.length s.n] 105)).cell? ⟨wr.heap.size,1,none⟩=some (V I s.a):=ab (gR _) rfl
   have c2:(wr.alloc (H #[V I s.k,V I s.a,V I s.b,V I s.c,V I s.o,V I s.v,J s.p s.l.length s.n] 105)).cell? ⟨wr.heap.size,2,none⟩=some (V I s.b):=ab (gR _) rfl
   have c3:(wr.alloc (H #[V I s.k,V I s.a,V I s.b,V I s.c,V I s.o,V I s.v,J s.p s.l.length s.n] 105)).cell? ⟨wr.heap.size,3,none⟩=some (V I s.c):=ab (gR _) rfl
   have c4:(wr.alloc (H #[V I s.k,V I s.a,V I s.b,V I s.c,V I s.o,V I s.v,J s.p s.l.length s.n] 105)).cell? ⟨wr.heap.size,4,none⟩=some (V I s.o):=ab (gR _) rfl
   have c5:(wr.alloc (H #[V I s.k,V I s.a,V I s.b,V I s.c,V I s.o,V I s.v,J s.p s.l.length s.n] 105)).cell? ⟨wr.heap.size,5,none⟩=some (V I s.v):=ab (gR _) rfl
   have c6:(wr.alloc (H #[V I s.k,V I s.a,V I s.b,V I s.c,V I s.o,V I s.v,J s.p s.l.length s.n] 105)).cell? ⟨wr.heap.size,6,none⟩=some (J s.p s.l.length s.n):=ab (gR _) rfl
   have hwd:=vQ s ah G gc (wr.alloc (H #[V I s.k,V I s.a,V I s.b,V I s.c,V I s.o,V I s.v,J s.p s.l.length s.n] 105)) hsr.2.1 (hsr.1.gr hg0) (hrow.gr hg0) hfo.out.2.1
   obtain ⟨n,hn⟩:∃n,aO s ah=n:=⟨_,rfl⟩
   rw[hn] at hwd hstep hwb
   have hwdH:Hid _:=hwd
   clear hcs hs hwd hsr
   go_wp2_with fail
   refine cM (show Calls _ _ _ _ _ from hwdH.out) ?_
   rintro e w1 ⟨rfl,hg1⟩
   clear hwdH c0 c1 c2 c3 c4 c5 c6 m0 m1 m2 m3 m4 m5 m6
   have hgw:Hid (Gr wr w1):=hg0.trans hg1
   clear hg0 hg1
   by_cases hn0:n=0
   ·have e1:Hid (bV q=1∧je q=[]):=by
     have e:bV q=1:=by rw[herr.out,hstep.out,if_pos hn0];rfl
     exact ⟨e,by unfold je;rw[e,if_neg (by decide)]⟩
    have hbF:Hid (Below w.heap.size w w1):=hov.out.2.trans (hgw.out.below.mono hov.out.2.size)
    subst hn0
    go_wp2
    go_ret2
    exact ⟨none,0,by rw[e1.out.1,e1.out.2];rfl,by rw[e1.out.2];exact oL rfl,fun _=>rfl,hbF.out⟩
   ·have hnb:(n==0)=false:=beq_eq_false_iff_ne.2 hn0
    have hoX:Hid (eB (w1.alloc (H #[V I n] 3)) w.heap.size (J G ah.length gc) ah∧ay (w1.alloc (H #[V I n] 3)) (some ⟨w1.heap.size,0,none⟩) [n]∧ah.length+1≤maxLen∧(ah.length+1)*8≤140737488355328∧Below w.heap.size w (w1.alloc (H #[V I n] 3))):=by
     have h1:=hfo.out.1
     have hg2:Gr wr (w1.alloc (H #[V I n] 3)):=hgw.out.alloc _
     exact ⟨hov.out.1.gr hg2,iT rfl n 3,by unfold maxLen;omega,by omega,hov.out.2.trans (hg2.below.mono hov.out.2.size)⟩
    have hnext:Hid ((ah++[n]).length=j+1∧(∀x∈ah++[n],0≤x∧x≤8)∧dw q []=dw (q.drop (j+1)) (ah++[n])):=by
     refine ⟨by simp[hfo.out.1],fun x hx=> ?_,by rw[hstep.out,if_neg hn0]⟩
     rcases List.mem_append.1 hx with k|k
     ·exact hfo.out.2.1 x k
     ·rw[List.mem_singleton.1 k];exact hwb
    clear hn0 hov hrow hG hlt4
    go_wp2_with (at_builtin;refine bg _ rfl (.tmp 25) (.tmp 27) rfl w.heap.size (J G ah.length gc) ah [n] (some ⟨w1.heap.size,0,none⟩) 1 rfl rfl hoX.out.1 hoX.out.2.1 (fun h=>by cases h) hoX.out.2.2.1 hoX.out.2.2.2.1 hoX.out.2.2.2.2.size ?_;intro v7 w7 hown7 hg7)
    have hfin7:Hid (eB w7 w.heap.size v7 (ah++[n])∧Below w.heap.size w w7):=⟨hown7,hoX.out.2.2.2.2.trans (af.grown_below hoX.out.1 hg7 hoX.out.2.2.2.2.size)⟩
    clear hown7 hg7 hoX
    go_roundw
    case rel=>exact ⟨j+1,ah++[n],by omega,by go_num,hnext,hfin7⟩
    case measure=>simp[intOf];omega
  ·have hltz:¬(j:Int)<(q.length:Int):=by omega
   have hfin:Hid (bV q=0∧je q=ah):=by
    have h1:=hfo.out.2.2
    rw[List.drop_eq_nil_of_le (by omega)] at h1
    have e:bV q=0:=by rw[herr.out,h1];rfl
    exact ⟨e,by unfold je;rw[if_pos e,h1];rfl⟩
   obtain ⟨G,gc,rfl,hG,hrow,hlt4⟩:=af.row bZ hov.out.1
   have hfin2:Hid (ay wr G ah∧(G=none→gc=0)∧Below w.heap.size w wr):=⟨hrow,hG,hov.out.2⟩
   clear hrow hG hlt4 hov
   go_wp2
   go_ret2
   exact ⟨G,gc,by rw[hfin.out.1,hfin.out.2];rfl,by rw[hfin.out.2];exact hfin2.out.1,hfin2.out.2.1,hfin2.out.2.2⟩

end Go.Proofs.YtkefkplnamkicaaGreatDoor

namespace Go.Proofs.YtkefkplnamkicaaGreatDoor

def toB (n op v:Int):Bool:=if op=1 then decide (n<v) else if op=2 then decide (n=v) else decide (v<n)
def atI (r:List Int) (c:Int):Int:=r.getD c.toNat 0
def dn (l:List Zit) (c o v:Int):List Zit:=l.filter fun x=>toB (atI x.1 c) o v
def eA (cols:List Int) (r:List Int):List Int:=cols.map fun c=>atI r c
def gi (l:List Zit) (cols:List Int):List Zit:=l.map fun x=>(eA cols x.1,x.2)
def fQ (l:List Zit):List Zit:=(l.filter fun x=>decide (0<x.2)).map fun x=>(x.1,1)
theorem o7 {a b:List Zit} (h:aW a b=0):ax a=0∧ax b=0∧ax (aU a b)=0:=by
 unfold aW at h
 by_cases h1:ax a=0
 ·rw[if_pos h1] at h
  by_cases h2:ax b=0
  ·rw[if_pos h2] at h
   by_cases h3:df (a++b)=0
   ·rw[if_pos h3] at h
    by_cases h4:400<(cW (a++b)).length
    ·rw[if_pos h4] at h;cases h
    ·refine ⟨h1,h2,?_⟩
     have e:aU a b=cW (a++b):=by
      unfold aU aW
      rw[if_pos h1,if_pos h2,if_pos h3,if_neg h4,if_pos rfl]
     rw[e]
     have T:=bu (a++b)
     refine (bI _).2 ⟨by omega,T.okZ (pu h3) (fun x hx=> ?_),T.rise⟩
     rcases List.mem_append.1 hx with k|k
     ·exact (bT (((bI a).1 h1).2.1 x k)).1
     ·exact (bT (((bI b).1 h2).2.1 x k)).1
   ·rw[if_neg h3] at h;exact absurd h h3
  ·rw[if_neg h2] at h;exact absurd h h2
 ·rw[if_neg h1] at h;exact absurd h h1
end Go.Proofs.YtkefkplnamkicaaGreatDoor

namespace Go.Proofs.YtkefkplnamkicaaGreatDoor
open Go.RowKit Go.Sort

theorem lT (q:List Stp) (A:Option Addr) (ca:Nat) (w:World) (hl:q.length≤maxLen) (hq:Stps w A q) :
  Calls S 42 #[J A q.length ca] w fun e w'=>e= O (V I (bV q))∧Below w.heap.size w w':=by
 have hwH:Hid _:=tu q A ca w hl hq
 clear hl hq
 go_enter Tryz.func42,Tryz.ntmps42
 go_wp2_with fail
 refine cM (show Calls _ _ _ _ _ from hwH.out) ?_
 rintro e w1 ⟨C,c,rfl,-,-,hb⟩
 clear hwH
 go_wp2
 go_ret
 exact ⟨rfl,hb⟩

end Go.Proofs.YtkefkplnamkicaaGreatDoor

namespace Go.Proofs.YtkefkplnamkicaaGreatDoor

theorem bK (n k:Int):belowB n k=inB n 0 (k-1):=by
 unfold belowB inB
 rw[Bool.eq_iff_iff]
 simp only[Bool.and_eq_true,decide_eq_true_eq]
 omega
theorem Ba (n:Int):opB n=inB n 1 3:=by
 unfold opB inB
 rw[Bool.eq_iff_iff]
 simp only[Bool.and_eq_true,decide_eq_true_eq]
 omega
theorem A8 {s:Stp} (h:s.k=1):bJ s=(decide (s.b=0) && decide (s.c=0) && decide (s.o=0) && decide (s.v=0) && s.l.isEmpty):=by
 have t:aw 1 65=true∧aw 1 66=false∧aw 1 67=false∧aw 1 79=false∧aw 1 86=false∧aw 1 76=false:=by decide
 obtain ⟨t1,t2,t3,t4,t5,t6⟩:=t
 simp[bJ,fw,h,List.range_succ,kI,Stp.at,t1,t2,t3,t4,t5,t6,Bool.and_assoc]
theorem A9 {s:Stp} (h:s.k=2):bJ s=(decide (s.b=0) && s.l.isEmpty):=by
 have t:aw 2 65=true∧aw 2 66=false∧aw 2 67=true∧aw 2 79=true∧aw 2 86=true∧aw 2 76=false:=by decide
 obtain ⟨t1,t2,t3,t4,t5,t6⟩:=t
 simp[bJ,fw,h,List.range_succ,kI,Stp.at,t1,t2,t3,t4,t5,t6]
theorem Aa {s:Stp} (h:s.k=3):bJ s=(decide (s.b=0) && decide (s.c=0) && decide (s.o=0) && decide (s.v=0)):=by
 have t:aw 3 65=true∧aw 3 66=false∧aw 3 67=false∧aw 3 79=false∧aw 3 86=false∧aw 3 76=true:=by decide
 obtain ⟨t1,t2,t3,t4,t5,t6⟩:=t
 simp[bJ,fw,h,List.range_succ,kI,Stp.at,t1,t2,t3,t4,t5,t6,Bool.and_assoc]
theorem Ab {s:Stp} (h:s.k=4):bJ s=(decide (s.o=0) && s.l.isEmpty):=by
 have t:aw 4 65=true∧aw 4 66=true∧aw 4 67=true∧aw 4 79=false∧aw 4 86=true∧aw 4 76=false:=by decide
 obtain ⟨t1,t2,t3,t4,t5,t6⟩:=t
 simp[bJ,fw,h,List.range_succ,kI,Stp.at,t1,t2,t3,t4,t5,t6]
theorem Ac {s:Stp} (h:s.k=5):bJ s=(decide (s.c=0) && decide (s.o=0) && decide (s.v=0) && s.l.isEmpty):=by
 have t:aw 5 65=true∧aw 5 66=true∧aw 5 67=false∧aw 5 79=false∧aw 5 86=false∧aw 5 76=false:=by decide
 obtain ⟨t1,t2,t3,t4,t5,t6⟩:=t
 simp[bJ,fw,h,List.range_succ,kI,Stp.at,t1,t2,t3,t4,t5,t6,Bool.and_assoc]
theorem Ad {s:Stp} (h:s.k=6):bJ s=(decide (s.c=0) && decide (s.o=0) && decide (s.v=0) && s.l.isEmpty):=by
 have t:aw 6 65=true∧aw 6 66=true∧aw 6 67=false∧aw 6 79=false∧aw 6 86=false∧aw 6 76=false:=by decide
 obtain ⟨t1,t2,t3,t4,t5,t6⟩:=t
 simp[bJ,fw,h,List.range_succ,kI,Stp.at,t1,t2,t3,t4,t5,t6,Bool.and_assoc]
theorem Ae {s:Stp} (h:s.k=7):bJ s=(decide (s.b=0) && decide (s.c=0) && decide (s.o=0) && decide (s.v=0) && s.l.isEmpty):=by
 have t:aw 7 65=true∧aw 7 66=false∧aw 7 67=false∧aw 7 79=false∧aw 7 86=false∧aw 7 76=false:=by decide
 obtain ⟨t1,t2,t3,t4,t5,t6⟩:=t
 simp[bJ,fw,h,List.range_succ,kI,Stp.at,t1,t2,t3,t4,t5,t6,Bool.and_assoc]
theorem Af {s:Stp} (h:s.k=8):bJ s=(decide (s.b=0) && decide (s.o=0) && decide (s.v=0) && s.l.isEmpty):=by
 have t:aw 8 65=true∧aw 8 66=false∧aw 8 67=true∧aw 8 79=false∧aw 8 86=false∧aw 8 76=false:=by decide
 obtain ⟨t1,t2,t3,t4,t5,t6⟩:=t
 simp[bJ,fw,h,List.range_succ,kI,Stp.at,t1,t2,t3,t4,t5,t6,Bool.and_assoc]
theorem Ag {s:Stp} (h:s.k=9):bJ s=(decide (s.b=0) && decide (s.o=0) && s.l.isEmpty):=by
 have t:aw 9 65=true∧aw 9 66=false∧aw 9 67=true∧aw 9 79=false∧aw 9 86=true∧aw 9 76=false:=by decide
 obtain ⟨t1,t2,t3,t4,t5,t6⟩:=t
 simp[bJ,fw,h,List.range_succ,kI,Stp.at,t1,t2,t3,t4,t5,t6,Bool.and_assoc]
theorem B3 (x y:Bool) (r:Int):(if x=true then (if y=true then r else 0) else 0)=if (x && y)=true then r else 0:=by cases x<;>cases y<;>simp
theorem zq (x y z:Bool) (r:Int):(if x=true then (if y=true then (if z=true then r else 0) else 0) else 0)=if (x && y && z)=true then r else 0:=by cases x<;>cases y<;>cases z<;>simp
theorem Aw (x y z u:Bool) (r:Int):(if x=true then (if y=true then (if z=true then (if u=true then r else 0) else 0) else 0) else 0)=if (x && y && z && u)=true then r else 0:=by cases x<;>cases y<;>cases z<;>cases u<;>simp
theorem A7 {s:Stp} (h:¬(1≤s.k∧s.k≤9)) {ah:List Int}:aO s ah=0:=by
 have h1:¬s.k=1:=by omega
 unfold aO
 rw[if_neg h1,if_neg (by omega:¬(s.k=4∨s.k=5∨s.k=6))]
 unfold cL
 rw[if_neg (by omega:¬s.k=2),if_neg (by omega:¬s.k=3),if_neg (by omega:¬s.k=7),if_neg (by omega:¬s.k=8),if_neg (by omega:¬s.k=9)]
 simp
theorem Bz {s:Stp} (h:s.k=1) (ah:List Int):aO s ah=if (inB s.a 0 1 && decide (s.b=0) && decide (s.c=0) && decide (s.o=0) && decide (s.v=0) && s.l.isEmpty)=true then 4 else 0:=by
 unfold aO
 rw[A8 h,if_pos h]
 rw[bK,show (2:Int)-1=1 from rfl,B3,show ((decide (s.b=0) && decide (s.c=0) && decide (s.o=0) && decide (s.v=0) && s.l.isEmpty) && inB s.a 0 1)=(inB s.a 0 1 && decide (s.b=0) && decide (s.c=0) && decide (s.o=0) && decide (s.v=0) && s.l.isEmpty) from by ac_rfl]
theorem BA {s:Stp} (h:s.k=2) (ah:List Int):aO s ah=if (inB s.a 0 ((ah.length:Int)-1) && decide (s.b=0) && s.l.isEmpty && inB s.o 1 3 && inB s.v (-1073741824) 1073741824 && inB s.c 0 ((ah.getD s.a.toNat 0)-1))=true then (ah.getD s.a.toNat 0) else 0:=by
 unfold aO
 rw[A9 h,if_neg (by omega:¬s.k=1),if_neg (by omega:¬(s.k=4∨s.k=5∨s.k=6))]
 unfold cL
 rw[if_pos h]
 rw[bK,bK,Ba,show mI s.v=inB s.v (-1073741824) 1073741824 from rfl,zq,show ((decide (s.b=0) && s.l.isEmpty) && inB s.a 0 ((ah.length:Int)-1) && (inB s.c 0 ((ah.getD s.a.toNat 0)-1) && inB s.o 1 3 && inB s.v (-1073741824) 1073741824))=(inB s.a 0 ((ah.length:Int)-1) && decide (s.b=0) && s.l.isEmpty && inB s.o 1 3 && inB s.v (-1073741824) 1073741824 && inB s.c 0 ((ah.getD s.a.toNat 0)-1)) from by ac_rfl]
theorem BB {s:Stp} (h:s.k=3) (ah:List Int):aO s ah=if (inB s.a 0 ((ah.length:Int)-1) && decide (s.b=0) && inB (s.l.length:Int) 1 8 && s.l.all (fun n=>inB n 0 ((ah.getD s.a.toNat 0)-1)) && decide (s.c=0) && decide (s.o=0) && decide (s.v=0))=true then (s.l.length:Int) else 0:=by
 unfold aO
 rw[Aa h,if_neg (by omega:¬s.k=1),if_neg (by omega:¬(s.k=4∨s.k=5∨s.k=6))]
 unfold cL
 rw[if_neg (by omega:¬s.k=2),if_pos h]
 rw[bK,show (fun n=>belowB n (ah.getD s.a.toNat 0))=(fun n=>inB n 0 (ah.getD s.a.toNat 0-1)) from funext fun n=>bK n _]
 rw[show (if (decide (s.l.length≤8) && s.l.all (fun n=>inB n 0 (ah.getD s.a.toNat 0-1)))=true then (s.l.length:Int) else 0)=(if (inB (s.l.length:Int) 1 8 && s.l.all (fun n=>inB n 0 (ah.getD s.a.toNat 0-1)))=true then (s.l.length:Int) else 0) from ?_]
 ·rw[zq,show ((decide (s.b=0) && decide (s.c=0) && decide (s.o=0) && decide (s.v=0)) && inB s.a 0 ((ah.length:Int)-1) && (inB (s.l.length:Int) 1 8 && s.l.all (fun n=>inB n 0 ((ah.getD s.a.toNat 0)-1))))=(inB s.a 0 ((ah.length:Int)-1) && decide (s.b=0) && inB (s.l.length:Int) 1 8 && s.l.all (fun n=>inB n 0 ((ah.getD s.a.toNat 0)-1)) && decide (s.c=0) && decide (s.o=0) && decide (s.v=0)) from by ac_rfl]
 ·by_cases hl:s.l.length=0
  ·rw[hl];simp
  ·rw[show decide (s.l.length≤8)=inB (s.l.length:Int) 1 8 from ?_]
   unfold inB
   rw[Bool.eq_iff_iff]
   simp only[Bool.and_eq_true,decide_eq_true_eq]
   omega
theorem BC {s:Stp} (h:s.k=4) (ah:List Int):aO s ah=if (inB s.a 0 ((ah.length:Int)-1) && inB s.b 0 ((ah.length:Int)-1) && s.l.isEmpty && decide ((ah.getD s.a.toNat 0)+(ah.getD s.b.toNat 0)≤8) && inB s.v 0 ((ah.getD s.b.toNat 0)-1) && inB s.c 0 ((ah.getD s.a.toNat 0)-1) && decide (s.o=0))=true then (ah.getD s.a.toNat 0)+(ah.getD s.b.toNat 0) else 0:=by
 unfold aO
 rw[Ab h,if_neg (by omega:¬s.k=1),if_pos (by omega:s.k=4∨s.k=5∨s.k=6)]
 unfold dA
 rw[if_pos h]
 rw[bK,bK,bK,bK,Aw,show ((decide (s.o=0) && s.l.isEmpty) && inB s.a 0 ((ah.length:Int)-1) && inB s.b 0 ((ah.length:Int)-1) && (inB s.c 0 ((ah.getD s.a.toNat 0)-1) && inB s.v 0 ((ah.getD s.b.toNat 0)-1) && decide ((ah.getD s.a.toNat 0)+(ah.getD s.b.toNat 0)≤8)))=(inB s.a 0 ((ah.length:Int)-1) && inB s.b 0 ((ah.length:Int)-1) && s.l.isEmpty && decide ((ah.getD s.a.toNat 0)+(ah.getD s.b.toNat 0)≤8) && inB s.v 0 ((ah.getD s.b.toNat 0)-1) && inB s.c 0 ((ah.getD s.a.toNat 0)-1) && decide (s.o=0)) from by ac_rfl]
theorem BD {s:Stp} (h:s.k=5) (ah:List Int):aO s ah=if (inB s.a 0 ((ah.length:Int)-1) && inB s.b 0 ((ah.length:Int)-1) && s.l.isEmpty && decide ((ah.getD s.a.toNat 0)=(ah.getD s.b.toNat 0)) && decide (s.c=0) && decide (s.o=0) && decide (s.v=0))=true then (ah.getD s.a.toNat 0) else 0:=by
 unfold aO
 rw[Ac h,if_neg (by omega:¬s.k=1),if_pos (by omega:s.k=4∨s.k=5∨s.k=6)]
 unfold dA
 rw[if_neg (by omega:¬s.k=4),if_pos h]
 rw[show (if (ah.getD s.a.toNat 0)=(ah.getD s.b.toNat 0) then (ah.getD s.a.toNat 0) else 0)=(if decide ((ah.getD s.a.toNat 0)=(ah.getD s.b.toNat 0))=true then (ah.getD s.a.toNat 0) else 0) from by simp only[decide_eq_true_eq],bK,bK,Aw,show ((decide (s.c=0) && decide (s.o=0) && decide (s.v=0) && s.l.isEmpty) && inB s.a 0 ((ah.length:Int)-1) && inB s.b 0 ((ah.length:Int)-1) && decide ((ah.getD s.a.toNat 0)=(ah.getD s.b.toNat 0)))=(inB s.a 0 ((ah.length:Int)-1) && inB s.b 0 ((ah.length:Int)-1) && s.l.isEmpty && decide ((ah.getD s.a.toNat 0)=(ah.getD s.b.toNat 0)) && decide (s.c=0) && decide (s.o=0) && decide (s.v=0)) from by ac_rfl]
theorem BE {s:Stp} (h:s.k=6) (ah:List Int):aO s ah=if (inB s.a 0 ((ah.length:Int)-1) && inB s.b 0 ((ah.length:Int)-1) && s.l.isEmpty && decide ((ah.getD s.a.toNat 0)=(ah.getD s.b.toNat 0)) && decide (s.c=0) && decide (s.o=0) && decide (s.v=0))=true then (ah.getD s.a.toNat 0) else 0:=by
 unfold aO
 rw[Ad h,if_neg (by omega:¬s.k=1),if_pos (by omega:s.k=4∨s.k=5∨s.k=6)]
 unfold dA
 rw[if_neg (by omega:¬s.k=4),if_neg (by omega:¬s.k=5),if_pos h]
 rw[show (if (ah.getD s.a.toNat 0)=(ah.getD s.b.toNat 0) then (ah.getD s.a.toNat 0) else 0)=(if decide ((ah.getD s.a.toNat 0)=(ah.getD s.b.toNat 0))=true then (ah.getD s.a.toNat 0) else 0) from by simp only[decide_eq_true_eq],bK,bK,Aw,show ((decide (s.c=0) && decide (s.o=0) && decide (s.v=0) && s.l.isEmpty) && inB s.a 0 ((ah.length:Int)-1) && inB s.b 0 ((ah.length:Int)-1) && decide ((ah.getD s.a.toNat 0)=(ah.getD s.b.toNat 0)))=(inB s.a 0 ((ah.length:Int)-1) && inB s.b 0 ((ah.length:Int)-1) && s.l.isEmpty && decide ((ah.getD s.a.toNat 0)=(ah.getD s.b.toNat 0)) && decide (s.c=0) && decide (s.o=0) && decide (s.v=0)) from by ac_rfl]
theorem BF {s:Stp} (h:s.k=7) (ah:List Int):aO s ah=if (inB s.a 0 ((ah.length:Int)-1) && decide (s.b=0) && s.l.isEmpty && decide (s.c=0) && decide (s.o=0) && decide (s.v=0))=true then (ah.getD s.a.toNat 0) else 0:=by
 unfold aO
 rw[Ae h,if_neg (by omega:¬s.k=1),if_neg (by omega:¬(s.k=4∨s.k=5∨s.k=6))]
 unfold cL
 rw[if_neg (by omega:¬s.k=2),if_neg (by omega:¬s.k=3),if_pos h]
 rw[bK,B3,show ((decide (s.b=0) && decide (s.c=0) && decide (s.o=0) && decide (s.v=0) && s.l.isEmpty) && inB s.a 0 ((ah.length:Int)-1))=(inB s.a 0 ((ah.length:Int)-1) && decide (s.b=0) && s.l.isEmpty && decide (s.c=0) && decide (s.o=0) && decide (s.v=0)) from by ac_rfl]
theorem BG {s:Stp} (h:s.k=8) (ah:List Int):aO s ah=if (inB s.a 0 ((ah.length:Int)-1) && decide (s.b=0) && s.l.isEmpty && inB s.c 0 ((ah.getD s.a.toNat 0)-1) && decide (s.o=0) && decide (s.v=0))=true then 2 else 0:=by
 unfold aO
 rw[Af h,if_neg (by omega:¬s.k=1),if_neg (by omega:¬(s.k=4∨s.k=5∨s.k=6))]
 unfold cL
 rw[if_neg (by omega:¬s.k=2),if_neg (by omega:¬s.k=3),if_neg (by omega:¬s.k=7),if_pos h]
 rw[bK,bK,zq,show ((decide (s.b=0) && decide (s.o=0) && decide (s.v=0) && s.l.isEmpty) && inB s.a 0 ((ah.length:Int)-1) && inB s.c 0 ((ah.getD s.a.toNat 0)-1))=(inB s.a 0 ((ah.length:Int)-1) && decide (s.b=0) && s.l.isEmpty && inB s.c 0 ((ah.getD s.a.toNat 0)-1) && decide (s.o=0) && decide (s.v=0)) from by ac_rfl]
theorem BH {s:Stp} (h:s.k=9) (ah:List Int):aO s ah=if (inB s.a 0 ((ah.length:Int)-1) && decide (s.b=0) && s.l.isEmpty && inB s.v 0 ((ah.getD s.a.toNat 0)-1) && inB s.c 0 ((ah.getD s.a.toNat 0)-1) && decide (s.o=0))=true then 2 else 0:=by
 unfold aO
 rw[Ag h,if_neg (by omega:¬s.k=1),if_neg (by omega:¬(s.k=4∨s.k=5∨s.k=6))]
 unfold cL
 rw[if_neg (by omega:¬s.k=2),if_neg (by omega:¬s.k=3),if_neg (by omega:¬s.k=7),if_neg (by omega:¬s.k=8),if_pos h]
 rw[bK,bK,bK,zq,show ((decide (s.b=0) && decide (s.o=0) && s.l.isEmpty) && inB s.a 0 ((ah.length:Int)-1) && (inB s.c 0 ((ah.getD s.a.toNat 0)-1) && inB s.v 0 ((ah.getD s.a.toNat 0)-1)))=(inB s.a 0 ((ah.length:Int)-1) && decide (s.b=0) && s.l.isEmpty && inB s.v 0 ((ah.getD s.a.toNat 0)-1) && inB s.c 0 ((ah.getD s.a.toNat 0)-1) && decide (s.o=0)) from by ac_rfl]

end Go.Proofs.YtkefkplnamkicaaGreatDoor
