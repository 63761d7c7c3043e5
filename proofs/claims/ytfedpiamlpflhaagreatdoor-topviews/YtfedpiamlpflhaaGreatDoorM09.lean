/-
  query.widthOfOne, widthOfTwo: the width of a step's set.
  query.width: the width of a step behind those whose widths are given.
  query.widths, query.Check, query.Width.
  What a query tells, on plain lists: each step's set; where, pick, union and minus of two sets together are those of both, together.
  query.Check, query.Width; viewref.In.
  What a step's width is, in the document's tests, kind by kind.
-/
import Derived.Test.YtfedpiamlpflhaaGreatDoorM08
set_option maxRecDepth 100000
set_option maxHeartbeats 8000000
open Go.Ending renaming returned → O
open Go.IntKind renaming i64 → I
open Go.Obj renaming cells → H
open Go.Proofs.Tryz renaming prog → S
open Go.Value renaming int → V, slice → J, bool → Z, agg → Y
namespace Go.Proofs.YtfedpiamlpflhaaGreatDoor
open Go.RowKit Go.Sort

def cE (s:Stp) (a:Int):Int:=if s.k=2 then (if belowB s.c a && opB s.o && lp s.v then a else 0) else if s.k=3 then (if decide (s.l.length≤8) && s.l.all (fun n=>belowB n a) then s.l.length else 0) else if s.k=7 then a else if s.k=8 then (if belowB s.c a then 2 else 0) else if s.k=9 then (if belowB s.c a && belowB s.v a then 2 else 0) else 0
def dq (s:Stp) (a b:Int):Int:=if s.k=4 then (if belowB s.c a && belowB s.v b && decide (a+b≤8) then a+b else 0) else if s.k=5 then (if a=b then a else 0) else if s.k=6 then (if a=b then a else 0) else 0
theorem bF {n k:Int} {r:Bool} (h:belowB n k=r) (w:World):Calls S 111 #[V I n,V I k] w fun e w'=>e= O (Z r)∧w'=w:=by rw[←h];exact gB n k w
theorem ze {n:Int} {r:Bool} (h:opB n=r) (w:World):Calls S 154 #[V I n] w fun e w'=>e= O (Z r)∧w'=w:=by rw[←h];exact uE n w
theorem xF {n:Int} {r:Bool} (h:lp n=r) (w:World):Calls S 155 #[V I n] w fun e w'=>e= O (Z r)∧w'=w:=by rw[←h];exact nN n w

theorem vd (s:Stp) (a:Int) (w:World) (hl:s.l.length≤maxLen) (hr:ay w s.p s.l) :
  Calls S 113 #[Y #[V I s.k,V I s.a,V I s.b,V I s.c,V I s.o,V I s.v,J s.p s.l.length s.n],V I a] w fun e w'=>e= O (V I (cE s a))∧Gr w w':=by
 obtain ⟨W,hW⟩:∃W,w.alloc (H #[V I s.k,V I s.a,V I s.b,V I s.c,V I s.o,V I s.v,J s.p s.l.length s.n] 86)=W:=⟨_,rfl⟩
 have hg0:Gr w W:=by rw[←hW];exact (gR w).alloc _
 have c0:W.cell? ⟨w.heap.size,0,none⟩=some (V I s.k):=by rw[←hW];exact aa (gR _) rfl
 have c1:W.cell? ⟨w.heap.size,1,none⟩=some (V I s.a):=by rw[←hW];exact aa (gR _) rfl
 have c2:W.cell? ⟨w.heap.size,2,none⟩=some (V I s.b):=by rw[←hW];exact aa (gR _) rfl
 have c3:W.cell? ⟨w.heap.size,3,none⟩=some (V I s.c):=by rw[←hW];exact aa (gR _) rfl
 have c4:W.cell? ⟨w.heap.size,4,none⟩=some (V I s.o):=by rw[←hW];exact aa (gR _) rfl
 have c5:W.cell? ⟨w.heap.size,5,none⟩=some (V I s.v):=by rw[←hW];exact aa (gR _) rfl
 have c6:W.cell? ⟨w.heap.size,6,none⟩=some (J s.p s.l.length s.n):=by rw[←hW];exact aa (gR _) rfl
 have hrH:Hid (ay W s.p s.l∧s.l.length≤maxLen):=⟨hr.gr hg0,hl⟩
 clear hr hl
 by_cases hk:s.k=2
 ·skip
  have e0:W.cell? ⟨w.heap.size,0,none⟩=some (V I 2):=by rw[←hk];exact c0
  clear c0
  cases h1:belowB s.c a
  ·have hfin:Hid (cE s a=0):=by show _=_;unfold cE;rw[if_pos hk];simp[*]
   have zh1H:Hid (Calls S 111 #[V I s.c,V I a] W fun e w'=>e= O (Z false)∧w'=W):=bF h1 W
   clear hk
   go_enter Tryz.func113,Tryz.ntmps113
   go_wp2_with (go_at_call 111;(with_reducible refine cM zh1H.out ?_);rintro e w' ⟨rfl,hw'⟩;subst w')
   go_ret
   exact ⟨by rw[hfin.out];rfl,hg0⟩
  ·have zh1H:Hid (Calls S 111 #[V I s.c,V I a] W fun e w'=>e= O (Z true)∧w'=W):=bF h1 W
   cases h2:opB s.o
   ·have hfin:Hid (cE s a=0):=by show _=_;unfold cE;rw[if_pos hk];simp[*]
    have zh2H:Hid (Calls S 154 #[V I s.o] W fun e w'=>e= O (Z false)∧w'=W):=ze h2 W
    clear hk
    go_enter Tryz.func113,Tryz.ntmps113
    go_wp2_with (first|(go_at_call 111;(with_reducible refine cM zh1H.out ?_);rintro e w' ⟨rfl,hw'⟩;subst w')|(go_at_call 154;(with_reducible refine cM zh2H.out ?_);rintro e w' ⟨rfl,hw'⟩;subst w'))
    go_ret
    exact ⟨by rw[hfin.out];rfl,hg0⟩
   ·have zh2H:Hid (Calls S 154 #[V I s.o] W fun e w'=>e= O (Z true)∧w'=W):=ze h2 W
    cases h3:lp s.v
    ·have hfin:Hid (cE s a=0):=by show _=_;unfold cE;rw[if_pos hk];simp[*]
     have zh3H:Hid (Calls S 155 #[V I s.v] W fun e w'=>e= O (Z false)∧w'=W):=xF h3 W
     clear hk
     go_enter Tryz.func113,Tryz.ntmps113
     go_wp2_with (first|(go_at_call 111;(with_reducible refine cM zh1H.out ?_);rintro e w' ⟨rfl,hw'⟩;subst w')|(go_at_call 154;(with_reducible refine cM zh2H.out ?_);rintro e w' ⟨rfl,hw'⟩;subst w')|(go_at_call 155;(with_reducible refine cM zh3H.out ?_);rintro e w' ⟨rfl,hw'⟩;subst w'))
     go_ret
     exact ⟨by rw[hfin.out];rfl,hg0⟩
    ·have zh3H:Hid (Calls S 155 #[V I s.v] W fun e w'=>e= O (Z true)∧w'=W):=xF h3 W
     have hfin:Hid (cE s a=a):=by show _=_;unfold cE;rw[if_pos hk];simp[h1,h2,h3]
     clear hk
     go_enter Tryz.func113,Tryz.ntmps113
     go_wp2_with (first|(go_at_call 111;(with_reducible refine cM zh1H.out ?_);rintro e w' ⟨rfl,hw'⟩;subst w')|(go_at_call 154;(with_reducible refine cM zh2H.out ?_);rintro e w' ⟨rfl,hw'⟩;subst w')|(go_at_call 155;(with_reducible refine cM zh3H.out ?_);rintro e w' ⟨rfl,hw'⟩;subst w'))
     go_ret
     exact ⟨by rw[hfin.out];rfl,hg0⟩
 by_cases hk:s.k=3
 ·skip
  have e0:W.cell? ⟨w.heap.size,0,none⟩=some (V I 3):=by rw[←hk];exact c0
  clear c0
  have har:=nG s.l a s.p s.n W hrH.out.2 hrH.out.1
  by_cases h8:s.l.length≤8
  ·have h8z:(s.l.length:Int)≤8:=by omega
   cases h1:s.l.all (fun n=>belowB n a)
   ·have hfin:Hid (cE s a=0):=by show _=_;unfold cE;rw[if_neg (by omega:¬s.k=2),if_pos hk];simp[h1]
    rw[h1] at har
    have harH:Hid _:=har
    clear har hk
    go_enter Tryz.func113,Tryz.ntmps113
    go_wp2_with fail
    refine cM (show Calls _ _ _ _ _ from harH.out) ?_
    rintro e w2 ⟨rfl,hg2⟩
    have d6:w2.cell? ⟨w.heap.size,6,none⟩=some (J s.p s.l.length s.n):=(hg2.cell (p:=⟨w.heap.size,6,none⟩) (by rw[←hW];simp)).trans c6
    clear harH c1 c2 c3 c4 c5 c6 e0
    go_wp2
    go_ret
    exact ⟨by rw[hfin.out];rfl,hg0.trans hg2⟩
   ·have hfin:Hid (cE s a=s.l.length):=by show _=_;unfold cE;rw[if_neg (by omega:¬s.k=2),if_pos hk];simp[h1,h8]
    rw[h1] at har
    have harH:Hid _:=har
    clear har hk
    go_enter Tryz.func113,Tryz.ntmps113
    go_wp2_with fail
    refine cM (show Calls _ _ _ _ _ from harH.out) ?_
    rintro e w2 ⟨rfl,hg2⟩
    have d6:w2.cell? ⟨w.heap.size,6,none⟩=some (J s.p s.l.length s.n):=(hg2.cell (p:=⟨w.heap.size,6,none⟩) (by rw[←hW];simp)).trans c6
    clear harH c1 c2 c3 c4 c5 c6 e0
    go_wp2
    go_ret
    exact ⟨by rw[hfin.out];rfl,hg0.trans hg2⟩
  ·have h8z:¬(s.l.length:Int)≤8:=by omega
   have hfin:Hid (cE s a=0):=by show _=_;unfold cE;rw[if_neg (by omega:¬s.k=2),if_pos hk];simp[h8]
   clear har hk
   go_enter Tryz.func113,Tryz.ntmps113
   go_wp2
   go_ret
   exact ⟨by rw[hfin.out];rfl,hg0⟩
 by_cases hk:s.k=7
 ·skip
  have e0:W.cell? ⟨w.heap.size,0,none⟩=some (V I 7):=by rw[←hk];exact c0
  clear c0
  have hfin:Hid (cE s a=a):=by show _=_;unfold cE;rw[if_neg (by omega:¬s.k=2),if_neg (by omega:¬s.k=3),if_pos hk]
  clear hk
  go_enter Tryz.func113,Tryz.ntmps113
  go_wp2
  go_ret
  exact ⟨by rw[hfin.out];rfl,hg0⟩
 by_cases hk:s.k=8
 ·skip
  have e0:W.cell? ⟨w.heap.size,0,none⟩=some (V I 8):=by rw[←hk];exact c0
  clear c0
  cases h1:belowB s.c a
  ·have hfin:Hid (cE s a=0):=by show _=_;unfold cE;rw[if_neg (by omega:¬s.k=2),if_neg (by omega:¬s.k=3),if_neg (by omega:¬s.k=7),if_pos hk];simp[*]
   have zh1H:Hid (Calls S 111 #[V I s.c,V I a] W fun e w'=>e= O (Z false)∧w'=W):=bF h1 W
   clear hk
   go_enter Tryz.func113,Tryz.ntmps113
   go_wp2_with (go_at_call 111;(with_reducible refine cM zh1H.out ?_);rintro e w' ⟨rfl,hw'⟩;subst w')
   go_ret
   exact ⟨by rw[hfin.out];rfl,hg0⟩
  ·have zh1H:Hid (Calls S 111 #[V I s.c,V I a] W fun e w'=>e= O (Z true)∧w'=W):=bF h1 W
   have hfin:Hid (cE s a=2):=by show _=_;unfold cE;rw[if_neg (by omega:¬s.k=2),if_neg (by omega:¬s.k=3),if_neg (by omega:¬s.k=7),if_pos hk];simp[h1]
   clear hk
   go_enter Tryz.func113,Tryz.ntmps113
   go_wp2_with (go_at_call 111;(with_reducible refine cM zh1H.out ?_);rintro e w' ⟨rfl,hw'⟩;subst w')
   go_ret
   exact ⟨by rw[hfin.out];rfl,hg0⟩
 by_cases hk:s.k=9
 ·skip
  have e0:W.cell? ⟨w.heap.size,0,none⟩=some (V I 9):=by rw[←hk];exact c0
  clear c0
  cases h1:belowB s.c a
  ·have hfin:Hid (cE s a=0):=by show _=_;unfold cE;rw[if_neg (by omega:¬s.k=2),if_neg (by omega:¬s.k=3),if_neg (by omega:¬s.k=7),if_neg (by omega:¬s.k=8),if_pos hk];simp[*]
   have zh1H:Hid (Calls S 111 #[V I s.c,V I a] W fun e w'=>e= O (Z false)∧w'=W):=bF h1 W
   clear hk
   go_enter Tryz.func113,Tryz.ntmps113
   go_wp2_with (go_at_call 111;(with_reducible refine cM zh1H.out ?_);rintro e w' ⟨rfl,hw'⟩;subst w')
   go_ret
   exact ⟨by rw[hfin.out];rfl,hg0⟩
  ·have zh1H:Hid (Calls S 111 #[V I s.c,V I a] W fun e w'=>e= O (Z true)∧w'=W):=bF h1 W
   cases h2:belowB s.v a
   ·have hfin:Hid (cE s a=0):=by show _=_;unfold cE;rw[if_neg (by omega:¬s.k=2),if_neg (by omega:¬s.k=3),if_neg (by omega:¬s.k=7),if_neg (by omega:¬s.k=8),if_pos hk];simp[*]
    have zh2H:Hid (Calls S 111 #[V I s.v,V I a] W fun e w'=>e= O (Z false)∧w'=W):=bF h2 W
    clear hk
    go_enter Tryz.func113,Tryz.ntmps113
    go_wp2_with (first|(go_at_call 111;(with_reducible refine cM zh1H.out ?_);rintro e w' ⟨rfl,hw'⟩;subst w')|(go_at_call 111;(with_reducible refine cM zh2H.out ?_);rintro e w' ⟨rfl,hw'⟩;subst w'))
    go_ret
    exact ⟨by rw[hfin.out];rfl,hg0⟩
   ·have zh2H:Hid (Calls S 111 #[V I s.v,V I a] W fun e w'=>e= O (Z true)∧w'=W):=bF h2 W
    have hfin:Hid (cE s a=2):=by show _=_;unfold cE;rw[if_neg (by omega:¬s.k=2),if_neg (by omega:¬s.k=3),if_neg (by omega:¬s.k=7),if_neg (by omega:¬s.k=8),if_pos hk];simp[h1,h2]
    clear hk
    go_enter Tryz.func113,Tryz.ntmps113
    go_wp2_with (first|(go_at_call 111;(with_reducible refine cM zh1H.out ?_);rintro e w' ⟨rfl,hw'⟩;subst w')|(go_at_call 111;(with_reducible refine cM zh2H.out ?_);rintro e w' ⟨rfl,hw'⟩;subst w'))
    go_ret
    exact ⟨by rw[hfin.out];rfl,hg0⟩
 have hfin:Hid (cE s a=0):=by show _=_;unfold cE;rw[if_neg (by assumption:¬s.k=2),if_neg (by assumption:¬s.k=3),if_neg (by assumption:¬s.k=7),if_neg (by assumption:¬s.k=8),if_neg (by assumption:¬s.k=9)]
 have q2:(s.k==2)=false:=by simp;omega
 have q3:(s.k==3)=false:=by simp;omega
 have q7:(s.k==7)=false:=by simp;omega
 have q8:(s.k==8)=false:=by simp;omega
 have q9:(s.k==9)=false:=by simp;omega
 go_enter Tryz.func113,Tryz.ntmps113
 go_wp2
 go_ret
 exact ⟨by rw[hfin.out];rfl,hg0⟩

theorem vR (s:Stp) (a b:Int) (w:World) (ha:0≤a∧a≤8) (hb:0≤b∧b≤8) :
  Calls S 112 #[Y #[V I s.k,V I s.a,V I s.b,V I s.c,V I s.o,V I s.v,J s.p s.l.length s.n],V I a,V I b] w fun e w'=>e= O (V I (dq s a b))∧Gr w w':=by
 obtain ⟨W,hW⟩:∃W,w.alloc (H #[V I s.k,V I s.a,V I s.b,V I s.c,V I s.o,V I s.v,J s.p s.l.length s.n] 86)=W:=⟨_,rfl⟩
 have hg0:Gr w W:=by rw[←hW];exact (gR w).alloc _
 have hab:IntKind.i64.wrap (a+b)=a+b:=by rw[IntKind.wrap_i64];omega
 have c0:W.cell? ⟨w.heap.size,0,none⟩=some (V I s.k):=by rw[←hW];exact aa (gR _) rfl
 have c1:W.cell? ⟨w.heap.size,1,none⟩=some (V I s.a):=by rw[←hW];exact aa (gR _) rfl
 have c2:W.cell? ⟨w.heap.size,2,none⟩=some (V I s.b):=by rw[←hW];exact aa (gR _) rfl
 have c3:W.cell? ⟨w.heap.size,3,none⟩=some (V I s.c):=by rw[←hW];exact aa (gR _) rfl
 have c4:W.cell? ⟨w.heap.size,4,none⟩=some (V I s.o):=by rw[←hW];exact aa (gR _) rfl
 have c5:W.cell? ⟨w.heap.size,5,none⟩=some (V I s.v):=by rw[←hW];exact aa (gR _) rfl
 by_cases hk:s.k=4
 ·skip
  have e0:W.cell? ⟨w.heap.size,0,none⟩=some (V I 4):=by rw[←hk];exact c0
  clear c0
  by_cases h8:a+b≤8
  ·skip
   cases h1:belowB s.c a
   ·have hfin:Hid (dq s a b=0):=by show _=_;unfold dq;rw[if_pos hk];simp[*]
    have zh1H:Hid (Calls S 111 #[V I s.c,V I a] W fun e w'=>e= O (Z false)∧w'=W):=bF h1 W
    clear hk
    go_enter Tryz.func112,Tryz.ntmps112
    go_wp2_with (go_at_call 111;(with_reducible refine cM zh1H.out ?_);rintro e w' ⟨rfl,hw'⟩;subst w')
    go_ret
    exact ⟨by rw[hfin.out];rfl,hg0⟩
   ·have zh1H:Hid (Calls S 111 #[V I s.c,V I a] W fun e w'=>e= O (Z true)∧w'=W):=bF h1 W
    cases h2:belowB s.v b
    ·have hfin:Hid (dq s a b=0):=by show _=_;unfold dq;rw[if_pos hk];simp[*]
     have zh2H:Hid (Calls S 111 #[V I s.v,V I b] W fun e w'=>e= O (Z false)∧w'=W):=bF h2 W
     clear hk
     go_enter Tryz.func112,Tryz.ntmps112
     go_wp2_with (first|(go_at_call 111;(with_reducible refine cM zh1H.out ?_);rintro e w' ⟨rfl,hw'⟩;subst w')|(go_at_call 111;(with_reducible refine cM zh2H.out ?_);rintro e w' ⟨rfl,hw'⟩;subst w'))
     go_ret
     exact ⟨by rw[hfin.out];rfl,hg0⟩
    ·have zh2H:Hid (Calls S 111 #[V I s.v,V I b] W fun e w'=>e= O (Z true)∧w'=W):=bF h2 W
     have hfin:Hid (dq s a b=a+b):=by show _=_;unfold dq;rw[if_pos hk];simp[h1,h2,h8]
     clear hk
     go_enter Tryz.func112,Tryz.ntmps112
     go_wp2_with (first|(go_at_call 111;(with_reducible refine cM zh1H.out ?_);rintro e w' ⟨rfl,hw'⟩;subst w')|(go_at_call 111;(with_reducible refine cM zh2H.out ?_);rintro e w' ⟨rfl,hw'⟩;subst w'))
     go_ret
     exact ⟨by rw[hfin.out];rfl,hg0⟩
  ·skip
   cases h1:belowB s.c a
   ·have hfin:Hid (dq s a b=0):=by show _=_;unfold dq;rw[if_pos hk];simp[*]
    have zh1H:Hid (Calls S 111 #[V I s.c,V I a] W fun e w'=>e= O (Z false)∧w'=W):=bF h1 W
    clear hk
    go_enter Tryz.func112,Tryz.ntmps112
    go_wp2_with (go_at_call 111;(with_reducible refine cM zh1H.out ?_);rintro e w' ⟨rfl,hw'⟩;subst w')
    go_ret
    exact ⟨by rw[hfin.out];rfl,hg0⟩
   ·have zh1H:Hid (Calls S 111 #[V I s.c,V I a] W fun e w'=>e= O (Z true)∧w'=W):=bF h1 W
    cases h2:belowB s.v b
    ·have hfin:Hid (dq s a b=0):=by show _=_;unfold dq;rw[if_pos hk];simp[*]
     have zh2H:Hid (Calls S 111 #[V I s.v,V I b] W fun e w'=>e= O (Z false)∧w'=W):=bF h2 W
     clear hk
     go_enter Tryz.func112,Tryz.ntmps112
     go_wp2_with (first|(go_at_call 111;(with_reducible refine cM zh1H.out ?_);rintro e w' ⟨rfl,hw'⟩;subst w')|(go_at_call 111;(with_reducible refine cM zh2H.out ?_);rintro e w' ⟨rfl,hw'⟩;subst w'))
     go_ret
     exact ⟨by rw[hfin.out];rfl,hg0⟩
    ·have zh2H:Hid (Calls S 111 #[V I s.v,V I b] W fun e w'=>e= O (Z true)∧w'=W):=bF h2 W
     have hfin:Hid (dq s a b=0):=by show _=_;unfold dq;rw[if_pos hk];simp[h8]
     clear hk
     go_enter Tryz.func112,Tryz.ntmps112
     go_wp2_with (first|(go_at_call 111;(with_reducible refine cM zh1H.out ?_);rintro e w' ⟨rfl,hw'⟩;subst w')|(go_at_call 111;(with_reducible refine cM zh2H.out ?_);rintro e w' ⟨rfl,hw'⟩;subst w'))
     go_ret
     exact ⟨by rw[hfin.out];rfl,hg0⟩
 by_cases hk:s.k=5
 ·skip
  have e0:W.cell? ⟨w.heap.size,0,none⟩=some (V I 5):=by rw[←hk];exact c0
  clear c0
  by_cases hab2:a=b
  ·subst hab2
   have hfin:Hid (dq s a a=a):=by show _=_;unfold dq;rw[if_neg (by omega:¬s.k=4),if_pos hk];simp
   clear hk
   go_enter Tryz.func112,Tryz.ntmps112
   go_wp2
   go_ret
   exact ⟨by rw[hfin.out];rfl,hg0⟩
  ·have hfin:Hid (dq s a b=0):=by show _=_;unfold dq;rw[if_neg (by omega:¬s.k=4),if_pos hk];simp[hab2]
   have hqb:(a==b)=false:=by simpa using hab2
   clear hk hab2
   go_enter Tryz.func112,Tryz.ntmps112
   go_wp2
   go_ret
   exact ⟨by rw[hfin.out];rfl,hg0⟩
 by_cases hk:s.k=6
 ·skip
  have e0:W.cell? ⟨w.heap.size,0,none⟩=some (V I 6):=by rw[←hk];exact c0
  clear c0
  by_cases hab2:a=b
  ·subst hab2
   have hfin:Hid (dq s a a=a):=by show _=_;unfold dq;rw[if_neg (by omega:¬s.k=4),if_neg (by omega:¬s.k=5),if_pos hk];simp
   clear hk
   go_enter Tryz.func112,Tryz.ntmps112
   go_wp2
   go_ret
   exact ⟨by rw[hfin.out];rfl,hg0⟩
  ·have hfin:Hid (dq s a b=0):=by show _=_;unfold dq;rw[if_neg (by omega:¬s.k=4),if_neg (by omega:¬s.k=5),if_pos hk];simp[hab2]
   have hqb:(a==b)=false:=by simpa using hab2
   clear hk hab2
   go_enter Tryz.func112,Tryz.ntmps112
   go_wp2
   go_ret
   exact ⟨by rw[hfin.out];rfl,hg0⟩
 have hfin:Hid (dq s a b=0):=by show _=_;unfold dq;rw[if_neg (by assumption:¬s.k=4),if_neg (by assumption:¬s.k=5),if_neg (by assumption:¬s.k=6)]
 have q4:(s.k==4)=false:=by simp;omega
 have q5:(s.k==5)=false:=by simp;omega
 have q6:(s.k==6)=false:=by simp;omega
 go_enter Tryz.func112,Tryz.ntmps112
 go_wp2
 go_ret
 exact ⟨by rw[hfin.out];rfl,hg0⟩


def aI (s:Stp) (ah:List Int):Int:=if aM s=true then (if s.k=1 then (if belowB s.a 2=true then 4 else 0) else if belowB s.a ah.length=true then (if s.k=4∨s.k=5∨s.k=6 then (if belowB s.b ah.length=true then dq s (ah.getD s.a.toNat 0) (ah.getD s.b.toNat 0) else 0) else cE s (ah.getD s.a.toNat 0)) else 0) else 0
theorem grD {w w':World} (h:Gr w w'):∃q os',w'=grow (w.drewN q) os':=h
theorem mu {n:Int} {m:Nat} (h:belowB n m=true):∃k:Nat,n=k∧k<m:=by
 simp only[belowB,Bool.and_eq_true,decide_eq_true_eq] at h
 exact ⟨n.toNat,by omega,by omega⟩
theorem rz {l:List Int} {k:Nat} (h:k<l.length):l.getD k 0=l[k]:=by rw[List.getD_eq_getElem?_getD,List.getElem?_eq_getElem h];rfl

theorem tI (s:Stp) (ah:List Int) (A:Option Addr) (ca:Nat) (w:World) (hl:s.l.length≤maxLen) (hr:ay w s.p s.l) (hra:ay w A ah) (hah:∀x∈ah,0≤x∧x≤8) :
  Calls S 73 #[Y #[V I s.k,V I s.a,V I s.b,V I s.c,V I s.o,V I s.v,J s.p s.l.length s.n],J A ah.length ca] w fun e w'=>e= O (V I (aI s ah))∧Gr w w':=by
 have mixed:Tryz.prog.follows .mixedOrders=true:=by kernel_rfl
 have hg0:Gr w (w.alloc (H #[V I s.k,V I s.a,V I s.b,V I s.c,V I s.o,V I s.v,J s.p s.l.length s.n] 86)):=(gR w).alloc _
 have hlo:=rZ s (w.alloc (H #[V I s.k,V I s.a,V I s.b,V I s.c,V I s.o,V I s.v,J s.p s.l.length s.n] 86))
 have hloH:Hid _:=hlo
 have c0:(w.alloc (H #[V I s.k,V I s.a,V I s.b,V I s.c,V I s.o,V I s.v,J s.p s.l.length s.n] 86)).cell? ⟨w.heap.size,0,none⟩=some (V I s.k):=aa (gR _) rfl
 have c1:(w.alloc (H #[V I s.k,V I s.a,V I s.b,V I s.c,V I s.o,V I s.v,J s.p s.l.length s.n] 86)).cell? ⟨w.heap.size,1,none⟩=some (V I s.a):=aa (gR _) rfl
 have c2:(w.alloc (H #[V I s.k,V I s.a,V I s.b,V I s.c,V I s.o,V I s.v,J s.p s.l.length s.n] 86)).cell? ⟨w.heap.size,2,none⟩=some (V I s.b):=aa (gR _) rfl
 have c3:(w.alloc (H #[V I s.k,V I s.a,V I s.b,V I s.c,V I s.o,V I s.v,J s.p s.l.length s.n] 86)).cell? ⟨w.heap.size,3,none⟩=some (V I s.c):=aa (gR _) rfl
 have c4:(w.alloc (H #[V I s.k,V I s.a,V I s.b,V I s.c,V I s.o,V I s.v,J s.p s.l.length s.n] 86)).cell? ⟨w.heap.size,4,none⟩=some (V I s.o):=aa (gR _) rfl
 have c5:(w.alloc (H #[V I s.k,V I s.a,V I s.b,V I s.c,V I s.o,V I s.v,J s.p s.l.length s.n] 86)).cell? ⟨w.heap.size,5,none⟩=some (V I s.v):=aa (gR _) rfl
 have c6:(w.alloc (H #[V I s.k,V I s.a,V I s.b,V I s.c,V I s.o,V I s.v,J s.p s.l.length s.n] 86)).cell? ⟨w.heap.size,6,none⟩=some (J s.p s.l.length s.n):=aa (gR _) rfl
 have hrH:Hid (ay w s.p s.l∧s.l.length≤maxLen∧ay w A ah∧∀x∈ah,0≤x∧x≤8):=⟨hr,hl,hra,hah⟩
 clear hlo hr hl hra hah
 go_enter Tryz.func73,Tryz.ntmps73
 go_wp2_with fail
 refine cM (show Calls _ _ _ _ _ from hloH.out) ?_
 rintro e w1 ⟨rfl,hg1⟩
 clear hloH c0 c1 c2 c3 c4 c5 c6
 have c0:w1.cell? ⟨w.heap.size,0,none⟩=some (V I s.k):=aa hg1 rfl
 have c1:w1.cell? ⟨w.heap.size,1,none⟩=some (V I s.a):=aa hg1 rfl
 have c2:w1.cell? ⟨w.heap.size,2,none⟩=some (V I s.b):=aa hg1 rfl
 have c3:w1.cell? ⟨w.heap.size,3,none⟩=some (V I s.c):=aa hg1 rfl
 have c4:w1.cell? ⟨w.heap.size,4,none⟩=some (V I s.o):=aa hg1 rfl
 have c5:w1.cell? ⟨w.heap.size,5,none⟩=some (V I s.v):=aa hg1 rfl
 have c6:w1.cell? ⟨w.heap.size,6,none⟩=some (J s.p s.l.length s.n):=aa hg1 rfl
 have hgw:Gr w w1:=hg0.trans hg1
 cases hal0:aM s
 ·have hfin:Hid (aI s ah=0):=by show _=_;unfold aI;rw[if_neg (by rw[hal0];simp)]
  go_wp2
  go_ret
  exact ⟨by rw[hfin.out];rfl,hgw⟩
 have hun:Hid (aI s ah=if s.k=1 then (if belowB s.a 2=true then 4 else 0) else if belowB s.a ah.length=true then (if s.k=4∨s.k=5∨s.k=6 then (if belowB s.b ah.length=true then dq s (ah.getD s.a.toNat 0) (ah.getD s.b.toNat 0) else 0) else cE s (ah.getD s.a.toNat 0)) else 0):=by show _=_;unfold aI;rw[if_pos hal0]
 by_cases hk:s.k=1
 ·have e0:w1.cell? ⟨w.heap.size,0,none⟩=some (V I 1):=by rw[←hk];exact c0
  clear c0
  cases hb:belowB s.a 2
  ·have hfin:Hid (aI s ah=0):=by show _=_;rw[hun.out,if_pos hk,if_neg (by rw[hb];simp)]
   have hzH:Hid (Calls S 111 #[V I s.a,V I 2] w1 fun e w'=>e= O (Z false)∧w'=w1):=bF hb w1
   clear hk
   go_wp2_with (go_at_call 111;(with_reducible refine cM hzH.out ?_);rintro e w' ⟨rfl,hw'⟩;subst w')
   go_ret
   exact ⟨by rw[hfin.out];rfl,hgw⟩
  ·have hfin:Hid (aI s ah=4):=by show _=_;rw[hun.out,if_pos hk,if_pos hb]
   have hzH:Hid (Calls S 111 #[V I s.a,V I 2] w1 fun e w'=>e= O (Z true)∧w'=w1):=bF hb w1
   clear hk
   go_wp2_with (go_at_call 111;(with_reducible refine cM hzH.out ?_);rintro e w' ⟨rfl,hw'⟩;subst w')
   go_ret
   exact ⟨by rw[hfin.out];rfl,hgw⟩
 have hkb:(s.k==1)=false:=by simpa using hk
 cases hb:belowB s.a ah.length
 ·have hfin:Hid (aI s ah=0):=by show _=_;rw[hun.out,if_neg hk,if_neg (by rw[hb];simp)]
  have hzH:Hid (Calls S 111 #[V I s.a,V I ah.length] w1 fun e w'=>e= O (Z false)∧w'=w1):=bF hb w1
  clear hk
  go_wp2_with (go_at_call 111;(with_reducible refine cM hzH.out ?_);rintro e w' ⟨rfl,hw'⟩;subst w')
  go_ret
  exact ⟨by rw[hfin.out];rfl,hgw⟩
 have hzH:Hid (Calls S 111 #[V I s.a,V I ah.length] w1 fun e w'=>e= O (Z true)∧w'=w1):=bF hb w1
 obtain ⟨ka,hka,hkal⟩:=mu hb
 have hra1:ay w1 A ah:=hrH.out.2.2.1.gr hgw
 obtain ⟨ba,oa,rfl,hba,hca⟩:=hra1.at hkal
 obtain ⟨xa,hxa⟩:∃x,ah[ka]=x:=⟨_,rfl⟩
 have ea0:=hca ka hkal 0 (by omega)
 rw[hxa] at ea0
 have ea:w1.cell? ⟨ba,oa+ka,none⟩=some (V I xa):=by simpa[fv] using ea0
 have hga:Hid (ah.getD s.a.toNat 0=xa∧0≤xa∧xa≤8):=by
  refine ⟨?_,hrH.out.2.2.2 xa (by rw[←hxa];exact gM hkal)⟩
  rw[hka,Int.toNat_natCast,rz hkal,hxa]
 have hkaz:(ka:Int)<(ah.length:Int):=by omega
 have d1:w1.cell? ⟨w.heap.size,1,none⟩=some (V I (ka:Int)):=by rw[←hka];exact c1
 rw[hka] at hzH
 clear ea0 hxa c1
 by_cases hk2:s.k=4∨s.k=5∨s.k=6
 ·cases hb2:belowB s.b ah.length
  ·have hfin:Hid (aI s ah=0):=by show _=_;rw[hun.out,if_neg hk,if_pos hb,if_pos hk2,if_neg (by rw[hb2];simp)]
   have hyH:Hid (Calls S 111 #[V I s.b,V I ah.length] w1 fun e w'=>e= O (Z false)∧w'=w1):=bF hb2 w1
   clear hk hka hb hca hra1
   rcases hk2 with k4|k4|k4
   all_goals
    rw[k4] at c0
    clear k4 hkb
    go_wp2_with (first|(go_at_call 111;(with_reducible refine cM hzH.out ?_);rintro e w' ⟨rfl,hw'⟩;subst w')|(go_at_call 111;(with_reducible refine cM hyH.out ?_);rintro e w' ⟨rfl,hw'⟩;subst w'))
    go_ret
    exact ⟨by rw[hfin.out];rfl,hgw⟩
  ·have hyH0:Calls S 111 #[V I s.b,V I ah.length] w1 fun e w'=>e= O (Z true)∧w'=w1:=bF hb2 w1
   obtain ⟨kb,hkb2,hkbl⟩:=mu hb2
   obtain ⟨xb,hxb⟩:∃x,ah[kb]=x:=⟨_,rfl⟩
   have eb0:=hca kb hkbl 0 (by omega)
   rw[hxb] at eb0
   have eb:w1.cell? ⟨ba,oa+kb,none⟩=some (V I xb):=by simpa[fv] using eb0
   have hgb:Hid (ah.getD s.b.toNat 0=xb∧0≤xb∧xb≤8):=by
    refine ⟨?_,hrH.out.2.2.2 xb (by rw[←hxb];exact gM hkbl)⟩
    rw[hkb2,Int.toNat_natCast,rz hkbl,hxb]
   have hkbz:(kb:Int)<(ah.length:Int):=by omega
   have d2:w1.cell? ⟨w.heap.size,2,none⟩=some (V I (kb:Int)):=by rw[←hkb2];exact c2
   rw[hkb2] at hyH0
   have hyH:Hid (Calls S 111 #[V I (kb:Int),V I ah.length] w1 fun e w'=>e= O (Z true)∧w'=w1):=hyH0
   have hfin:Hid (aI s ah=dq s xa xb):=by show _=_;rw[hun.out,if_neg hk,if_pos hb,if_pos hk2,if_pos hb2,hga.out.1,hgb.out.1]
   have htw:∀n os,Calls S 112 #[Y #[V I s.k,V I s.a,V I s.b,V I s.c,V I s.o,V I s.v,J s.p s.l.length s.n],V I xa,V I xb] (grow (w1.drewN n) os) fun e w'=>e= O (V I (dq s xa xb))∧∃q os',w'=grow ((grow (w1.drewN n) os).drewN q) os':=fun n os=>(vR s xa xb _ hga.out.2 hgb.out.2).mono fun e w' h=>⟨h.1,grD h.2⟩
   rw[hka,hkb2] at htw
   have gb:=(gR w1).cellG (a:=⟨ba,oa+kb,none⟩) hba eb
   have xlt:w.heap.size<w1.heap.size:=World.block_lt_of_cell? w1 ⟨w.heap.size,0,none⟩ c0
   have g0:=(gR w1).cellG (a:=⟨w.heap.size,0,none⟩) xlt c0
   have g1:=(gR w1).cellG (a:=⟨w.heap.size,1,none⟩) xlt d1
   have g2:=(gR w1).cellG (a:=⟨w.heap.size,2,none⟩) xlt d2
   have g3:=(gR w1).cellG (a:=⟨w.heap.size,3,none⟩) xlt c3
   have g4:=(gR w1).cellG (a:=⟨w.heap.size,4,none⟩) xlt c4
   have g5:=(gR w1).cellG (a:=⟨w.heap.size,5,none⟩) xlt c5
   have g6:=(gR w1).cellG (a:=⟨w.heap.size,6,none⟩) xlt c6
   have ga:=(gR w1).cellG (a:=⟨ba,oa+ka,none⟩) hba ea
   clear hk hb hca hra1 eb0 hxb c2 hyH0 hb2
   rcases hk2 with k4|k4|k4
   all_goals
    rw[k4] at c0 htw g0
    have htwH:Hid (∀n os,Calls S 112 _ (grow (w1.drewN n) os) _):=htw
    clear k4 hkb htw
    go_wp2_with (first|(go_at_call 111;(with_reducible refine cM hzH.out ?_);rintro e w' ⟨rfl,hw'⟩;subst w')|(go_at_call 111;(with_reducible refine cM hyH.out ?_);rintro e w' ⟨rfl,hw'⟩;subst w'))
    refine wp_region_quiet_grown mixed (by kernel_rfl) ?_
    repeat (go_big_quiet_step ((go_at_call 112;refine Calls.grown_of (htwH.out _ _))))
    refine wpQuiet_nil ?_
    rintro _ ⟨⟨nq2,osq2⟩,rfl⟩
    go_wp2
    go_ret
    exact ⟨by rw[hfin.out];rfl,hgw.trans ⟨nq2,osq2,rfl⟩⟩
 ·have hfin:Hid (aI s ah=cE s xa):=by show _=_;rw[hun.out,if_neg hk,if_pos hb,if_neg hk2,hga.out.1]
  have how:∀n os,Calls S 113 #[Y #[V I s.k,V I s.a,V I s.b,V I s.c,V I s.o,V I s.v,J s.p s.l.length s.n],V I xa] (grow (w1.drewN n) os) fun e w'=>e= O (V I (cE s xa))∧∃q os',w'=grow ((grow (w1.drewN n) os).drewN q) os':=fun n os=>(vd s xa _ hrH.out.2.1 (hrH.out.1.gr (hgw.trans ⟨n,os,rfl⟩))).mono fun e w' h=>⟨h.1,grD h.2⟩
  rw[hka] at how
  have howH:Hid (∀n os,Calls S 113 _ (grow (w1.drewN n) os) _):=how
  have q4:(s.k==4)=false:=by simp;omega
  have q5:(s.k==5)=false:=by simp;omega
  have q6:(s.k==6)=false:=by simp;omega
  have xlt:w.heap.size<w1.heap.size:=World.block_lt_of_cell? w1 ⟨w.heap.size,0,none⟩ c0
  have g0:=(gR w1).cellG (a:=⟨w.heap.size,0,none⟩) xlt c0
  have g1:=(gR w1).cellG (a:=⟨w.heap.size,1,none⟩) xlt d1
  have g2:=(gR w1).cellG (a:=⟨w.heap.size,2,none⟩) xlt c2
  have g3:=(gR w1).cellG (a:=⟨w.heap.size,3,none⟩) xlt c3
  have g4:=(gR w1).cellG (a:=⟨w.heap.size,4,none⟩) xlt c4
  have g5:=(gR w1).cellG (a:=⟨w.heap.size,5,none⟩) xlt c5
  have g6:=(gR w1).cellG (a:=⟨w.heap.size,6,none⟩) xlt c6
  have ga:=(gR w1).cellG (a:=⟨ba,oa+ka,none⟩) hba ea
  clear hk hb hca hra1 how hk2
  go_wp2_with (go_at_call 111;(with_reducible refine cM hzH.out ?_);rintro e w' ⟨rfl,hw'⟩;subst w')
  refine wp_region_quiet_grown mixed (by kernel_rfl) ?_
  repeat (go_big_quiet_step ((go_at_call 113;refine Calls.grown_of (howH.out _ _))))
  refine wpQuiet_nil ?_
  rintro _ ⟨⟨nq2,osq2⟩,rfl⟩
  go_wp2
  go_ret
  exact ⟨by rw[hfin.out];rfl,hgw.trans ⟨nq2,osq2,rfl⟩⟩


structure Stps (w:World) (A:Option Addr) (q:List Stp):Prop where
 row:ax iH 7 w A q
 each:∀s∈q,ay w s.p s.l∧s.l.length≤maxLen∧(s.p=none→s.n=0)
theorem Stps.below {w w':World} {A:Option Addr} {q:List Stp} (h:Stps w A q) (k:Below w.heap.size w w'):Stps w' A q:=⟨h.row.below k,fun s hs=>⟨(h.each s hs).1.below k,(h.each s hs).2⟩⟩
theorem Stps.gr {w w':World} {A:Option Addr} {q:List Stp} (h:Stps w A q) (k:Gr w w'):Stps w' A q:=h.below k.below
theorem Stps.at {w:World} {A:Option Addr} {q:List Stp} (h:Stps w A q) {j:Nat} (hj:j<q.length):∃b off,A=some ⟨b,off,none⟩∧b<w.heap.size∧∀i,i<7→w.cell? ⟨b,off+j*7+i,none⟩=(iH q[j])[i]? := by
 obtain ⟨b,off,hA,hb,hc⟩:=h.row.at hj
 exact ⟨b,off,hA,hb,fun i hi=>hc j hj i hi⟩
def dm:List Stp→List Int→Option (List Int)
 | [],ah=>some ah
 | s::t,ah=>if aI s ah=0 then none else dm t (ah++[aI s ah])
def bM (q:List Stp):Int:=if q.length=0 then 1 else if 8<q.length then 2 else if (dm q []).isSome=true then 0 else 1
def iC (q:List Stp):List Int:=if bM q=0 then (dm q []).getD [] else []
theorem kX {l:List Int} (h:∀x∈l,0≤x∧x≤8) (k:Nat):0≤l.getD k 0∧l.getD k 0≤8:=by
 rw[List.getD_eq_getElem?_getD]
 cases e:l[k]? with
 | none=>simp
 | some x=>exact h x (List.mem_of_getElem? e)
theorem yz (s:Stp) {a:Int} (h:0≤a∧a≤8):0≤cE s a∧cE s a≤8:=by
 unfold cE
 repeat' split
 all_goals first|omega|skip
 rename_i h1
 simp at h1
 omega
theorem yJ (s:Stp) {a b:Int} (h:0≤a∧a≤8) (k:0≤b∧b≤8):0≤dq s a b∧dq s a b≤8:=by
 unfold dq
 repeat' split
 all_goals first|omega|skip
 rename_i h1
 simp at h1
 omega
theorem vW (s:Stp) {ah:List Int} (h:∀x∈ah,0≤x∧x≤8):0≤aI s ah∧aI s ah≤8:=by
 have h1:=yz s (kX h s.a.toNat)
 have h2:=yJ s (kX h s.a.toNat) (kX h s.b.toNat)
 unfold aI
 repeat' split
 all_goals omega

theorem rg (q:List Stp) (A:Option Addr) (ca:Nat) (w:World) (hl:q.length≤maxLen) (hq:Stps w A q) :
  Calls S 48 #[J A q.length ca] w fun e w'=>∃(C:Option Addr) (c:Nat),e= O (.tuple #[J C (iC q).length c,V I (bM q)])∧ay w' C (iC q)∧(C=none→c=0)∧Below w.heap.size w w':=by
 unfold maxLen at hl
 by_cases h0:q.length=0
 ·have e1:Hid (bM q=1∧iC q=[]):=by
   have e:bM q=1:=by unfold bM;rw[if_pos h0]
   exact ⟨e,by unfold iC;rw[e,if_neg (by decide)]⟩
  have h0z:((q.length:Int)==0)=true:=by rw[h0];rfl
  clear h0
  go_enter Tryz.func48,Tryz.ntmps48
  go_wp2
  go_ret2
  exact ⟨none,0,by rw[e1.out.1,e1.out.2];rfl,by rw[e1.out.2];exact oL rfl,fun _=>rfl,bR _ _⟩
 have h0z:((q.length:Int)==0)=false:=beq_eq_false_iff_ne.2 (by omega)
 by_cases h8:8<q.length
 ·have e1:Hid (bM q=2∧iC q=[]):=by
   have e:bM q=2:=by unfold bM;rw[if_neg h0,if_pos h8]
   exact ⟨e,by unfold iC;rw[e,if_neg (by decide)]⟩
  have h8z:(8:Int)<(q.length:Int):=by omega
  clear h0
  go_enter Tryz.func48,Tryz.ntmps48
  go_wp2
  go_ret2
  exact ⟨none,0,by rw[e1.out.1,e1.out.2];rfl,by rw[e1.out.2];exact oL rfl,fun _=>rfl,bR _ _⟩
 have h8z:¬(8:Int)<(q.length:Int):=by omega
 have herr:Hid (bM q=if (dm q []).isSome=true then 0 else 1):=by show _=_;unfold bM;rw[if_neg h0,if_neg h8]
 have hqH:Hid (Stps w A q):=hq
 clear hq h0
 go_enter Tryz.func48,Tryz.ntmps48
 go_wp2
 go_loopw [4,16] (fun v i wr=>∃(j:Nat) (ah:List Int),j≤q.length∧i= V I j∧Hid (ah.length=j∧(∀x∈ah,0≤x∧x≤8)∧dm q []=dm (q.drop j) ah)∧Hid (dY wr w.heap.size v ah∧Below w.heap.size w wr)) (fun _ i _=>q.length-(intOf i).toNat)
 case atStart=>exact ⟨0,[],by omega,rfl,⟨rfl,(fun x hx=>by cases hx),by simp⟩,ag.nil _ _ _ _ _,bR _ _⟩
 case round =>
  obtain ⟨j,ah,hj,rfl,hfo,hov⟩:=hrel
  by_cases hlt:j<q.length
  ·have hltz:(j:Int)<(q.length:Int):=by omega
   have hI:Hid (Stps wr A q):=hqH.out.below hov.out.2
   obtain ⟨bb,off,rfl,hb,hcs⟩:=hI.out.at hlt
   obtain ⟨s,hs⟩:∃s,q[j]=s:=⟨_,rfl⟩
   have hsr:=hI.out.each s (by rw[←hs];exact gM hlt)
   rw[hs] at hcs
   have m0:wr.cell? ⟨bb,off+j*7,none⟩=some (V I s.k):=hcs 0 (by omega)
   have m1:wr.cell? ⟨bb,off+j*7+1,none⟩=some (V I s.a):=hcs 1 (by omega)
   have m2:wr.cell? ⟨bb,off+j*7+2,none⟩=some (V I s.b):=hcs 2 (by omega)
   have m3:wr.cell? ⟨bb,off+j*7+3,none⟩=some (V I s.c):=hcs 3 (by omega)
   have m4:wr.cell? ⟨bb,off+j*7+4,none⟩=some (V I s.o):=hcs 4 (by omega)
   have m5:wr.cell? ⟨bb,off+j*7+5,none⟩=some (V I s.v):=hcs 5 (by omega)
   have m6:wr.cell? ⟨bb,off+j*7+6,none⟩=some (J s.p s.l.length s.n):=hcs 6 (by omega)
   have hstep:Hid (dm q []=if aI s ah=0 then none else dm (q.drop (j+1)) (ah++[aI s ah])):=by
    show _=_
    rw[hfo.out.2.2,List.drop_eq_getElem_cons hlt,hs]
    rfl
   have hwb:=vW s hfo.out.2.1
   obtain ⟨G,gc,rfl,hG,hrow,hlt4⟩:=ag.row bU hov.out.1
   have hg0:Gr wr (wr.alloc (H #[V I s.k,V I s.a,V I s.b,V I s.c,V I s.o,V I s.v,J s.p s.l.length s.n] 86)):=(gR wr).alloc _
   have c0:(wr.alloc (H #[V I s.k,V I s.a,V I s.b,V I s.c,V I s.o,V I s.v,J s.p s.l.length s.n] 86)).cell? ⟨wr.heap.size,0,none⟩=some (V I s.k):=aa (gR _) rfl
   have c1:(wr.alloc (H #[V I s.k,V I s.a,V I s.b,V I s.c,V I s.o,V I s.v,J s.p s.l.length s.n] 86)).cell? ⟨wr.heap.size,1,none⟩=some (V I s.a):=aa (gR _) rfl
   have c2:(wr.alloc (H #[V I s.k,V I s.a,V I s.b,V I s.c,V I s.o,V I s.v,J s.p s.l.length s.n] 86)).cell? ⟨wr.heap.size,2,none⟩=some (V I s.b):=aa (gR _) rfl
   have c3:(wr.alloc (H #[V I s.k,V I s.a,V I s.b,V I s.c,V I s.o,V I s.v,J s.p s.l.length s.n] 86)).cell? ⟨wr.heap.size,3,none⟩=some (V I s.c):=aa (gR _) rfl
   have c4:(wr.alloc (H #[V I s.k,V I s.a,V I s.b,V I s.c,V I s.o,V I s.v,J s.p s.l.length s.n] 86)).cell? ⟨wr.heap.size,4,none⟩=some (V I s.o):=aa (gR _) rfl
   have c5:(wr.alloc (H #[V I s.k,V I s.a,V I s.b,V I s.c,V I s.o,V I s.v,J s.p s.l.length s.n] 86)).cell? ⟨wr.heap.size,5,none⟩=some (V I s.v):=aa (gR _) rfl
   have c6:(wr.alloc (H #[V I s.k,V I s.a,V I s.b,V I s.c,V I s.o,V I s.v,J s.p s.l.length s.n] 86)).cell? ⟨wr.heap.size,6,none⟩=some (J s.p s.l.length s.n):=aa (gR _) rfl
   have hwd:=tI s ah G gc (wr.alloc (H #[V I s.k,V I s.a,V I s.b,V I s.c,V I s.o,V I s.v,J s.p s.l.length s.n] 86)) hsr.2.1 (hsr.1.gr hg0) (hrow.gr hg0) hfo.out.2.1
   obtain ⟨n,hn⟩:∃n,aI s ah=n:=⟨_,rfl⟩
   rw[hn] at hwd hstep hwb
   have hwdH:Hid _:=hwd
   clear hcs hs hwd hsr
   go_wp2_with fail
   refine cM (show Calls _ _ _ _ _ from hwdH.out) ?_
   rintro e w1 ⟨rfl,hg1⟩
   clear hwdH c0 c1 c2 c3 c4 c5 c6 m0 m1 m2 m3 m4 m5 m6
   have hgw:Hid (Gr wr w1):=hg0.trans hg1
   clear hg0 hg1
   by_cases hn0:n=0
   ·have e1:Hid (bM q=1∧iC q=[]):=by
     have e:bM q=1:=by rw[herr.out,hstep.out,if_pos hn0];rfl
     exact ⟨e,by unfold iC;rw[e,if_neg (by decide)]⟩
    have hbF:Hid (Below w.heap.size w w1):=hov.out.2.trans (hgw.out.below.mono hov.out.2.size)
    subst hn0
    go_wp2
    go_ret2
    exact ⟨none,0,by rw[e1.out.1,e1.out.2];rfl,by rw[e1.out.2];exact oL rfl,fun _=>rfl,hbF.out⟩
   ·have hnb:(n==0)=false:=beq_eq_false_iff_ne.2 hn0
    have hoX:Hid (dY (w1.alloc (H #[V I n] 3)) w.heap.size (J G ah.length gc) ah∧ay (w1.alloc (H #[V I n] 3)) (some ⟨w1.heap.size,0,none⟩) [n]∧ah.length+1≤maxLen∧(ah.length+1)*8≤140737488355328∧Below w.heap.size w (w1.alloc (H #[V I n] 3))):=by
     have h1:=hfo.out.1
     have hg2:Gr wr (w1.alloc (H #[V I n] 3)):=hgw.out.alloc _
     exact ⟨hov.out.1.gr hg2,ie rfl n 3,by unfold maxLen;omega,by omega,hov.out.2.trans (hg2.below.mono hov.out.2.size)⟩
    have hnext:Hid ((ah++[n]).length=j+1∧(∀x∈ah++[n],0≤x∧x≤8)∧dm q []=dm (q.drop (j+1)) (ah++[n])):=by
     refine ⟨by simp[hfo.out.1],fun x hx=> ?_,by rw[hstep.out,if_neg hn0]⟩
     rcases List.mem_append.1 hx with k|k
     ·exact hfo.out.2.1 x k
     ·rw[List.mem_singleton.1 k];exact hwb
    clear hn0 hov hrow hG hlt4
    go_wp2_with (at_builtin;refine aT _ rfl (.tmp 25) (.tmp 27) rfl w.heap.size (J G ah.length gc) ah [n] (some ⟨w1.heap.size,0,none⟩) 1 rfl rfl hoX.out.1 hoX.out.2.1 (fun h=>by cases h) hoX.out.2.2.1 hoX.out.2.2.2.1 hoX.out.2.2.2.2.size ?_;intro v7 w7 hown7 hg7)
    have hfin7:Hid (dY w7 w.heap.size v7 (ah++[n])∧Below w.heap.size w w7):=⟨hown7,hoX.out.2.2.2.2.trans (ag.grown_below hoX.out.1 hg7 hoX.out.2.2.2.2.size)⟩
    clear hown7 hg7 hoX
    go_roundw
    case rel=>exact ⟨j+1,ah++[n],by omega,by go_num,hnext,hfin7⟩
    case measure=>simp[intOf];omega
  ·have hltz:¬(j:Int)<(q.length:Int):=by omega
   have hfin:Hid (bM q=0∧iC q=ah):=by
    have h1:=hfo.out.2.2
    rw[List.drop_eq_nil_of_le (by omega)] at h1
    have e:bM q=0:=by rw[herr.out,h1];rfl
    exact ⟨e,by unfold iC;rw[if_pos e,h1];rfl⟩
   obtain ⟨G,gc,rfl,hG,hrow,hlt4⟩:=ag.row bU hov.out.1
   have hfin2:Hid (ay wr G ah∧(G=none→gc=0)∧Below w.heap.size w wr):=⟨hrow,hG,hov.out.2⟩
   clear hrow hG hlt4 hov
   go_wp2
   go_ret2
   exact ⟨G,gc,by rw[hfin.out.1,hfin.out.2];rfl,by rw[hfin.out.2];exact hfin2.out.1,hfin2.out.2.1,hfin2.out.2.2⟩

end Go.Proofs.YtfedpiamlpflhaaGreatDoor

namespace Go.Proofs.YtfedpiamlpflhaaGreatDoor

def toB (n op v:Int):Bool:=if op=1 then decide (n<v) else if op=2 then decide (n=v) else decide (v<n)
def atI (r:List Int) (c:Int):Int:=r.getD c.toNat 0
def dd (l:List Zit) (c o v:Int):List Zit:=l.filter fun x=>toB (atI x.1 c) o v
def dV (cols:List Int) (r:List Int):List Int:=cols.map fun c=>atI r c
def fK (l:List Zit) (cols:List Int):List Zit:=l.map fun x=>(dV cols x.1,x.2)
def ft (l:List Zit):List Zit:=(l.filter fun x=>decide (0<x.2)).map fun x=>(x.1,1)
theorem mq {a b:List Zit} (h:aP a b=0):av a=0∧av b=0∧av (aN a b)=0:=by
 unfold aP at h
 by_cases h1:av a=0
 ·rw[if_pos h1] at h
  by_cases h2:av b=0
  ·rw[if_pos h2] at h
   by_cases h3:cZ (a++b)=0
   ·rw[if_pos h3] at h
    by_cases h4:400<(cN (a++b)).length
    ·rw[if_pos h4] at h;cases h
    ·refine ⟨h1,h2,?_⟩
     have e:aN a b=cN (a++b):=by
      unfold aN aP
      rw[if_pos h1,if_pos h2,if_pos h3,if_neg h4,if_pos rfl]
     rw[e]
     have T:=bi (a++b)
     refine (bw _).2 ⟨by omega,T.okZ (nA h3) (fun x hx=> ?_),T.rise⟩
     rcases List.mem_append.1 hx with k|k
     ·exact (bI (((bw a).1 h1).2.1 x k)).1
     ·exact (bI (((bw b).1 h2).2.1 x k)).1
   ·rw[if_neg h3] at h;exact absurd h h3
  ·rw[if_neg h2] at h;exact absurd h h2
 ·rw[if_neg h1] at h;exact absurd h h1
end Go.Proofs.YtfedpiamlpflhaaGreatDoor

namespace Go.Proofs.YtfedpiamlpflhaaGreatDoor
open Go.RowKit Go.Sort

theorem kH (q:List Stp) (A:Option Addr) (ca:Nat) (w:World) (hl:q.length≤maxLen) (hq:Stps w A q) :
  Calls S 25 #[J A q.length ca] w fun e w'=>e= O (V I (bM q))∧Below w.heap.size w w':=by
 have hwH:Hid _:=rg q A ca w hl hq
 clear hl hq
 go_enter Tryz.func25,Tryz.ntmps25
 go_wp2_with fail
 refine cM (show Calls _ _ _ _ _ from hwH.out) ?_
 rintro e w1 ⟨C,c,rfl,-,-,hb⟩
 clear hwH
 go_wp2
 go_ret
 exact ⟨rfl,hb⟩

end Go.Proofs.YtfedpiamlpflhaaGreatDoor

namespace Go.Proofs.YtfedpiamlpflhaaGreatDoor

theorem bz (n k:Int):belowB n k=inB n 0 (k-1):=by
 unfold belowB inB
 rw[Bool.eq_iff_iff]
 simp only[Bool.and_eq_true,decide_eq_true_eq]
 omega
theorem zg (n:Int):opB n=inB n 1 3:=by
 unfold opB inB
 rw[Bool.eq_iff_iff]
 simp only[Bool.and_eq_true,decide_eq_true_eq]
 omega
theorem xQ {s:Stp} (h:s.k=1):aM s=(decide (s.b=0) && decide (s.c=0) && decide (s.o=0) && decide (s.v=0) && s.l.isEmpty):=by
 have t:au 1 65=true∧au 1 66=false∧au 1 67=false∧au 1 79=false∧au 1 86=false∧au 1 76=false:=by decide
 obtain ⟨t1,t2,t3,t4,t5,t6⟩:=t
 simp[aM,bH,h,List.range_succ,me,Stp.at,t1,t2,t3,t4,t5,t6,Bool.and_assoc]
theorem xR {s:Stp} (h:s.k=2):aM s=(decide (s.b=0) && s.l.isEmpty):=by
 have t:au 2 65=true∧au 2 66=false∧au 2 67=true∧au 2 79=true∧au 2 86=true∧au 2 76=false:=by decide
 obtain ⟨t1,t2,t3,t4,t5,t6⟩:=t
 simp[aM,bH,h,List.range_succ,me,Stp.at,t1,t2,t3,t4,t5,t6]
theorem xS {s:Stp} (h:s.k=3):aM s=(decide (s.b=0) && decide (s.c=0) && decide (s.o=0) && decide (s.v=0)):=by
 have t:au 3 65=true∧au 3 66=false∧au 3 67=false∧au 3 79=false∧au 3 86=false∧au 3 76=true:=by decide
 obtain ⟨t1,t2,t3,t4,t5,t6⟩:=t
 simp[aM,bH,h,List.range_succ,me,Stp.at,t1,t2,t3,t4,t5,t6,Bool.and_assoc]
theorem xT {s:Stp} (h:s.k=4):aM s=(decide (s.o=0) && s.l.isEmpty):=by
 have t:au 4 65=true∧au 4 66=true∧au 4 67=true∧au 4 79=false∧au 4 86=true∧au 4 76=false:=by decide
 obtain ⟨t1,t2,t3,t4,t5,t6⟩:=t
 simp[aM,bH,h,List.range_succ,me,Stp.at,t1,t2,t3,t4,t5,t6]
theorem xU {s:Stp} (h:s.k=5):aM s=(decide (s.c=0) && decide (s.o=0) && decide (s.v=0) && s.l.isEmpty):=by
 have t:au 5 65=true∧au 5 66=true∧au 5 67=false∧au 5 79=false∧au 5 86=false∧au 5 76=false:=by decide
 obtain ⟨t1,t2,t3,t4,t5,t6⟩:=t
 simp[aM,bH,h,List.range_succ,me,Stp.at,t1,t2,t3,t4,t5,t6,Bool.and_assoc]
theorem xV {s:Stp} (h:s.k=6):aM s=(decide (s.c=0) && decide (s.o=0) && decide (s.v=0) && s.l.isEmpty):=by
 have t:au 6 65=true∧au 6 66=true∧au 6 67=false∧au 6 79=false∧au 6 86=false∧au 6 76=false:=by decide
 obtain ⟨t1,t2,t3,t4,t5,t6⟩:=t
 simp[aM,bH,h,List.range_succ,me,Stp.at,t1,t2,t3,t4,t5,t6,Bool.and_assoc]
theorem xW {s:Stp} (h:s.k=7):aM s=(decide (s.b=0) && decide (s.c=0) && decide (s.o=0) && decide (s.v=0) && s.l.isEmpty):=by
 have t:au 7 65=true∧au 7 66=false∧au 7 67=false∧au 7 79=false∧au 7 86=false∧au 7 76=false:=by decide
 obtain ⟨t1,t2,t3,t4,t5,t6⟩:=t
 simp[aM,bH,h,List.range_succ,me,Stp.at,t1,t2,t3,t4,t5,t6,Bool.and_assoc]
theorem xX {s:Stp} (h:s.k=8):aM s=(decide (s.b=0) && decide (s.o=0) && decide (s.v=0) && s.l.isEmpty):=by
 have t:au 8 65=true∧au 8 66=false∧au 8 67=true∧au 8 79=false∧au 8 86=false∧au 8 76=false:=by decide
 obtain ⟨t1,t2,t3,t4,t5,t6⟩:=t
 simp[aM,bH,h,List.range_succ,me,Stp.at,t1,t2,t3,t4,t5,t6,Bool.and_assoc]
theorem xY {s:Stp} (h:s.k=9):aM s=(decide (s.b=0) && decide (s.o=0) && s.l.isEmpty):=by
 have t:au 9 65=true∧au 9 66=false∧au 9 67=true∧au 9 79=false∧au 9 86=true∧au 9 76=false:=by decide
 obtain ⟨t1,t2,t3,t4,t5,t6⟩:=t
 simp[aM,bH,h,List.range_succ,me,Stp.at,t1,t2,t3,t4,t5,t6,Bool.and_assoc]
theorem yW (x y:Bool) (r:Int):(if x=true then (if y=true then r else 0) else 0)=if (x && y)=true then r else 0:=by cases x<;>cases y<;>simp
theorem wV (x y z:Bool) (r:Int):(if x=true then (if y=true then (if z=true then r else 0) else 0) else 0)=if (x && y && z)=true then r else 0:=by cases x<;>cases y<;>cases z<;>simp
theorem yp (x y z u:Bool) (r:Int):(if x=true then (if y=true then (if z=true then (if u=true then r else 0) else 0) else 0) else 0)=if (x && y && z && u)=true then r else 0:=by cases x<;>cases y<;>cases z<;>cases u<;>simp
theorem xP {s:Stp} (h:¬(1≤s.k∧s.k≤9)) {ah:List Int}:aI s ah=0:=by
 have h1:¬s.k=1:=by omega
 unfold aI
 rw[if_neg h1,if_neg (by omega:¬(s.k=4∨s.k=5∨s.k=6))]
 unfold cE
 rw[if_neg (by omega:¬s.k=2),if_neg (by omega:¬s.k=3),if_neg (by omega:¬s.k=7),if_neg (by omega:¬s.k=8),if_neg (by omega:¬s.k=9)]
 simp
theorem zG {s:Stp} (h:s.k=1) (ah:List Int):aI s ah=if (inB s.a 0 1 && decide (s.b=0) && decide (s.c=0) && decide (s.o=0) && decide (s.v=0) && s.l.isEmpty)=true then 4 else 0:=by
 unfold aI
 rw[xQ h,if_pos h]
 rw[bz,show (2:Int)-1=1 from rfl,yW,show ((decide (s.b=0) && decide (s.c=0) && decide (s.o=0) && decide (s.v=0) && s.l.isEmpty) && inB s.a 0 1)=(inB s.a 0 1 && decide (s.b=0) && decide (s.c=0) && decide (s.o=0) && decide (s.v=0) && s.l.isEmpty) from by ac_rfl]
theorem zH {s:Stp} (h:s.k=2) (ah:List Int):aI s ah=if (inB s.a 0 ((ah.length:Int)-1) && decide (s.b=0) && s.l.isEmpty && inB s.o 1 3 && inB s.v (-1073741824) 1073741824 && inB s.c 0 ((ah.getD s.a.toNat 0)-1))=true then (ah.getD s.a.toNat 0) else 0:=by
 unfold aI
 rw[xR h,if_neg (by omega:¬s.k=1),if_neg (by omega:¬(s.k=4∨s.k=5∨s.k=6))]
 unfold cE
 rw[if_pos h]
 rw[bz,bz,zg,show lp s.v=inB s.v (-1073741824) 1073741824 from rfl,wV,show ((decide (s.b=0) && s.l.isEmpty) && inB s.a 0 ((ah.length:Int)-1) && (inB s.c 0 ((ah.getD s.a.toNat 0)-1) && inB s.o 1 3 && inB s.v (-1073741824) 1073741824))=(inB s.a 0 ((ah.length:Int)-1) && decide (s.b=0) && s.l.isEmpty && inB s.o 1 3 && inB s.v (-1073741824) 1073741824 && inB s.c 0 ((ah.getD s.a.toNat 0)-1)) from by ac_rfl]
theorem zI {s:Stp} (h:s.k=3) (ah:List Int):aI s ah=if (inB s.a 0 ((ah.length:Int)-1) && decide (s.b=0) && inB (s.l.length:Int) 1 8 && s.l.all (fun n=>inB n 0 ((ah.getD s.a.toNat 0)-1)) && decide (s.c=0) && decide (s.o=0) && decide (s.v=0))=true then (s.l.length:Int) else 0:=by
 unfold aI
 rw[xS h,if_neg (by omega:¬s.k=1),if_neg (by omega:¬(s.k=4∨s.k=5∨s.k=6))]
 unfold cE
 rw[if_neg (by omega:¬s.k=2),if_pos h]
 rw[bz,show (fun n=>belowB n (ah.getD s.a.toNat 0))=(fun n=>inB n 0 (ah.getD s.a.toNat 0-1)) from funext fun n=>bz n _]
 rw[show (if (decide (s.l.length≤8) && s.l.all (fun n=>inB n 0 (ah.getD s.a.toNat 0-1)))=true then (s.l.length:Int) else 0)=(if (inB (s.l.length:Int) 1 8 && s.l.all (fun n=>inB n 0 (ah.getD s.a.toNat 0-1)))=true then (s.l.length:Int) else 0) from ?_]
 ·rw[wV,show ((decide (s.b=0) && decide (s.c=0) && decide (s.o=0) && decide (s.v=0)) && inB s.a 0 ((ah.length:Int)-1) && (inB (s.l.length:Int) 1 8 && s.l.all (fun n=>inB n 0 ((ah.getD s.a.toNat 0)-1))))=(inB s.a 0 ((ah.length:Int)-1) && decide (s.b=0) && inB (s.l.length:Int) 1 8 && s.l.all (fun n=>inB n 0 ((ah.getD s.a.toNat 0)-1)) && decide (s.c=0) && decide (s.o=0) && decide (s.v=0)) from by ac_rfl]
 ·by_cases hl:s.l.length=0
  ·rw[hl];simp
  ·rw[show decide (s.l.length≤8)=inB (s.l.length:Int) 1 8 from ?_]
   unfold inB
   rw[Bool.eq_iff_iff]
   simp only[Bool.and_eq_true,decide_eq_true_eq]
   omega
theorem zJ {s:Stp} (h:s.k=4) (ah:List Int):aI s ah=if (inB s.a 0 ((ah.length:Int)-1) && inB s.b 0 ((ah.length:Int)-1) && s.l.isEmpty && decide ((ah.getD s.a.toNat 0)+(ah.getD s.b.toNat 0)≤8) && inB s.v 0 ((ah.getD s.b.toNat 0)-1) && inB s.c 0 ((ah.getD s.a.toNat 0)-1) && decide (s.o=0))=true then (ah.getD s.a.toNat 0)+(ah.getD s.b.toNat 0) else 0:=by
 unfold aI
 rw[xT h,if_neg (by omega:¬s.k=1),if_pos (by omega:s.k=4∨s.k=5∨s.k=6)]
 unfold dq
 rw[if_pos h]
 rw[bz,bz,bz,bz,yp,show ((decide (s.o=0) && s.l.isEmpty) && inB s.a 0 ((ah.length:Int)-1) && inB s.b 0 ((ah.length:Int)-1) && (inB s.c 0 ((ah.getD s.a.toNat 0)-1) && inB s.v 0 ((ah.getD s.b.toNat 0)-1) && decide ((ah.getD s.a.toNat 0)+(ah.getD s.b.toNat 0)≤8)))=(inB s.a 0 ((ah.length:Int)-1) && inB s.b 0 ((ah.length:Int)-1) && s.l.isEmpty && decide ((ah.getD s.a.toNat 0)+(ah.getD s.b.toNat 0)≤8) && inB s.v 0 ((ah.getD s.b.toNat 0)-1) && inB s.c 0 ((ah.getD s.a.toNat 0)-1) && decide (s.o=0)) from by ac_rfl]
theorem zK {s:Stp} (h:s.k=5) (ah:List Int):aI s ah=if (inB s.a 0 ((ah.length:Int)-1) && inB s.b 0 ((ah.length:Int)-1) && s.l.isEmpty && decide ((ah.getD s.a.toNat 0)=(ah.getD s.b.toNat 0)) && decide (s.c=0) && decide (s.o=0) && decide (s.v=0))=true then (ah.getD s.a.toNat 0) else 0:=by
 unfold aI
 rw[xU h,if_neg (by omega:¬s.k=1),if_pos (by omega:s.k=4∨s.k=5∨s.k=6)]
 unfold dq
 rw[if_neg (by omega:¬s.k=4),if_pos h]
 rw[show (if (ah.getD s.a.toNat 0)=(ah.getD s.b.toNat 0) then (ah.getD s.a.toNat 0) else 0)=(if decide ((ah.getD s.a.toNat 0)=(ah.getD s.b.toNat 0))=true then (ah.getD s.a.toNat 0) else 0) from by simp only[decide_eq_true_eq],bz,bz,yp,show ((decide (s.c=0) && decide (s.o=0) && decide (s.v=0) && s.l.isEmpty) && inB s.a 0 ((ah.length:Int)-1) && inB s.b 0 ((ah.length:Int)-1) && decide ((ah.getD s.a.toNat 0)=(ah.getD s.b.toNat 0)))=(inB s.a 0 ((ah.length:Int)-1) && inB s.b 0 ((ah.length:Int)-1) && s.l.isEmpty && decide ((ah.getD s.a.toNat 0)=(ah.getD s.b.toNat 0)) && decide (s.c=0) && decide (s.o=0) && decide (s.v=0)) from by ac_rfl]
theorem zL {s:Stp} (h:s.k=6) (ah:List Int):aI s ah=if (inB s.a 0 ((ah.length:Int)-1) && inB s.b 0 ((ah.length:Int)-1) && s.l.isEmpty && decide ((ah.getD s.a.toNat 0)=(ah.getD s.b.toNat 0)) && decide (s.c=0) && decide (s.o=0) && decide (s.v=0))=true then (ah.getD s.a.toNat 0) else 0:=by
 unfold aI
 rw[xV h,if_neg (by omega:¬s.k=1),if_pos (by omega:s.k=4∨s.k=5∨s.k=6)]
 unfold dq
 rw[if_neg (by omega:¬s.k=4),if_neg (by omega:¬s.k=5),if_pos h]
 rw[show (if (ah.getD s.a.toNat 0)=(ah.getD s.b.toNat 0) then (ah.getD s.a.toNat 0) else 0)=(if decide ((ah.getD s.a.toNat 0)=(ah.getD s.b.toNat 0))=true then (ah.getD s.a.toNat 0) else 0) from by simp only[decide_eq_true_eq],bz,bz,yp,show ((decide (s.c=0) && decide (s.o=0) && decide (s.v=0) && s.l.isEmpty) && inB s.a 0 ((ah.length:Int)-1) && inB s.b 0 ((ah.length:Int)-1) && decide ((ah.getD s.a.toNat 0)=(ah.getD s.b.toNat 0)))=(inB s.a 0 ((ah.length:Int)-1) && inB s.b 0 ((ah.length:Int)-1) && s.l.isEmpty && decide ((ah.getD s.a.toNat 0)=(ah.getD s.b.toNat 0)) && decide (s.c=0) && decide (s.o=0) && decide (s.v=0)) from by ac_rfl]
theorem zM {s:Stp} (h:s.k=7) (ah:List Int):aI s ah=if (inB s.a 0 ((ah.length:Int)-1) && decide (s.b=0) && s.l.isEmpty && decide (s.c=0) && decide (s.o=0) && decide (s.v=0))=true then (ah.getD s.a.toNat 0) else 0:=by
 unfold aI
 rw[xW h,if_neg (by omega:¬s.k=1),if_neg (by omega:¬(s.k=4∨s.k=5∨s.k=6))]
 unfold cE
 rw[if_neg (by omega:¬s.k=2),if_neg (by omega:¬s.k=3),if_pos h]
 rw[bz,yW,show ((decide (s.b=0) && decide (s.c=0) && decide (s.o=0) && decide (s.v=0) && s.l.isEmpty) && inB s.a 0 ((ah.length:Int)-1))=(inB s.a 0 ((ah.length:Int)-1) && decide (s.b=0) && s.l.isEmpty && decide (s.c=0) && decide (s.o=0) && decide (s.v=0)) from by ac_rfl]
theorem zN {s:Stp} (h:s.k=8) (ah:List Int):aI s ah=if (inB s.a 0 ((ah.length:Int)-1) && decide (s.b=0) && s.l.isEmpty && inB s.c 0 ((ah.getD s.a.toNat 0)-1) && decide (s.o=0) && decide (s.v=0))=true then 2 else 0:=by
 unfold aI
 rw[xX h,if_neg (by omega:¬s.k=1),if_neg (by omega:¬(s.k=4∨s.k=5∨s.k=6))]
 unfold cE
 rw[if_neg (by omega:¬s.k=2),if_neg (by omega:¬s.k=3),if_neg (by omega:¬s.k=7),if_pos h]
 rw[bz,bz,wV,show ((decide (s.b=0) && decide (s.o=0) && decide (s.v=0) && s.l.isEmpty) && inB s.a 0 ((ah.length:Int)-1) && inB s.c 0 ((ah.getD s.a.toNat 0)-1))=(inB s.a 0 ((ah.length:Int)-1) && decide (s.b=0) && s.l.isEmpty && inB s.c 0 ((ah.getD s.a.toNat 0)-1) && decide (s.o=0) && decide (s.v=0)) from by ac_rfl]
theorem zO {s:Stp} (h:s.k=9) (ah:List Int):aI s ah=if (inB s.a 0 ((ah.length:Int)-1) && decide (s.b=0) && s.l.isEmpty && inB s.v 0 ((ah.getD s.a.toNat 0)-1) && inB s.c 0 ((ah.getD s.a.toNat 0)-1) && decide (s.o=0))=true then 2 else 0:=by
 unfold aI
 rw[xY h,if_neg (by omega:¬s.k=1),if_neg (by omega:¬(s.k=4∨s.k=5∨s.k=6))]
 unfold cE
 rw[if_neg (by omega:¬s.k=2),if_neg (by omega:¬s.k=3),if_neg (by omega:¬s.k=7),if_neg (by omega:¬s.k=8),if_pos h]
 rw[bz,bz,bz,wV,show ((decide (s.b=0) && decide (s.o=0) && s.l.isEmpty) && inB s.a 0 ((ah.length:Int)-1) && (inB s.c 0 ((ah.getD s.a.toNat 0)-1) && inB s.v 0 ((ah.getD s.a.toNat 0)-1)))=(inB s.a 0 ((ah.length:Int)-1) && decide (s.b=0) && s.l.isEmpty && inB s.v 0 ((ah.getD s.a.toNat 0)-1) && inB s.c 0 ((ah.getD s.a.toNat 0)-1) && decide (s.o=0)) from by ac_rfl]

end Go.Proofs.YtfedpiamlpflhaaGreatDoor
