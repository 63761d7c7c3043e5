/-
  Cells and tables: the plain notions that the contracts of package table speak of.
  The small functions of package dot (isNode, right, order) and cmp.Compare at int: each returns what its plain function says, in every world, laying blocks of its own alone.
  The small functions of package table: isKey, isCell, order.
-/
import Derived.Test.YtkadjjmkokhldaaGreatM02
import Derived.Test.YtkadjjmkokhldaaGreatM01
namespace Go.Proofs.YtkadjjmkokhldaaGreat
open Go.RowKit Go.Sort

/-- A cell: its dot, its key, its column, its value. -/
abbrev Cel:=(Int×Int)×Int×Int×Int
/-- Its five values. -/
def encC (x:Cel):List Value:=[.int .i64 x.1.1,.int .i64 x.1.2,.int .i64 x.2.1,.int .i64 x.2.2.1,.int .i64 x.2.2.2]
theorem encC_len (x:Cel):(encC x).length=5:=rfl
theorem encC_one (x:Cel):∀u∈encC x,u.oneCell'=true:=by
 intro u hu
 simp[encC] at hu
 rcases hu with rfl|rfl|rfl|rfl|rfl<;>rfl

/-- A table: a context and cells. -/
structure Tab where
 c:Ctx
 e:List Cel

/-- The slice at A reads as these cells. -/
abbrev RowC (w:World) (A:Option Addr) (l:List Cel):Prop:=RowG encC 5 w A l

theorem RowC.get {w:World} {A:Option Addr} {l:List Cel} (h:RowC w A l) {k:Nat} (hk:k<l.length):∃b off,A=some ⟨b,off,none⟩∧b<w.heap.size∧∀j (h:j<l.length),
  w.cell? ⟨b,off+j*5,none⟩=some (.int .i64 l[j].1.1)∧w.cell? ⟨b,off+j*5+1,none⟩=some (.int .i64 l[j].1.2)∧w.cell? ⟨b,off+j*5+2,none⟩=some (.int .i64 l[j].2.1)∧w.cell? ⟨b,off+j*5+3,none⟩=some (.int .i64 l[j].2.2.1)∧w.cell? ⟨b,off+j*5+4,none⟩=some (.int .i64 l[j].2.2.2):=by
 obtain ⟨b,off,hA,hb,hc⟩:=h.at hk
 exact ⟨b,off,hA,hb,fun j hj=>⟨hc j hj 0 (by omega),hc j hj 1 (by omega),hc j hj 2 (by omega),hc j hj 3 (by omega),hc j hj 4 (by omega)⟩⟩

/-- Key, column and value in range. -/
def okPlace (k c v:Int):Bool:=inB k 0 49 && inB c 0 2 && inB v (-1000) 1000
/-- Is the cell at k one of the context's, in range, and behind the one ahead of it? -/
def okCel (t:Tab) (k:Nat):Bool :=
 hasB t.c (t.e.getD k ((0,0),0,0,0)).1 && okPlace (t.e.getD k ((0,0),0,0,0)).2.1 (t.e.getD k ((0,0),0,0,0)).2.2.1 (t.e.getD k ((0,0),0,0,0)).2.2.2 && (k==0 || befB (t.e.getD (k-1) ((0,0),0,0,0)).1 (t.e.getD k ((0,0),0,0,0)).1)

/-- What is wrong with a table (an error's number). -/
def errT (t:Tab):Int:=if errC t.c≠0 then errC t.c else if 400<t.e.length then 2 else if (List.range t.e.length).all (okCel t) then 0 else 5

theorem errT_ctx {t:Tab} (h:errC t.c≠0):errT t=errC t.c:=by simp[errT,h]
theorem errT_large {t:Tab} (h:errC t.c=0) (hl:400<t.e.length):errT t=2:=by simp[errT,h,hl]
theorem errT_form {t:Tab} (h:errC t.c=0) (hl:t.e.length≤400) {k:Nat} (hk:k<t.e.length) (hb:okCel t k=false):errT t=5:=by
 have h1:¬ 400<t.e.length:=by omega
 have h2:(List.range t.e.length).all (okCel t)=false:=by
  rw[List.all_eq_false]
  exact ⟨k,by simpa using hk,by simp[hb]⟩
 simp[errT,h,h1,h2]
theorem errT_ok {t:Tab} (h:errC t.c=0) (hl:t.e.length≤400) (ha:∀k,k<t.e.length→okCel t k=true):errT t=0:=by
 have h1:¬ 400<t.e.length:=by omega
 have h2:(List.range t.e.length).all (okCel t)=true:=by
  rw[List.all_eq_true]
  intro k hk
  exact ha k (by simpa using hk)
 simp[errT,h,h1,h2]
theorem errT_parts {t:Tab} (h:errT t=0):errC t.c=0∧t.e.length≤400∧∀k,k<t.e.length→okCel t k=true:=by
 unfold errT at h
 by_cases h1:errC t.c=0
 ·by_cases h2:400<t.e.length
  ·simp[h1,h2] at h
  ·by_cases h3:(List.range t.e.length).all (okCel t)=true
   ·refine ⟨h1,by omega,fun k hk=> ?_⟩
    rw[List.all_eq_true] at h3
    exact h3 k (by simpa using hk)
   ·simp[h1,h2,h3] at h
 ·simp[h1] at h

theorem okCel_zero {t:Tab} (h:0<t.e.length) {x:Cel} (hx:t.e[0]=x):okCel t 0=(hasB t.c x.1 && okPlace x.2.1 x.2.2.1 x.2.2.2):=by
 subst hx
 simp[okCel,h]
theorem okCel_succ {t:Tab} {m:Nat} (h:m+1<t.e.length) {x y:Cel} (hx:t.e[m+1]=x) (hy:t.e[m]=y):okCel t (m+1)=(hasB t.c x.1 && okPlace x.2.1 x.2.2.1 x.2.2.2 && befB y.1 x.1):=by
 subst hx hy
 have h':m<t.e.length:=by omega
 simp[okCel,h,h']

/-- Block B holds the table t, whose cloud is the slice at A, whose cells are the slice at D. -/
structure TabAt (w:World) (B:Nat) (t:Tab) (A:Option Addr) (ca:Nat) (D:Option Addr) (cd:Nat):Prop where
 k0:w.cell? ⟨B,0,none⟩=some (.int .i64 t.c.c0)
 k1:w.cell? ⟨B,1,none⟩=some (.int .i64 t.c.c1)
 k2:w.cell? ⟨B,2,none⟩=some (.int .i64 t.c.c2)
 k3:w.cell? ⟨B,3,none⟩=some (.int .i64 t.c.c3)
 k4:w.cell? ⟨B,4,none⟩=some (.slice A t.c.l.length ca)
 k5:w.cell? ⟨B,5,none⟩=some (.slice D t.e.length cd)
 lt:B<w.heap.size
 row:Row w A t.c.l
 rowC:RowC w D t.e

theorem TabAt.belowB {w w':World} {B N:Nat} {t:Tab} {A:Option Addr} {ca:Nat} {D:Option Addr} {cd:Nat} (h:TabAt w B t A ca D cd) (k:Below N w w') (hB:B<N) (hA:∀a,A=some a→t.c.l≠[]→a.block<N) (hD:∀a,D=some a→t.e≠[]→a.block<N):TabAt w' B t A ca D cd :=
 ⟨(k.cell (p:=⟨B,0,none⟩) hB).trans h.k0,(k.cell (p:=⟨B,1,none⟩) hB).trans h.k1,(k.cell (p:=⟨B,2,none⟩) hB).trans h.k2,(k.cell (p:=⟨B,3,none⟩) hB).trans h.k3,(k.cell (p:=⟨B,4,none⟩) hB).trans h.k4,(k.cell (p:=⟨B,5,none⟩) hB).trans h.k5,Nat.lt_of_lt_of_le h.lt k.size,h.row.belowB hA k,h.rowC.belowB hD k⟩
theorem TabAt.below {w w':World} {B:Nat} {t:Tab} {A:Option Addr} {ca:Nat} {D:Option Addr} {cd:Nat} (h:TabAt w B t A ca D cd) (k:Below w.heap.size w w'):TabAt w' B t A ca D cd:=h.belowB k h.lt h.row.lt h.rowC.lt
theorem TabAt.gr {w w':World} {B:Nat} {t:Tab} {A:Option Addr} {ca:Nat} {D:Option Addr} {cd:Nat} (h:TabAt w B t A ca D cd) (k:Gr w w'):TabAt w' B t A ca D cd:=h.below k.below
theorem TabAt.new {w:World} {t:Tab} {A:Option Addr} {ca:Nat} {D:Option Addr} {cd:Nat} (T:TypeId) (hr:Row w A t.c.l) (hd:RowC w D t.e) {B:Nat} (hB:B=w.heap.size):TabAt (w.alloc (.cells #[.int .i64 t.c.c0,.int .i64 t.c.c1,.int .i64 t.c.c2,.int .i64 t.c.c3,.slice A t.c.l.length ca,.slice D t.e.length cd] T)) B t A ca D cd:=by
 subst hB
 have hg:Gr w (w.alloc (.cells #[.int .i64 t.c.c0,.int .i64 t.c.c1,.int .i64 t.c.c2,.int .i64 t.c.c3,.slice A t.c.l.length ca,.slice D t.e.length cd] T)):=(Gr.refl w).alloc _
 exact ⟨box1 (Gr.refl _) rfl,box1 (Gr.refl _) rfl,box1 (Gr.refl _) rfl,box1 (Gr.refl _) rfl,box1 (Gr.refl _) rfl,box1 (Gr.refl _) rfl,by simp,hr.gr hg,hd.gr hg⟩

/-- Block B holds the cell x. -/
structure CelAt (w:World) (B:Nat) (x:Cel):Prop where
 k0:w.cell? ⟨B,0,none⟩=some (.int .i64 x.1.1)
 k1:w.cell? ⟨B,1,none⟩=some (.int .i64 x.1.2)
 k2:w.cell? ⟨B,2,none⟩=some (.int .i64 x.2.1)
 k3:w.cell? ⟨B,3,none⟩=some (.int .i64 x.2.2.1)
 k4:w.cell? ⟨B,4,none⟩=some (.int .i64 x.2.2.2)
 lt:B<w.heap.size
theorem CelAt.belowB {w w':World} {B N:Nat} {x:Cel} (h:CelAt w B x) (k:Below N w w') (hB:B<N):CelAt w' B x :=
 ⟨(k.cell (p:=⟨B,0,none⟩) hB).trans h.k0,(k.cell (p:=⟨B,1,none⟩) hB).trans h.k1,(k.cell (p:=⟨B,2,none⟩) hB).trans h.k2,(k.cell (p:=⟨B,3,none⟩) hB).trans h.k3,(k.cell (p:=⟨B,4,none⟩) hB).trans h.k4,Nat.lt_of_lt_of_le h.lt k.size⟩
theorem CelAt.below {w w':World} {B:Nat} {x:Cel} (h:CelAt w B x) (k:Below w.heap.size w w'):CelAt w' B x:=h.belowB k h.lt
theorem CelAt.gr {w w':World} {B:Nat} {x:Cel} (h:CelAt w B x) (k:Gr w w'):CelAt w' B x:=h.below k.below
theorem CelAt.new {w:World} (x:Cel) (T:TypeId) {B:Nat} (hB:B=w.heap.size):CelAt (w.alloc (.cells #[.int .i64 x.1.1,.int .i64 x.1.2,.int .i64 x.2.1,.int .i64 x.2.2.1,.int .i64 x.2.2.2] T)) B x:=by
 subst hB
 exact ⟨box1 (Gr.refl _) rfl,box1 (Gr.refl _) rfl,box1 (Gr.refl _) rfl,box1 (Gr.refl _) rfl,box1 (Gr.refl _) rfl,by simp⟩

end Go.Proofs.YtkadjjmkokhldaaGreat

namespace Go.Proofs.YtkadjjmkokhldaaGreat
open Go.RowKit Go.Sort

set_option maxHeartbeats 400000 in
theorem isNode_any (n:Int) (w:World) :
  Calls Tryz.prog 76 #[.int .i64 n] w fun e w'=>e= .returned (.bool (inB n 0 3))∧w'=w:=by
 by_cases h1:0≤n
 ·by_cases h2:n<4
  ·have e:inB n 0 3=true:=by simp[inB];omega
   rw[e];clear e
   go_enter Tryz.func76,Tryz.ntmps76
   go_wp2
   go_ret
   exact ⟨rfl,rfl⟩
  ·have e:inB n 0 3=false:=by simp[inB];omega
   rw[e];clear e
   go_enter Tryz.func76,Tryz.ntmps76
   go_wp2
   go_ret
   exact ⟨rfl,rfl⟩
 ·have e:inB n 0 3=false:=by simp[inB];omega
  rw[e];clear e
  go_enter Tryz.func76,Tryz.ntmps76
  go_wp2
  go_ret
  exact ⟨rfl,rfl⟩

set_option maxHeartbeats 400000 in
theorem dright_any (x:Int×Int) (w:World) :
  Calls Tryz.prog 77 #[.agg #[.int .i64 x.1,.int .i64 x.2]] w fun e w'=>e= .returned (.bool (rightB x))∧Gr w w':=by
 obtain ⟨a,b⟩:=x
 cases h1:inB a 0 3
 ·have e:rightB (a,b)=false:=by simp[rightB,h1]
  rw[e];clear e
  go_enter Tryz.func77,Tryz.ntmps77
  go_wp2_with (go_at_call 76;refine (isNode_any _ _).mono ?_;rintro e w' ⟨rfl,rfl⟩;rw[h1])
  go_ret
  exact ⟨rfl,(Gr.refl _).alloc _⟩
 ·by_cases h2:1≤b
  ·by_cases h3:b≤1099511627776
   ·have e:rightB (a,b)=true:=by unfold rightB;rw[h1];simp[inB,h2,h3]
    rw[e];clear e
    go_enter Tryz.func77,Tryz.ntmps77
    go_wp2_with (go_at_call 76;refine (isNode_any _ _).mono ?_;rintro e w' ⟨rfl,rfl⟩;rw[h1])
    go_ret
    exact ⟨rfl,(Gr.refl _).alloc _⟩
   ·have e:rightB (a,b)=false:=by unfold rightB;rw[h1];simp[inB,h3]
    rw[e];clear e
    have h3b:decide (b≤1099511627776)=false:=by simpa using h3
    clear h3
    go_enter Tryz.func77,Tryz.ntmps77
    go_wp2_with (go_at_call 76;refine (isNode_any _ _).mono ?_;rintro e w' ⟨rfl,rfl⟩;rw[h1])
    go_ret
    exact ⟨rfl,(Gr.refl _).alloc _⟩
  ·have e:rightB (a,b)=false:=by unfold rightB;rw[h1];simp[inB,h2]
   rw[e];clear e
   go_enter Tryz.func77,Tryz.ntmps77
   go_wp2_with (go_at_call 76;refine (isNode_any _ _).mono ?_;rintro e w' ⟨rfl,rfl⟩;rw[h1])
   go_ret
   exact ⟨rfl,(Gr.refl _).alloc _⟩

/-- -1, 0 or 1. -/
def cmpI (x y:Int):Int:=if x<y then -1 else if y<x then 1 else 0
/-- What 'order' answers. -/
def ordI (x y:Int×Int):Int:=if x.1<y.1 then -1 else if y.1<x.1 then 1 else cmpI x.2 y.2

set_option maxHeartbeats 400000 in
theorem cmp_any (x y:Int) (w:World) :
  Calls Tryz.prog 91 #[.int .i64 x,.int .i64 y] w fun e w'=>e= .returned (.int .i64 (cmpI x y))∧w'=w:=by
 by_cases h1:x<y
 ·have e:cmpI x y= -1:=by simp[cmpI,h1]
  rw[e];clear e
  go_enter Tryz.func91,Tryz.ntmps91
  go_wp2
  go_ret
  exact ⟨rfl,rfl⟩
 ·by_cases h2:y<x
  ·have e:cmpI x y=1:=by simp[cmpI,h1,h2]
   rw[e];clear e
   go_enter Tryz.func91,Tryz.ntmps91
   go_wp2
   go_ret
   exact ⟨rfl,rfl⟩
  ·have e:cmpI x y=0:=by simp[cmpI,h1,h2]
   rw[e];clear e
   go_enter Tryz.func91,Tryz.ntmps91
   go_wp2
   go_ret
   exact ⟨rfl,rfl⟩

set_option maxHeartbeats 400000 in
theorem order_any (x y:Int×Int) (w:World) :
  Calls Tryz.prog 79 #[.agg #[.int .i64 x.1,.int .i64 x.2],.agg #[.int .i64 y.1,.int .i64 y.2]] w fun e w'=>e= .returned (.int .i64 (ordI x y))∧Gr w w':=by
 obtain ⟨a,b⟩:=x
 obtain ⟨c,d⟩:=y
 by_cases h1:a<c
 ·have e:ordI (a,b) (c,d)= -1:=by simp[ordI,h1]
  have e1:cmpI a c= -1:=by simp[cmpI,h1]
  rw[e];clear e
  go_enter Tryz.func79,Tryz.ntmps79
  go_wp2_with (go_at_call 91;refine (cmp_any _ _ _).mono ?_;rintro e w' ⟨rfl,rfl⟩;rw[e1])
  go_ret
  exact ⟨rfl,((Gr.refl _).alloc _).alloc _⟩
 ·by_cases h2:c<a
  ·have e:ordI (a,b) (c,d)=1:=by simp[ordI,h1,h2]
   have e1:cmpI a c=1:=by simp[cmpI,h1,h2]
   rw[e];clear e
   go_enter Tryz.func79,Tryz.ntmps79
   go_wp2_with (go_at_call 91;refine (cmp_any _ _ _).mono ?_;rintro e w' ⟨rfl,rfl⟩;rw[e1])
   go_ret
   exact ⟨rfl,((Gr.refl _).alloc _).alloc _⟩
  ·have e:ordI (a,b) (c,d)=cmpI b d:=by simp[ordI,h1,h2]
   have e1:cmpI a c=0:=by simp[cmpI,h1,h2]
   rw[e];clear e
   go_enter Tryz.func79,Tryz.ntmps79
   go_wp2_with fail
   refine (cmp_any _ _ _).mono ?_
   rintro e w' ⟨rfl,rfl⟩
   rw[e1]
   go_wp2_with fail
   refine (cmp_any _ _ _).mono ?_
   rintro e w' ⟨rfl,rfl⟩
   go_wp2
   go_ret
   exact ⟨rfl,((Gr.refl _).alloc _).alloc _⟩

theorem dright_g {a b:Int} {r:Bool} (h:rightB (a,b)=r) (w:World):Calls Tryz.prog 77 #[.agg #[.int .i64 a,.int .i64 b]] w fun e w'=>e= .returned (.bool r)∧∃q os',w'=grow (w.drewN q) os':=by
 rw[←h];exact dright_any (a,b) w
theorem order_g {a b c d:Int} {r:Int} (h:ordI (a,b) (c,d)=r) (w:World):Calls Tryz.prog 79 #[.agg #[.int .i64 a,.int .i64 b],.agg #[.int .i64 c,.int .i64 d]] w fun e w'=>e= .returned (.int .i64 r)∧∃q os',w'=grow (w.drewN q) os':=by
 rw[←h];exact order_any (a,b) (c,d) w
theorem isNode_g {n:Int} {r:Bool} (h:inB n 0 3=r) (w:World) :
  Calls Tryz.prog 76 #[.int .i64 n] w fun e w'=>e= .returned (.bool r)∧w'=w:=by
 rw[←h];exact isNode_any n w
theorem ordI_bef {x y:Int×Int} (h:befB x y=true):ordI x y= -1:=by
 unfold befB at h
 unfold ordI cmpI
 by_cases h1:x.1<y.1
 ·simp[h1]
 ·simp[h1] at h
  have h2:¬y.1<x.1:=by omega
  simp[h.2,h1,h2]
theorem ordI_not {x y:Int×Int} (h:befB x y=false):0≤ordI x y:=by
 unfold befB at h
 simp at h
 unfold ordI cmpI
 have h1:¬x.1<y.1:=by omega
 by_cases h2:y.1<x.1
 ·simp[h1,h2]
 ·have h3:¬x.2<y.2:=by have:=h.2 (by omega);omega
  by_cases h4:y.2<x.2<;>simp[h1,h2,h3,h4]

end Go.Proofs.YtkadjjmkokhldaaGreat

namespace Go.Proofs.YtkadjjmkokhldaaGreat
open Go.RowKit Go.Sort

set_option maxHeartbeats 400000 in
theorem isKey_any (n:Int) (w:World) :
  Calls Tryz.prog 55 #[.int .i64 n] w fun e w'=>e= .returned (.bool (inB n 0 49))∧w'=w:=by
 by_cases h1:0≤n
 ·by_cases h2:n<50
  ·have e:inB n 0 49=true:=by simp[inB];omega
   rw[e];clear e
   go_enter Tryz.func55,Tryz.ntmps55
   go_wp2
   go_ret
   exact ⟨rfl,rfl⟩
  ·have e:inB n 0 49=false:=by simp[inB];omega
   rw[e];clear e
   go_enter Tryz.func55,Tryz.ntmps55
   go_wp2
   go_ret
   exact ⟨rfl,rfl⟩
 ·have e:inB n 0 49=false:=by simp[inB];omega
  rw[e];clear e
  go_enter Tryz.func55,Tryz.ntmps55
  go_wp2
  go_ret
  exact ⟨rfl,rfl⟩

set_option maxHeartbeats 1000000 in
theorem isCell_any (k c v:Int) (w:World) :
  Calls Tryz.prog 50 #[.int .i64 k,.int .i64 c,.int .i64 v] w fun e w'=>e= .returned (.bool (okPlace k c v))∧w'=w:=by
 cases h1:inB k 0 49
 ·have e:okPlace k c v=false:=by simp[okPlace,h1]
  rw[e];clear e
  go_enter Tryz.func50,Tryz.ntmps50
  go_wp2_with (go_at_call 55;refine (isKey_any _ _).mono ?_;rintro e w' ⟨rfl,rfl⟩;rw[h1])
  go_ret
  exact ⟨rfl,rfl⟩
 ·by_cases h2:0≤c
  ·by_cases h3:c<3
   ·by_cases h4: -1000≤v
    ·by_cases h5:v≤1000
     ·have e:okPlace k c v=true:=by unfold okPlace;rw[h1];simp[inB];omega
      rw[e];clear e
      go_enter Tryz.func50,Tryz.ntmps50
      go_wp2_with (go_at_call 55;refine (isKey_any _ _).mono ?_;rintro e w' ⟨rfl,rfl⟩;rw[h1])
      go_ret
      exact ⟨rfl,rfl⟩
     ·have e:okPlace k c v=false:=by unfold okPlace;rw[h1];simp[inB];omega
      rw[e];clear e
      have h5b:decide (v≤1000)=false:=by simpa using h5
      go_enter Tryz.func50,Tryz.ntmps50
      go_wp2_with (go_at_call 55;refine (isKey_any _ _).mono ?_;rintro e w' ⟨rfl,rfl⟩;rw[h1])
      go_ret
      exact ⟨rfl,rfl⟩
    ·have e:okPlace k c v=false:=by unfold okPlace;rw[h1];simp[inB];omega
     rw[e];clear e
     have h4b:decide (-1000≤v)=false:=by simpa using h4
     go_enter Tryz.func50,Tryz.ntmps50
     go_wp2_with (go_at_call 55;refine (isKey_any _ _).mono ?_;rintro e w' ⟨rfl,rfl⟩;rw[h1])
     go_ret
     exact ⟨rfl,rfl⟩
   ·have e:okPlace k c v=false:=by unfold okPlace;rw[h1];simp[inB];omega
    rw[e];clear e
    have h3b:decide (c<3)=false:=by simpa using h3
    go_enter Tryz.func50,Tryz.ntmps50
    go_wp2_with (go_at_call 55;refine (isKey_any _ _).mono ?_;rintro e w' ⟨rfl,rfl⟩;rw[h1])
    go_ret
    exact ⟨rfl,rfl⟩
  ·have e:okPlace k c v=false:=by unfold okPlace;rw[h1];simp[inB];omega
   rw[e];clear e
   have h2b:decide (0≤c)=false:=by simpa using h2
   go_enter Tryz.func50,Tryz.ntmps50
   go_wp2_with (go_at_call 55;refine (isKey_any _ _).mono ?_;rintro e w' ⟨rfl,rfl⟩;rw[h1])
   go_ret
   exact ⟨rfl,rfl⟩

set_option maxHeartbeats 400000 in
theorem orderC_any (x y:Cel) (w:World) :
  Calls Tryz.prog 60 #[.agg #[.int .i64 x.1.1,.int .i64 x.1.2,.int .i64 x.2.1,.int .i64 x.2.2.1,.int .i64 x.2.2.2],.agg #[.int .i64 y.1.1,.int .i64 y.1.2,.int .i64 y.2.1,.int .i64 y.2.2.1,.int .i64 y.2.2.2]] w fun e w'=>e= .returned (.int .i64 (ordI x.1 y.1))∧Gr w w':=by
 go_enter Tryz.func60,Tryz.ntmps60
 go_wp2_with fail
 refine (order_any x.1 y.1 _).mono ?_
 rintro e w' ⟨rfl,hg⟩
 go_wp2
 go_ret
 exact ⟨rfl,(((Gr.refl w).alloc _).alloc _).trans hg⟩

theorem orderC_g {x y:Cel} {r:Int} (h:ordI x.1 y.1=r) (w:World):Calls Tryz.prog 60 #[.agg #[.int .i64 x.1.1,.int .i64 x.1.2,.int .i64 x.2.1,.int .i64 x.2.2.1,.int .i64 x.2.2.2],.agg #[.int .i64 y.1.1,.int .i64 y.1.2,.int .i64 y.2.1,.int .i64 y.2.2.1,.int .i64 y.2.2.2]] w fun e w'=>e= .returned (.int .i64 r)∧∃q os',w'=grow (w.drewN q) os':=by
 rw[←h];exact orderC_any x y w
theorem isCell_g {k c v:Int} {r:Bool} (h:okPlace k c v=r) (w:World) :
  Calls Tryz.prog 50 #[.int .i64 k,.int .i64 c,.int .i64 v] w fun e w'=>e= .returned (.bool r)∧w'=w:=by
 rw[←h];exact isCell_any k c v w
theorem isKey_g {n:Int} {r:Bool} (h:inB n 0 49=r) (w:World) :
  Calls Tryz.prog 55 #[.int .i64 n] w fun e w'=>e= .returned (.bool r)∧w'=w:=by
 rw[←h];exact isKey_any n w

end Go.Proofs.YtkadjjmkokhldaaGreat
