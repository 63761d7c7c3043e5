/-
  A context, a dot, as they lie in a block.
  Cells and tables: the plain notions that the contracts of package table speak of.
  The small functions of package dot (isNode, right, order) and cmp.Compare at int: each returns what its plain function says, in every world, laying blocks of its own alone.
  The small functions of package table: isKey, isCell, order.
  dot.Check: it says what is wrong with a context.
  slices.Index, Contains and Equal at dots: whether a list has a dot; whether two lists are the same.
-/
import Derived.Test.YtkefkplnamkicaaGreatDoorM01
set_option maxRecDepth 100000
set_option maxHeartbeats 8000000
open Go.Ending renaming returned → Z
open Go.IntKind renaming i64 → I
open Go.Obj renaming cells → O
open Go.Proofs.Tryz renaming prog → S
open Go.Value renaming int → V, slice → J, agg → H, bool → Y
namespace Go.Proofs.YtkefkplnamkicaaGreatDoor
open Go.RowKit Go.Sort

structure CtxAt (w:World) (B:Nat) (c:Ctx) (A:Option Addr) (cap:Nat):Prop where
 k0:w.cell? ⟨B,0,none⟩=some (V I c.c0)
 k1:w.cell? ⟨B,1,none⟩=some (V I c.c1)
 k2:w.cell? ⟨B,2,none⟩=some (V I c.c2)
 k3:w.cell? ⟨B,3,none⟩=some (V I c.c3)
 k4:w.cell? ⟨B,4,none⟩=some (J A c.l.length cap)
 lt:B<w.heap.size
 row:Row w A c.l

theorem CtxAt.below {w w':World} {B:Nat} {c:Ctx} {A:Option Addr} {cap:Nat} (h:CtxAt w B c A cap) (k:Below w.heap.size w w'):CtxAt w' B c A cap :=
 ⟨(k.cell (p:=⟨B,0,none⟩) h.lt).trans h.k0,(k.cell (p:=⟨B,1,none⟩) h.lt).trans h.k1,(k.cell (p:=⟨B,2,none⟩) h.lt).trans h.k2,(k.cell (p:=⟨B,3,none⟩) h.lt).trans h.k3,(k.cell (p:=⟨B,4,none⟩) h.lt).trans h.k4,nL h.lt k.size,h.row.below k⟩
theorem CtxAt.gr {w w':World} {B:Nat} {c:Ctx} {A:Option Addr} {cap:Nat} (h:CtxAt w B c A cap) (k:Gr w w'):CtxAt w' B c A cap:=h.below k.below
theorem CtxAt.new {w:World} {c:Ctx} {A:Option Addr} {cap:Nat} (T:TypeId) (h:Row w A c.l) {B:Nat} (hB:w.heap.size=B):CtxAt (w.alloc (O #[V I c.c0,V I c.c1,V I c.c2,V I c.c3,J A c.l.length cap] T)) B c A cap:=by
 subst hB
 exact ⟨ab (gR _) rfl,ab (gR _) rfl,ab (gR _) rfl,ab (gR _) rfl,ab (gR _) rfl,by simp,h.gr ((gR _).alloc _)⟩

structure DotAt (w:World) (B:Nat) (x y:Int):Prop where
 k0:w.cell? ⟨B,0,none⟩=some (V I x)
 k1:w.cell? ⟨B,1,none⟩=some (V I y)
 lt:B<w.heap.size
theorem DotAt.below {w w':World} {B:Nat} {x y:Int} (h:DotAt w B x y) (k:Below w.heap.size w w'):DotAt w' B x y :=
 ⟨(k.cell (p:=⟨B,0,none⟩) h.lt).trans h.k0,(k.cell (p:=⟨B,1,none⟩) h.lt).trans h.k1,nL h.lt k.size⟩
theorem DotAt.gr {w w':World} {B:Nat} {x y:Int} (h:DotAt w B x y) (k:Gr w w'):DotAt w' B x y:=h.below k.below
theorem DotAt.new {w:World} {x y:Int} (T:TypeId) {B:Nat} (hB:w.heap.size=B):DotAt (w.alloc (O #[V I x,V I y] T)) B x y:=by
 subst hB
 exact ⟨ab (gR _) rfl,ab (gR _) rfl,by simp⟩

theorem CtxAt.set {w:World} {B:Nat} {d:Ctx} {D:Option Addr} {dp:Nat} (h:CtxAt w B d D dp) {c:Ctx} {A:Option Addr} {cap:Nat} (hr:Row w A c.l) (hA:∀a,A=some a→a.block≠B) :
  CtxAt (((((w.setCell ⟨B,0,none⟩ (V I c.c0)).setCell ⟨B,1,none⟩ (V I c.c1)).setCell ⟨B,2,none⟩ (V I c.c2)).setCell ⟨B,3,none⟩ (V I c.c3)).setCell ⟨B,4,none⟩ (J A c.l.length cap)) B c A cap:=by
 have e0:=h.k0
 have e1:=h.k1
 have e2:=h.k2
 have e3:=h.k3
 have e4:=h.k4
 refine ⟨?_,?_,?_,?_,?_,by simpa[World.setCell] using h.lt,((((hr.setCell _ hA).setCell _ hA).setCell _ hA).setCell _ hA).setCell _ hA⟩
 ·exact aa (aa (aa (aa (aa e0))))
 ·exact aa (aa (aa (aa (aa e1))))
 ·exact aa (aa (aa (aa (aa e2))))
 ·exact aa (aa (aa (aa (aa e3))))
 ·exact aa (aa (aa (aa (aa e4))))

theorem DotAt.set {w:World} {B:Nat} {x y x' y':Int} (h:DotAt w B x y):DotAt ((w.setCell ⟨B,0,none⟩ (V I x')).setCell ⟨B,1,none⟩ (V I y')) B x' y':=by
 refine ⟨?_,?_,by simpa[World.setCell] using h.lt⟩
 ·exact aa (aa h.k0)
 ·exact aa (aa h.k1)

theorem CtxAt.other {w:World} {B:Nat} {c:Ctx} {A:Option Addr} {cap:Nat} (h:CtxAt w B c A cap) {B' j:Nat} (u:Value) (hB:B≠B') (hA:∀a,A=some a→c.l≠[]→a.block≠B'):CtxAt (w.setCell ⟨B',j,none⟩ u) B c A cap:=by
 have ho:∀i,(w.setCell ⟨B',j,none⟩ u).cell? ⟨B,i,none⟩=w.cell? ⟨B,i,none⟩:=fun i=>World.cell?_setCell_other _ _ _ _ (by intro e;injection e with e1;exact hB e1.symm)
 exact ⟨(ho 0).trans h.k0,(ho 1).trans h.k1,(ho 2).trans h.k2,(ho 3).trans h.k3,(ho 4).trans h.k4,by simpa[World.setCell] using h.lt,h.row.setCell0 _ hA⟩
theorem DotAt.other {w:World} {B:Nat} {x y:Int} (h:DotAt w B x y) {B' j:Nat} (u:Value) (hB:B≠B'):DotAt (w.setCell ⟨B',j,none⟩ u) B x y:=by
 have ho:∀i,(w.setCell ⟨B',j,none⟩ u).cell? ⟨B,i,none⟩=w.cell? ⟨B,i,none⟩:=fun i=>World.cell?_setCell_other _ _ _ _ (by intro e;injection e with e1;exact hB e1.symm)
 exact ⟨(ho 0).trans h.k0,(ho 1).trans h.k1,by simpa[World.setCell] using h.lt⟩

theorem CtxAt.other5 {w:World} {B:Nat} {c:Ctx} {A:Option Addr} {cap:Nat} (h:CtxAt w B c A cap) {B':Nat} (u0 u1 u2 u3 u4:Value) (hB:B≠B') (hA:∀a,A=some a→c.l≠[]→a.block≠B') :
  CtxAt (((((w.setCell ⟨B',0,none⟩ u0).setCell ⟨B',1,none⟩ u1).setCell ⟨B',2,none⟩ u2).setCell ⟨B',3,none⟩ u3).setCell ⟨B',4,none⟩ u4) B c A cap :=
 ((((h.other u0 hB hA).other u1 hB hA).other u2 hB hA).other u3 hB hA).other u4 hB hA
theorem DotAt.other5 {w:World} {B:Nat} {x y:Int} (h:DotAt w B x y) {B':Nat} (u0 u1 u2 u3 u4:Value) (hB:B≠B') :
  DotAt (((((w.setCell ⟨B',0,none⟩ u0).setCell ⟨B',1,none⟩ u1).setCell ⟨B',2,none⟩ u2).setCell ⟨B',3,none⟩ u3).setCell ⟨B',4,none⟩ u4) B x y :=
 ((((h.other u0 hB).other u1 hB).other u2 hB).other u3 hB).other u4 hB
theorem bm {B:Nat} {a w:World} (h:Below B a w) {B':Nat} (hB:B≤B') (u0 u1 u2 u3 u4:Value):Below B a (((((w.setCell ⟨B',0,none⟩ u0).setCell ⟨B',1,none⟩ u1).setCell ⟨B',2,none⟩ u2).setCell ⟨B',3,none⟩ u3).setCell ⟨B',4,none⟩ u4) :=
 ((((h.setCell hB u0).setCell hB u1).setCell hB u2).setCell hB u3).setCell hB u4

structure ZAt (w:World) (B:Nat):Prop where
 k0:w.cell? ⟨B,0,none⟩=some (V I 0)
 k1:w.cell? ⟨B,1,none⟩=some (V I 0)
 k2:w.cell? ⟨B,2,none⟩=some (V I 0)
 k3:w.cell? ⟨B,3,none⟩=some (V I 0)
 k4:w.cell? ⟨B,4,none⟩=some (J none 0 0)
 fz:∀j,w.frozen? ⟨B,j,none⟩=false
 lt:B<w.heap.size
theorem ZAt.new (W:World) (T:TypeId) {B:Nat} (hB:W.heap.size=B):ZAt (W.alloc (O #[V I 0,V I 0,V I 0,V I 0,J none 0 0] T)) B:=by
 subst hB
 exact ⟨ab (gR _) rfl,ab (gR _) rfl,ab (gR _) rfl,ab (gR _) rfl,ab (gR _) rfl,fun j=>eP (gR _) j,by simp⟩
theorem ZAt.below {w w':World} {B:Nat} (h:ZAt w B) (k:Below w.heap.size w w'):ZAt w' B :=
 ⟨(k.cell (p:=⟨B,0,none⟩) h.lt).trans h.k0,(k.cell (p:=⟨B,1,none⟩) h.lt).trans h.k1,(k.cell (p:=⟨B,2,none⟩) h.lt).trans h.k2,(k.cell (p:=⟨B,3,none⟩) h.lt).trans h.k3,(k.cell (p:=⟨B,4,none⟩) h.lt).trans h.k4,fun j=>(k.frozen (p:=⟨B,j,none⟩) h.lt).trans (h.fz j),nL h.lt k.size⟩
theorem ZAt.ctx {w:World} {B:Nat} (h:ZAt w B):CtxAt w B ⟨0,0,0,0,[]⟩ none 0:=⟨h.k0,h.k1,h.k2,h.k3,h.k4,h.lt,oL rfl⟩
theorem ZAt.other5 {w:World} {B:Nat} (h:ZAt w B) {B':Nat} (u0 u1 u2 u3 u4:Value) (hB:B≠B') :
  ZAt (((((w.setCell ⟨B',0,none⟩ u0).setCell ⟨B',1,none⟩ u1).setCell ⟨B',2,none⟩ u2).setCell ⟨B',3,none⟩ u3).setCell ⟨B',4,none⟩ u4) B:=by
 have hc:=h.ctx.other5 u0 u1 u2 u3 u4 hB (fun a ha=>by cases ha)
 exact ⟨hc.k0,hc.k1,hc.k2,hc.k3,hc.k4,fun j=>by simp only[World.frozen?_setCell];exact h.fz j,hc.lt⟩


abbrev Cel:=(Int×Int)×Int×Int×Int
def gY (x:Cel):List Value:=[V I x.1.1,V I x.1.2,V I x.2.1,V I x.2.2.1,V I x.2.2.2]
theorem dD (x:Cel):(gY x).length=5:=rfl
theorem me (x:Cel):∀u∈gY x,u.oneCell'=true:=by
 intro u hu
 simp[gY] at hu
 rcases hu with rfl|rfl|rfl|rfl|rfl<;>rfl

structure Tab where
 c:Ctx
 e:List Cel

abbrev bw (w:World) (A:Option Addr) (l:List Cel):Prop:=au gY 5 w A l

theorem bw.get {w:World} {A:Option Addr} {l:List Cel} (h:bw w A l) {k:Nat} (hk:k<l.length):∃b off,A=some ⟨b,off,none⟩∧b<w.heap.size∧∀j (h:j<l.length),
  w.cell? ⟨b,off+j*5,none⟩=some (V I l[j].1.1)∧w.cell? ⟨b,off+j*5+1,none⟩=some (V I l[j].1.2)∧w.cell? ⟨b,off+j*5+2,none⟩=some (V I l[j].2.1)∧w.cell? ⟨b,off+j*5+3,none⟩=some (V I l[j].2.2.1)∧w.cell? ⟨b,off+j*5+4,none⟩=some (V I l[j].2.2.2):=by
 obtain ⟨b,off,hA,hb,hc⟩:=h.at hk
 exact ⟨b,off,hA,hb,fun j hj=>⟨hc j hj 0 (by omega),hc j hj 1 (by omega),hc j hj 2 (by omega),hc j hj 3 (by omega),hc j hj 4 (by omega)⟩⟩

def bj (k c v:Int):Bool:=inB k 0 49 && inB c 0 2 && inB v (-1000) 1000
def ew (t:Tab) (k:Nat):Bool :=
 ai t.c (t.e.getD k ((0,0),0,0,0)).1 && bj (t.e.getD k ((0,0),0,0,0)).2.1 (t.e.getD k ((0,0),0,0,0)).2.2.1 (t.e.getD k ((0,0),0,0,0)).2.2.2 && (k==0 || bD (t.e.getD (k-1) ((0,0),0,0,0)).1 (t.e.getD k ((0,0),0,0,0)).1)

def am (t:Tab):Int:=if aP t.c≠0 then aP t.c else if 400<t.e.length then 2 else if (List.range t.e.length).all (ew t) then 0 else 5

theorem wM {t:Tab} (h:aP t.c≠0):am t=aP t.c:=by simp[am,h]
theorem sj {t:Tab} (h:aP t.c=0) (hl:400<t.e.length):am t=2:=by simp[am,h,hl]
theorem ku {t:Tab} (h:aP t.c=0) (hl:t.e.length≤400) {k:Nat} (hk:k<t.e.length) (hb:ew t k=false):am t=5:=by
 have h1:¬ 400<t.e.length:=by omega
 have h2:(List.range t.e.length).all (ew t)=false:=by
  rw[List.all_eq_false]
  exact ⟨k,by simpa using hk,by simp[hb]⟩
 simp[am,h,h1,h2]
theorem tH {t:Tab} (h:aP t.c=0) (hl:t.e.length≤400) (ha:∀k,k<t.e.length→ew t k=true):am t=0:=by
 have h1:¬ 400<t.e.length:=by omega
 have h2:(List.range t.e.length).all (ew t)=true:=by
  rw[List.all_eq_true]
  intro k hk
  exact ha k (by simpa using hk)
 simp[am,h,h1,h2]
theorem ae {t:Tab} (h:am t=0):aP t.c=0∧t.e.length≤400∧∀k,k<t.e.length→ew t k=true:=by
 unfold am at h
 by_cases h1:aP t.c=0
 ·by_cases h2:400<t.e.length
  ·simp[h1,h2] at h
  ·by_cases h3:(List.range t.e.length).all (ew t)=true
   ·refine ⟨h1,by omega,fun k hk=> ?_⟩
    rw[List.all_eq_true] at h3
    exact h3 k (by simpa using hk)
   ·simp[h1,h2,h3] at h
 ·simp[h1] at h

theorem gI {t:Tab} (h:0<t.e.length) {x:Cel} (hx:t.e[0]=x):ew t 0=(ai t.c x.1 && bj x.2.1 x.2.2.1 x.2.2.2):=by
 subst hx
 simp[ew,h]
theorem eI {t:Tab} {m:Nat} (h:m+1<t.e.length) {x y:Cel} (hx:t.e[m+1]=x) (hy:t.e[m]=y):ew t (m+1)=(ai t.c x.1 && bj x.2.1 x.2.2.1 x.2.2.2 && bD y.1 x.1):=by
 subst hx hy
 have h':m<t.e.length:=by omega
 simp[ew,h,h']

structure TabAt (w:World) (B:Nat) (t:Tab) (A:Option Addr) (ca:Nat) (D:Option Addr) (cd:Nat):Prop where
 k0:w.cell? ⟨B,0,none⟩=some (V I t.c.c0)
 k1:w.cell? ⟨B,1,none⟩=some (V I t.c.c1)
 k2:w.cell? ⟨B,2,none⟩=some (V I t.c.c2)
 k3:w.cell? ⟨B,3,none⟩=some (V I t.c.c3)
 k4:w.cell? ⟨B,4,none⟩=some (J A t.c.l.length ca)
 k5:w.cell? ⟨B,5,none⟩=some (J D t.e.length cd)
 lt:B<w.heap.size
 row:Row w A t.c.l
 rowC:bw w D t.e

theorem TabAt.belowB {w w':World} {B N:Nat} {t:Tab} {A:Option Addr} {ca:Nat} {D:Option Addr} {cd:Nat} (h:TabAt w B t A ca D cd) (k:Below N w w') (hB:B<N) (hA:∀a,A=some a→t.c.l≠[]→a.block<N) (hD:∀a,D=some a→t.e≠[]→a.block<N):TabAt w' B t A ca D cd :=
 ⟨(k.cell (p:=⟨B,0,none⟩) hB).trans h.k0,(k.cell (p:=⟨B,1,none⟩) hB).trans h.k1,(k.cell (p:=⟨B,2,none⟩) hB).trans h.k2,(k.cell (p:=⟨B,3,none⟩) hB).trans h.k3,(k.cell (p:=⟨B,4,none⟩) hB).trans h.k4,(k.cell (p:=⟨B,5,none⟩) hB).trans h.k5,nL h.lt k.size,h.row.belowB hA k,h.rowC.belowB hD k⟩
theorem TabAt.below {w w':World} {B:Nat} {t:Tab} {A:Option Addr} {ca:Nat} {D:Option Addr} {cd:Nat} (h:TabAt w B t A ca D cd) (k:Below w.heap.size w w'):TabAt w' B t A ca D cd:=h.belowB k h.lt h.row.lt h.rowC.lt
theorem TabAt.gr {w w':World} {B:Nat} {t:Tab} {A:Option Addr} {ca:Nat} {D:Option Addr} {cd:Nat} (h:TabAt w B t A ca D cd) (k:Gr w w'):TabAt w' B t A ca D cd:=h.below k.below
theorem TabAt.new {w:World} {t:Tab} {A:Option Addr} {ca:Nat} {D:Option Addr} {cd:Nat} (T:TypeId) (hr:Row w A t.c.l) (hd:bw w D t.e) {B:Nat} (hB:B=w.heap.size):TabAt (w.alloc (O #[V I t.c.c0,V I t.c.c1,V I t.c.c2,V I t.c.c3,J A t.c.l.length ca,J D t.e.length cd] T)) B t A ca D cd:=by
 subst hB
 have hg:Gr w (w.alloc (O #[V I t.c.c0,V I t.c.c1,V I t.c.c2,V I t.c.c3,J A t.c.l.length ca,J D t.e.length cd] T)):=(gR w).alloc _
 exact ⟨ab (gR _) rfl,ab (gR _) rfl,ab (gR _) rfl,ab (gR _) rfl,ab (gR _) rfl,ab (gR _) rfl,by simp,hr.gr hg,hd.gr hg⟩

structure CelAt (w:World) (B:Nat) (x:Cel):Prop where
 k0:w.cell? ⟨B,0,none⟩=some (V I x.1.1)
 k1:w.cell? ⟨B,1,none⟩=some (V I x.1.2)
 k2:w.cell? ⟨B,2,none⟩=some (V I x.2.1)
 k3:w.cell? ⟨B,3,none⟩=some (V I x.2.2.1)
 k4:w.cell? ⟨B,4,none⟩=some (V I x.2.2.2)
 lt:B<w.heap.size
theorem CelAt.belowB {w w':World} {B N:Nat} {x:Cel} (h:CelAt w B x) (k:Below N w w') (hB:B<N):CelAt w' B x :=
 ⟨(k.cell (p:=⟨B,0,none⟩) hB).trans h.k0,(k.cell (p:=⟨B,1,none⟩) hB).trans h.k1,(k.cell (p:=⟨B,2,none⟩) hB).trans h.k2,(k.cell (p:=⟨B,3,none⟩) hB).trans h.k3,(k.cell (p:=⟨B,4,none⟩) hB).trans h.k4,nL h.lt k.size⟩
theorem CelAt.below {w w':World} {B:Nat} {x:Cel} (h:CelAt w B x) (k:Below w.heap.size w w'):CelAt w' B x:=h.belowB k h.lt
theorem CelAt.gr {w w':World} {B:Nat} {x:Cel} (h:CelAt w B x) (k:Gr w w'):CelAt w' B x:=h.below k.below
theorem CelAt.new {w:World} (x:Cel) (T:TypeId) {B:Nat} (hB:B=w.heap.size):CelAt (w.alloc (O #[V I x.1.1,V I x.1.2,V I x.2.1,V I x.2.2.1,V I x.2.2.2] T)) B x:=by
 subst hB
 exact ⟨ab (gR _) rfl,ab (gR _) rfl,ab (gR _) rfl,ab (gR _) rfl,ab (gR _) rfl,by simp⟩

abbrev T6 (t:Tab) (A:Option Addr) (a:Nat) (C:Option Addr) (c:Nat):List Value:=[V I t.c.c0,V I t.c.c1,V I t.c.c2,V I t.c.c3,J A t.c.l.length a,J C t.e.length c]
abbrev T2 (t:Tab) (A:Option Addr) (a:Nat) (C:Option Addr) (c:Nat) (s:Tab) (B:Option Addr) (b:Nat) (D:Option Addr) (d:Nat):List Value:=[V I t.c.c0,V I t.c.c1,V I t.c.c2,V I t.c.c3,J A t.c.l.length a,J C t.e.length c,V I s.c.c0,V I s.c.c1,V I s.c.c2,V I s.c.c3,J B s.c.l.length b,J D s.e.length d]
abbrev Z6:List Value:=[V I 0,V I 0,V I 0,V I 0,J none 0 0,J none 0 0]
abbrev Z2:List Value:=[V I 0,V I 0,V I 0,V I 0,J none 0 0,J none 0 0,V I 0,V I 0,V I 0,V I 0,J none 0 0,J none 0 0]

theorem cT (n:Int) (w:World) :
  Calls S 92 #[V I n] w fun e w'=>e= Z (Y (inB n 0 3))∧w'=w:=by
 by_cases h1:0≤n
 ·by_cases h2:n<4
  ·have e:inB n 0 3=true:=by simp[inB];omega
   rw[e];clear e
   go_enter Tryz.func92,Tryz.ntmps92
   go_wp2
   go_ret
   exact ⟨rfl,rfl⟩
  ·have e:inB n 0 3=false:=by simp[inB];omega
   rw[e];clear e
   go_enter Tryz.func92,Tryz.ntmps92
   go_wp2
   go_ret
   exact ⟨rfl,rfl⟩
 ·have e:inB n 0 3=false:=by simp[inB];omega
  rw[e];clear e
  go_enter Tryz.func92,Tryz.ntmps92
  go_wp2
  go_ret
  exact ⟨rfl,rfl⟩

theorem s9 (x:Int×Int) (w:World) :
  Calls S 90 #[H #[V I x.1,V I x.2]] w fun e w'=>e= Z (Y (ar x))∧Gr w w':=by
 obtain ⟨a,b⟩:=x
 cases h1:inB a 0 3
 ·have e:ar (a,b)=false:=by simp[ar,h1]
  rw[e];clear e
  go_enter Tryz.func90,Tryz.ntmps90
  go_wp2_with (go_at_call 92;refine (cT _ _).mono ?_;rintro e w' ⟨rfl,rfl⟩;rw[h1])
  go_ret
  exact ⟨rfl,(gR _).alloc _⟩
 ·by_cases h2:1≤b
  ·by_cases h3:b≤1099511627776
   ·have e:ar (a,b)=true:=by unfold ar;rw[h1];simp[inB,h2,h3]
    rw[e];clear e
    go_enter Tryz.func90,Tryz.ntmps90
    go_wp2_with (go_at_call 92;refine (cT _ _).mono ?_;rintro e w' ⟨rfl,rfl⟩;rw[h1])
    go_ret
    exact ⟨rfl,(gR _).alloc _⟩
   ·have e:ar (a,b)=false:=by unfold ar;rw[h1];simp[inB,h3]
    rw[e];clear e
    have h3b:decide (b≤1099511627776)=false:=by simpa using h3
    clear h3
    go_enter Tryz.func90,Tryz.ntmps90
    go_wp2_with (go_at_call 92;refine (cT _ _).mono ?_;rintro e w' ⟨rfl,rfl⟩;rw[h1])
    go_ret
    exact ⟨rfl,(gR _).alloc _⟩
  ·have e:ar (a,b)=false:=by unfold ar;rw[h1];simp[inB,h2]
   rw[e];clear e
   go_enter Tryz.func90,Tryz.ntmps90
   go_wp2_with (go_at_call 92;refine (cT _ _).mono ?_;rintro e w' ⟨rfl,rfl⟩;rw[h1])
   go_ret
   exact ⟨rfl,(gR _).alloc _⟩

def bv (x y:Int):Int:=if x<y then -1 else if y<x then 1 else 0
def eh (x y:Int×Int):Int:=if x.1<y.1 then -1 else if y.1<x.1 then 1 else bv x.2 y.2

theorem jH (x y:Int) (w:World) :
  Calls S 129 #[V I x,V I y] w fun e w'=>e= Z (V I (bv x y))∧w'=w:=by
 by_cases h1:x<y
 ·have e:bv x y= -1:=by simp[bv,h1]
  rw[e];clear e
  go_enter Tryz.func129,Tryz.ntmps129
  go_wp2
  go_ret
  exact ⟨rfl,rfl⟩
 ·by_cases h2:y<x
  ·have e:bv x y=1:=by simp[bv,h1,h2]
   rw[e];clear e
   go_enter Tryz.func129,Tryz.ntmps129
   go_wp2
   go_ret
   exact ⟨rfl,rfl⟩
  ·have e:bv x y=0:=by simp[bv,h1,h2]
   rw[e];clear e
   go_enter Tryz.func129,Tryz.ntmps129
   go_wp2
   go_ret
   exact ⟨rfl,rfl⟩

theorem kE (x y:Int×Int) (w:World) :
  Calls S 91 #[H #[V I x.1,V I x.2],H #[V I y.1,V I y.2]] w fun e w'=>e= Z (V I (eh x y))∧Gr w w':=by
 obtain ⟨a,b⟩:=x
 obtain ⟨c,d⟩:=y
 by_cases h1:a<c
 ·have e:eh (a,b) (c,d)= -1:=by simp[eh,h1]
  have e1:bv a c= -1:=by simp[bv,h1]
  rw[e];clear e
  go_enter Tryz.func91,Tryz.ntmps91
  go_wp2_with (go_at_call 129;refine (jH _ _ _).mono ?_;rintro e w' ⟨rfl,rfl⟩;rw[e1])
  go_ret
  exact ⟨rfl,((gR _).alloc _).alloc _⟩
 ·by_cases h2:c<a
  ·have e:eh (a,b) (c,d)=1:=by simp[eh,h1,h2]
   have e1:bv a c=1:=by simp[bv,h1,h2]
   rw[e];clear e
   go_enter Tryz.func91,Tryz.ntmps91
   go_wp2_with (go_at_call 129;refine (jH _ _ _).mono ?_;rintro e w' ⟨rfl,rfl⟩;rw[e1])
   go_ret
   exact ⟨rfl,((gR _).alloc _).alloc _⟩
  ·have e:eh (a,b) (c,d)=bv b d:=by simp[eh,h1,h2]
   have e1:bv a c=0:=by simp[bv,h1,h2]
   rw[e];clear e
   go_enter Tryz.func91,Tryz.ntmps91
   go_wp2_with fail
   refine (jH _ _ _).mono ?_
   rintro e w' ⟨rfl,rfl⟩
   rw[e1]
   go_wp2_with fail
   refine (jH _ _ _).mono ?_
   rintro e w' ⟨rfl,rfl⟩
   go_wp2
   go_ret
   exact ⟨rfl,((gR _).alloc _).alloc _⟩

theorem ii {a b:Int} {r:Bool} (h:ar (a,b)=r) (w:World):Calls S 90 #[H #[V I a,V I b]] w fun e w'=>e= Z (Y r)∧∃q os',w'=grow (w.drewN q) os':=by
 rw[←h];exact s9 (a,b) w
theorem tV {a b c d:Int} {r:Int} (h:eh (a,b) (c,d)=r) (w:World):Calls S 91 #[H #[V I a,V I b],H #[V I c,V I d]] w fun e w'=>e= Z (V I r)∧∃q os',w'=grow (w.drewN q) os':=by
 rw[←h];exact kE (a,b) (c,d) w
theorem fX {n:Int} {r:Bool} (h:inB n 0 3=r) (w:World) :
  Calls S 92 #[V I n] w fun e w'=>e= Z (Y r)∧w'=w:=by
 rw[←h];exact cT n w
theorem ir {x y:Int×Int} (h:bD x y=true):eh x y= -1:=by
 unfold bD at h
 unfold eh bv
 by_cases h1:x.1<y.1
 ·simp[h1]
 ·simp[h1] at h
  have h2:¬y.1<x.1:=by omega
  simp[h.2,h1,h2]
theorem iu {x y:Int×Int} (h:bD x y=false):0≤eh x y:=by
 unfold bD at h
 simp at h
 unfold eh bv
 have h1:¬x.1<y.1:=by omega
 by_cases h2:y.1<x.1
 ·simp[h1,h2]
 ·have h3:¬x.2<y.2:=by have:=h.2 (by omega);omega
  by_cases h4:y.2<x.2<;>simp[h1,h2,h3,h4]


theorem eG (n:Int) (w:World) :
  Calls S 94 #[V I n] w fun e w'=>e= Z (Y (inB n 0 49))∧w'=w:=by
 by_cases h1:0≤n
 ·by_cases h2:n<50
  ·have e:inB n 0 49=true:=by simp[inB];omega
   rw[e];clear e
   go_enter Tryz.func94,Tryz.ntmps94
   go_wp2
   go_ret
   exact ⟨rfl,rfl⟩
  ·have e:inB n 0 49=false:=by simp[inB];omega
   rw[e];clear e
   go_enter Tryz.func94,Tryz.ntmps94
   go_wp2
   go_ret
   exact ⟨rfl,rfl⟩
 ·have e:inB n 0 49=false:=by simp[inB];omega
  rw[e];clear e
  go_enter Tryz.func94,Tryz.ntmps94
  go_wp2
  go_ret
  exact ⟨rfl,rfl⟩

theorem sx (k c v:Int) (w:World) :
  Calls S 67 #[V I k,V I c,V I v] w fun e w'=>e= Z (Y (bj k c v))∧w'=w:=by
 cases h1:inB k 0 49
 ·have e:bj k c v=false:=by simp[bj,h1]
  rw[e];clear e
  go_enter Tryz.func67,Tryz.ntmps67
  go_wp2_with (go_at_call 94;refine (eG _ _).mono ?_;rintro e w' ⟨rfl,rfl⟩;rw[h1])
  go_ret
  exact ⟨rfl,rfl⟩
 ·by_cases h2:0≤c
  ·by_cases h3:c<3
   ·by_cases h4: -1000≤v
    ·by_cases h5:v≤1000
     ·have e:bj k c v=true:=by unfold bj;rw[h1];simp[inB];omega
      rw[e];clear e
      go_enter Tryz.func67,Tryz.ntmps67
      go_wp2_with (go_at_call 94;refine (eG _ _).mono ?_;rintro e w' ⟨rfl,rfl⟩;rw[h1])
      go_ret
      exact ⟨rfl,rfl⟩
     ·have e:bj k c v=false:=by unfold bj;rw[h1];simp[inB];omega
      rw[e];clear e
      have h5b:decide (v≤1000)=false:=by simpa using h5
      go_enter Tryz.func67,Tryz.ntmps67
      go_wp2_with (go_at_call 94;refine (eG _ _).mono ?_;rintro e w' ⟨rfl,rfl⟩;rw[h1])
      go_ret
      exact ⟨rfl,rfl⟩
    ·have e:bj k c v=false:=by unfold bj;rw[h1];simp[inB];omega
     rw[e];clear e
     have h4b:decide (-1000≤v)=false:=by simpa using h4
     go_enter Tryz.func67,Tryz.ntmps67
     go_wp2_with (go_at_call 94;refine (eG _ _).mono ?_;rintro e w' ⟨rfl,rfl⟩;rw[h1])
     go_ret
     exact ⟨rfl,rfl⟩
   ·have e:bj k c v=false:=by unfold bj;rw[h1];simp[inB];omega
    rw[e];clear e
    have h3b:decide (c<3)=false:=by simpa using h3
    go_enter Tryz.func67,Tryz.ntmps67
    go_wp2_with (go_at_call 94;refine (eG _ _).mono ?_;rintro e w' ⟨rfl,rfl⟩;rw[h1])
    go_ret
    exact ⟨rfl,rfl⟩
  ·have e:bj k c v=false:=by unfold bj;rw[h1];simp[inB];omega
   rw[e];clear e
   have h2b:decide (0≤c)=false:=by simpa using h2
   go_enter Tryz.func67,Tryz.ntmps67
   go_wp2_with (go_at_call 94;refine (eG _ _).mono ?_;rintro e w' ⟨rfl,rfl⟩;rw[h1])
   go_ret
   exact ⟨rfl,rfl⟩

theorem mO (x y:Cel) (w:World) :
  Calls S 68 #[H #[V I x.1.1,V I x.1.2,V I x.2.1,V I x.2.2.1,V I x.2.2.2],H #[V I y.1.1,V I y.1.2,V I y.2.1,V I y.2.2.1,V I y.2.2.2]] w fun e w'=>e= Z (V I (eh x.1 y.1))∧Gr w w':=by
 go_enter Tryz.func68,Tryz.ntmps68
 go_wp2_with fail
 refine (kE x.1 y.1 _).mono ?_
 rintro e w' ⟨rfl,hg⟩
 go_wp2
 go_ret
 exact ⟨rfl,(((gR w).alloc _).alloc _).trans hg⟩

theorem gh {x y:Cel} {r:Int} (h:eh x.1 y.1=r) (w:World):Calls S 68 #[H #[V I x.1.1,V I x.1.2,V I x.2.1,V I x.2.2.1,V I x.2.2.2],H #[V I y.1.1,V I y.1.2,V I y.2.1,V I y.2.2.1,V I y.2.2.2]] w fun e w'=>e= Z (V I r)∧∃q os',w'=grow (w.drewN q) os':=by
 rw[←h];exact mO x y w
theorem fW {k c v:Int} {r:Bool} (h:bj k c v=r) (w:World) :
  Calls S 67 #[V I k,V I c,V I v] w fun e w'=>e= Z (Y r)∧w'=w:=by
 rw[←h];exact sx k c v w
theorem tM {n:Int} {r:Bool} (h:inB n 0 49=r) (w:World) :
  Calls S 94 #[V I n] w fun e w'=>e= Z (Y r)∧w'=w:=by
 rw[←h];exact eG n w


theorem s8 {w W:World} {x y:Int} {T:TypeId} (h:Gr (w.alloc (O #[V I x,V I y] T)) W):(∀n os,(grow (W.drewN n) os).cell? ⟨w.heap.size,0,none⟩=some (V I x))∧(∀n os,(grow (W.drewN n) os).cell? ⟨w.heap.size,1,none⟩=some (V I y)) :=
 ⟨fu h rfl,fu h rfl⟩

theorem fb (c:Ctx) (A:Option Addr) (cap:Nat) (w:World) (hl:c.l.length≤maxLen) (hr:Row w A c.l) :
  Calls S 65 #[H #[V I c.c0,V I c.c1,V I c.c2,V I c.c3,J A c.l.length cap]] w fun e w'=>e= Z (V I (aP c))∧Gr w w':=by
 unfold maxLen at hl
 have mixed:Tryz.prog.follows .mixedOrders=true:=by kernel_rfl
 have i0:∀w,(Instr.index 35 (H #[V I c.c0,V I c.c1,V I c.c2,V I c.c3]) (V I 0)).run S w= .ok (V I (clk c 0)) w:=fun _=>by kernel_rfl
 have i1:∀w,(Instr.index 35 (H #[V I c.c0,V I c.c1,V I c.c2,V I c.c3]) (V I 1)).run S w= .ok (V I (clk c 1)) w:=fun _=>by kernel_rfl
 have i2:∀w,(Instr.index 35 (H #[V I c.c0,V I c.c1,V I c.c2,V I c.c3]) (V I 2)).run S w= .ok (V I (clk c 2)) w:=fun _=>by kernel_rfl
 have i3:∀w,(Instr.index 35 (H #[V I c.c0,V I c.c1,V I c.c2,V I c.c3]) (V I 3)).run S w= .ok (V I (clk c 3)) w:=fun _=>by kernel_rfl
 go_enter Tryz.func65,Tryz.ntmps65
 go_wp2
 go_loopw [9] (fun i wr=>∃k:Nat,k≤4∧i= V I k∧Hid (∀a:Int,0≤a→a<k→inB (clk c a) 0 1099511627776=true)∧Gr (w.alloc (O #[V I c.c0,V I c.c1,V I c.c2,V I c.c3,J A c.l.length cap] 38)) wr) (fun i _=>4-(intOf i).toNat)
 case atStart=>exact ⟨0,by omega,rfl,fun a h0 h1=>by omega,gR _⟩
 case round =>
  obtain ⟨k,hk,rfl,hin,hgr⟩:=hrel
  by_cases hlt:k<4
  ·have hltz:(k:Int)<4:=by omega
   have ik:∀w,(Instr.index 35 (H #[V I c.c0,V I c.c1,V I c.c2,V I c.c3]) (V I k)).run S w= .ok (V I (clk c k)) w:=by
    have h4:k=0∨k=1∨k=2∨k=3:=by omega
    rcases h4 with rfl|rfl|rfl|rfl
    ·exact i0
    ·exact i1
    ·exact i2
    ·exact i3
   clear i0 i1 i2 i3
   have hpos:clk c (k:Int)<0∨1099511627776<clk c (k:Int)∨(¬clk c (k:Int)<0∧¬ 1099511627776<clk c (k:Int)):=by omega
   rcases hpos with h1|h1|⟨h1,h2⟩
   ·have hfin:Hid (aP c=1):=qF (by omega) hltz (by simp[inB];omega)
    go_wp2
    go_ret
    rw[hfin.out]
    exact ⟨rfl,ci hgr⟩
   ·have hfin:Hid (aP c=1):=qF (by omega) hltz (by simp[inB];omega)
    have h1b:¬clk c (k:Int)<0:=by omega
    go_wp2
    go_ret
    rw[hfin.out]
    exact ⟨rfl,ci hgr⟩
   ·have hi:Hid (inB (clk c (k:Int)) 0 1099511627776=true):=by show inB _ _ _=true;simp[inB];omega
    go_wp2
    go_roundw
    case rel =>
     refine ⟨k+1,by omega,by go_num,?_,hgr⟩
     intro a h0 h1
     by_cases e:a=(k:Int)
     ·rw[e];exact hi
     ·exact hin a h0 (by omega)
    case measure=>simp[intOf];omega
  ·clear i0 i1 i2 i3
   obtain rfl:k=4:=by omega
   have k4:=ab hgr (j:=4) rfl
   have hok:bF c=true:=mL fun a h0 h4=>hin a h0 (by omega)
   by_cases h400:400<c.l.length
   ·have h400z:(400:Int)<(c.l.length:Int):=by omega
    have hfin:Hid (aP c=2):=sg hok h400
    go_wp2
    go_ret
    rw[hfin.out]
    exact ⟨rfl,ci hgr⟩
   ·have h400z:¬(400:Int)<(c.l.length:Int):=by omega
    have hokH:Hid (bF c=true):=hok
    clear hok
    go_wp2
    clear k4 hin
    go_loopw [26] (fun i wr=>∃k:Nat,k≤c.l.length∧i= V I k∧Hid (∀j,j<k→j5 c j=true)∧Gr (w.alloc (O #[V I c.c0,V I c.c1,V I c.c2,V I c.c3,J A c.l.length cap] 38)) wr) (fun i _=>c.l.length-(intOf i).toNat)
    case atStart=>exact ⟨0,by omega,rfl,fun j h=>by omega,hgr⟩
    case round =>
     clear hgr
     rename World=>wr0
     obtain ⟨k,hk,rfl,hall,hgr⟩:=hrel
     by_cases hlt:k<c.l.length
     ·have hltz:(k:Int)<(c.l.length:Int):=by omega
      obtain ⟨b,off,rfl,hb,hcs⟩:=(hr.gr (ci hgr)).at hlt
      obtain ⟨x,y,hx⟩:∃x y,c.l[k]=(x,y):=⟨_,_,rfl⟩
      have e0:=(hcs k hlt).1
      have e1:=(hcs k hlt).2
      rw[hx] at e0 e1
      have hcsH:Hid (∀j (h:j<c.l.length),_):=hcs
      have hxH:Hid (c.l[k]=(x,y)):=hx
      clear hcs hx
      cases hri:ar (x,y)
      ·have hfin:Hid (aP c=5):=by
        refine kr hokH.out (by omega) hlt ?_
        cases k with
        | zero=>rw[fd hlt hxH.out,hri];rfl
        | succ m=>rw[dX hlt hxH.out rfl,hri];rfl
       go_wp2
       have d0:=fu (gR (wr0.alloc (O #[V I x,V I y] 95))) (j:=0) rfl
       have d1:=fu (gR (wr0.alloc (O #[V I x,V I y] 95))) (j:=1) rfl
       have hgW:=(hgr.alloc (O #[V I x,V I y] 95))
       have rG:=((gR wr0).alloc (O #[V I x,V I y] 95))
       have dG:=fun X (hX:Gr (wr0.alloc (O #[V I x,V I y] 95)) X)=>s8 hX
       have g4:=fu hgW (j:=4) rfl
       have hsz:wr0.heap.size<(wr0.alloc (O #[V I x,V I y] 95)).heap.size:=by simp
       generalize wr0.alloc (O #[V I x,V I y] 95)=W at d0 d1 hgW rG dG g4 hsz ⊢
       refine wp_region_quiet_grown mixed (by kernel_rfl) ?_
       repeat (go_big_quiet_step ((go_at_call 90;refine Calls.grown_of (ii hri _))))
       refine wpQuiet_nil ?_
       rintro _ ⟨⟨nq,osq⟩,rfl⟩
       go_wp2
       go_ret
       rw[hfin.out]
       exact ⟨rfl,(ci hgW).trans ⟨nq,osq,rfl⟩⟩
      ·have hn:=dY hri
       have hcb:=cE hokH.out x hn.1 hn.2.1
       by_cases hs:y≤clk c x+1
       ·have hfin:Hid (aP c=5):=by
         refine kr hokH.out (by omega) hlt ?_
         cases k with
         | zero=>rw[fd hlt hxH.out,hri];simp;omega
         | succ m=>rw[dX hlt hxH.out rfl,hri];simp;omega
        go_wp2
        have d0:=fu (gR (wr0.alloc (O #[V I x,V I y] 95))) (j:=0) rfl
        have d1:=fu (gR (wr0.alloc (O #[V I x,V I y] 95))) (j:=1) rfl
        have hgW:=(hgr.alloc (O #[V I x,V I y] 95))
        have rG:=((gR wr0).alloc (O #[V I x,V I y] 95))
        have dG:=fun X (hX:Gr (wr0.alloc (O #[V I x,V I y] 95)) X)=>s8 hX
        have g4:=fu hgW (j:=4) rfl
        have gc:=fu hgW (iI (c:=c) hn.1 hn.2.1)
        have hsz:wr0.heap.size<(wr0.alloc (O #[V I x,V I y] 95)).heap.size:=by simp
        generalize wr0.alloc (O #[V I x,V I y] 95)=W at d0 d1 hgW rG dG g4 gc hsz ⊢
        refine wp_region_quiet_grown mixed (by kernel_rfl) ?_
        repeat (go_big_quiet_step ((go_at_call 90;refine Calls.grown_of (ii hri _))))
        refine wpQuiet_nil ?_
        rintro _ ⟨⟨nq,osq⟩,rfl⟩
        go_wp2
        go_ret
        rw[hfin.out]
        exact ⟨rfl,(ci hgW).trans ⟨nq,osq,rfl⟩⟩
       ·have hsb:decide (y≤clk c x+1)=false:=by simpa using hs
        go_wp2
        have d0:=fu (gR (wr0.alloc (O #[V I x,V I y] 95))) (j:=0) rfl
        have d1:=fu (gR (wr0.alloc (O #[V I x,V I y] 95))) (j:=1) rfl
        have hgW:=(hgr.alloc (O #[V I x,V I y] 95))
        have rG:=((gR wr0).alloc (O #[V I x,V I y] 95))
        have dG:=fun X (hX:Gr (wr0.alloc (O #[V I x,V I y] 95)) X)=>s8 hX
        have g4:=fu hgW (j:=4) rfl
        have gc:=fu hgW (iI (c:=c) hn.1 hn.2.1)
        have hsz:wr0.heap.size<(wr0.alloc (O #[V I x,V I y] 95)).heap.size:=by simp
        generalize wr0.alloc (O #[V I x,V I y] 95)=W at d0 d1 hgW rG dG g4 gc hsz ⊢
        refine wp_region_quiet_grown mixed (by kernel_rfl) ?_
        repeat (go_big_quiet_step ((go_at_call 90;refine Calls.grown_of (ii hri _))))
        refine wpQuiet_nil ?_
        rintro _ ⟨⟨nq,osq⟩,rfl⟩
        have hg2:Gr W (grow (W.drewN nq) osq):=⟨nq,osq,rfl⟩
        have hbx:=dG _ hg2
        have g42:=fu (hgW.trans hg2) (j:=4) rfl
        have hgW2:=hgW.trans hg2
        clear d0 d1 g4 gc
        cases k with
        | zero =>
         have hoka:Hid (j5 c 0=true):=by
          show j5 c 0=true
          rw[fd hlt hxH.out,hri];simp;omega
         obtain ⟨b0,b1⟩:=hbx
         generalize grow (W.drewN nq) osq=W2 at b0 b1 g42 hgW2 ⊢
         go_wp2
         refine wp_region_quiet_grown mixed (by kernel_rfl) ?_
         repeat (go_big_quiet_step (fail))
         refine wpQuiet_nil ?_
         rintro _ ⟨⟨nq2,osq2⟩,rfl⟩
         go_wp2
         go_roundw
         case rel =>
          refine ⟨_,hlt,by go_num,?_,hgW2.trans ⟨nq2,osq2,rfl⟩⟩
          intro j hj
          by_cases e:j=0
          ·rw[e];exact hoka.out
          ·exact hall j (by omega)
         case measure=>simp[intOf];omega
        | succ m =>
         obtain ⟨x',y',hx'⟩:∃x' y',c.l[m]=(x',y'):=⟨_,_,rfl⟩
         have f0:=(hcsH.out m (by omega)).1
         have f1:=(hcsH.out m (by omega)).2
         rw[hx'] at f0 f1
         have hxH':Hid (c.l[m]=(x',y')):=hx'
         clear hx'
         have g0:=(rG.trans hg2).cellG (a:=⟨b,off+m*2,none⟩) hb f0
         have g1:=(rG.trans hg2).cellG (a:=⟨b,off+m*2+1,none⟩) hb f1
         obtain ⟨b0,b1⟩:=hbx
         clear f0 f1
         generalize grow (W.drewN nq) osq=W2 at b0 b1 g42 hgW2 g0 g1 ⊢
         cases hbe:bD (x',y') (x,y)
         ·have hfin:Hid (aP c=5):=kr hokH.out (by omega) hlt (by rw[dX hlt hxH.out hxH'.out,hri,hbe];rfl)
          have hge:=iu hbe
          go_wp2
          refine wp_region_quiet_grown mixed (by kernel_rfl) ?_
          repeat (go_big_quiet_step ((go_at_call 91;refine Calls.grown_of (tV rfl _))))
          refine wpQuiet_nil ?_
          rintro _ ⟨⟨nq2,osq2⟩,rfl⟩
          go_wp2
          go_ret
          rw[hfin.out]
          exact ⟨rfl,(ci hgW2).trans ⟨nq2,osq2,rfl⟩⟩
         ·have hge:=ir hbe
          have hoka:Hid (j5 c (m+1)=true):=by
           show j5 c (m+1)=true
           rw[dX hlt hxH.out hxH'.out,hri,hbe];simp;omega
          go_wp2
          refine wp_region_quiet_grown mixed (by kernel_rfl) ?_
          repeat (go_big_quiet_step ((go_at_call 91;refine Calls.grown_of (tV hge _))))
          refine wpQuiet_nil ?_
          rintro _ ⟨⟨nq2,osq2⟩,rfl⟩
          go_wp2
          go_roundw
          case rel =>
           refine ⟨_,hlt,by go_num,?_,hgW2.trans ⟨nq2,osq2,rfl⟩⟩
           intro j hj
           by_cases e:j=m+1
           ·rw[e];exact hoka.out
           ·exact hall j (by omega)
          case measure=>simp[intOf];omega
     ·have hltz:¬(k:Int)<(c.l.length:Int):=by omega
      have hfin:Hid (aP c=0):=tG hokH.out (by omega) fun j hj=>hall j (by omega)
      go_wp2
      go_ret
      rw[hfin.out]
      exact ⟨rfl,ci hgr⟩


theorem uN (l:List (Int×Int)) (A:Option Addr) (cap:Nat) (x:Int×Int) (w:World) (hl:l.length≤maxLen) (hr:Row w A l) :
  Calls S 130 #[J A l.length cap,H #[V I x.1,V I x.2]] w fun e w'=>∃r:Int,e= Z (V I r)∧Hid (decide (0≤r)=mA l x)∧Gr w w':=by
 obtain ⟨a,b⟩:=x
 unfold maxLen at hl
 have hE:=AU
 have hG:=mu
 go_enter Tryz.func130,Tryz.ntmps130
 go_wp2
 go_loopw [8] (fun i wr=>∃k:Nat,k≤l.length∧i= V I k∧Hid (∀j (h:j<l.length),j<k→l[j]≠(a,b))∧Gr (w.alloc (O #[V I a,V I b] 95)) wr) (fun i _=>l.length-(intOf i).toNat)
 case atStart=>exact ⟨0,nZ _,rfl,fun j _ hj=>absurd hj (Nat.not_lt_zero _),gR _⟩
 case round =>
  obtain ⟨k,hk,rfl,hno,hgr⟩:=hrel
  have d0:=ab hgr (j:=0) rfl
  have d1:=ab hgr (j:=1) rfl
  by_cases hlt:k<l.length
  ·have hltz:(k:Int)<(l.length:Int):=by omega
   obtain ⟨bb,off,rfl,hb,hcs⟩:=(hr.gr (ci hgr)).at hlt
   have e0:=(hcs k hlt).1
   have e1:=(hcs k hlt).2
   clear hcs
   cases hq:(a==(l[k]).1 && b==(l[k]).2)
   ·have hne:Hid (l[k]≠(a,b)):=by
     intro h
     rw[h] at hq
     simp at hq
    go_wp2
    go_quiet (fail)
    go_wp2
    go_roundw
    case rel =>
     refine ⟨k+1,by omega,by go_num,?_,hgr.trans ⟨nq,#[],by rw[grow_empty]⟩⟩
     intro j hj hjk
     by_cases e:j=k
     ·subst e;exact hne
     ·exact hno j hj (by omega)
    case measure=>simp[intOf];omega
   ·have hfin:Hid (decide ((0:Int)≤(k:Int))=mA l (a,b)):=by
     have:(a,b)∈l:=by
      have h:l[k]=(a,b):=by
       simp only[Bool.and_eq_true,beq_iff_eq] at hq
       exact Prod.ext hq.1.symm hq.2.symm
      rw[←h];exact gM hlt
     show decide _=_
     simp[mA,this]
    go_wp2
    go_quiet (fail)
    go_wp2
    go_ret
    exact ⟨_,rfl,hfin,(ci hgr).trans ⟨nq,#[],by rw[grow_empty]⟩⟩
  ·have hltz:¬(k:Int)<(l.length:Int):=by omega
   have hfin:Hid (decide ((0:Int)≤ -1)=mA l (a,b)):=by
    have:(a,b) ∉ l:=by
     intro h
     obtain ⟨j,hj,e⟩:=List.getElem_of_mem h
     exact hno j hj (by omega) e
    show decide _=_
    simp[mA,this]
   go_wp2
   go_ret
   exact ⟨_,rfl,hfin,ci hgr⟩

theorem gz (l:List (Int×Int)) (A:Option Addr) (cap:Nat) (x:Int×Int) (w:World) (hl:l.length≤maxLen) (hr:Row w A l) :
  Calls S 93 #[J A l.length cap,H #[V I x.1,V I x.2]] w fun e w'=>e= Z (Y (mA l x))∧Gr w w':=by
 go_enter Tryz.func93,Tryz.ntmps93
 go_wp2_with fail
 refine (uN l A cap x _ hl (hr.gr ((gR _).alloc _))).mono ?_
 rintro e w' ⟨r,rfl,hrr,hg⟩
 go_wp2
 go_ret
 exact ⟨by rw[←hrr.out];rfl,ci hg⟩

theorem uD (l m:List (Int×Int)) (A B:Option Addr) (cap dap:Nat) (w:World) (hl:l.length≤maxLen) (hm:m.length≤maxLen) (hr:Row w A l) (hs:Row w B m) :
  Calls S 58 #[J A l.length cap,J B m.length dap] w fun e w'=>e= Z (Y (eqL l m))∧Gr w w':=by
 unfold maxLen at hl hm
 have hE:=xA
 have hG:=mu
 by_cases hlen:l.length=m.length
 ·have hlz:((l.length:Int) != (m.length:Int))=false:=by rw[hlen];simp
  have hlH:Hid (l.length=m.length):=hlen
  clear hlen
  go_enter Tryz.func58,Tryz.ntmps58
  go_wp2
  go_loopw [13] (fun i wr=>∃k:Nat,k≤l.length∧i= V I k∧Hid (∀j (h:j<l.length) (h':j<m.length),j<k→l[j]=m[j])∧Gr w wr) (fun i _=>l.length-(intOf i).toNat)
  case atStart=>exact ⟨0,nZ _,rfl,fun j _ _ hj=>absurd hj (Nat.not_lt_zero _),gR _⟩
  case round =>
   obtain ⟨k,hk,rfl,hno,hgr⟩:=hrel
   by_cases hlt:k<l.length
   ·have hltz:(k:Int)<(l.length:Int):=by omega
    have hlt2:k<m.length:=by have:=hlH.out;omega
    have hltz2:(k:Int)<(m.length:Int):=by omega
    obtain ⟨bb,off,rfl,hb,hcs⟩:=(hr.gr hgr).at hlt
    obtain ⟨bb2,off2,rfl,hb2,hcs2⟩:=(hs.gr hgr).at hlt2
    have e0:=(hcs k hlt).1
    have e1:=(hcs k hlt).2
    have f0:=(hcs2 k hlt2).1
    have f1:=(hcs2 k hlt2).2
    clear hcs hcs2
    cases hq:((l[k]).1==(m[k]).1 && (l[k]).2==(m[k]).2)
    ·have hfin:Hid (eqL l m=false):=by
      show eqL l m=false
      simp only[eqL,decide_eq_false_iff_not]
      intro h
      subst h
      simp at hq
     go_wp2
     go_quiet (fail)
     go_wp2
     go_ret
     rw[hfin.out]
     exact ⟨rfl,hgr.trans ⟨nq,#[],by rw[grow_empty]⟩⟩
    ·have hne:Hid (l[k]=m[k]):=by
      simp only[Bool.and_eq_true,beq_iff_eq] at hq
      exact Prod.ext hq.1 hq.2
     go_wp2
     go_quiet (fail)
     go_wp2
     go_roundw
     case rel =>
      refine ⟨k+1,by omega,by go_num,?_,hgr.trans ⟨nq,#[],by rw[grow_empty]⟩⟩
      intro j hj hj' hjk
      by_cases e:j=k
      ·subst e;exact hne
      ·exact hno j hj hj' (by omega)
     case measure=>simp[intOf];omega
   ·have hltz:¬(k:Int)<(l.length:Int):=by omega
    have hfin:Hid (eqL l m=true):=by
     show eqL l m=true
     simp only[eqL,decide_eq_true_eq]
     exact List.ext_getElem hlH.out fun j h1 h2=>hno j h1 h2 (by omega)
    go_wp2
    go_ret
    rw[hfin.out]
    exact ⟨rfl,hgr⟩
 ·have hlz:((l.length:Int) != (m.length:Int))=true:=by simp;omega
  have hfin:Hid (eqL l m=false):=by
   show eqL l m=false
   simp only[eqL,decide_eq_false_iff_not]
   intro h
   exact hlen (by rw[h])
  clear hlen
  go_enter Tryz.func58,Tryz.ntmps58
  go_wp2
  go_ret
  rw[hfin.out]
  exact ⟨rfl,gR _⟩

end Go.Proofs.YtkefkplnamkicaaGreatDoor
