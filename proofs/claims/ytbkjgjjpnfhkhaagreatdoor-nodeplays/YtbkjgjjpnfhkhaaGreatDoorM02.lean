import Derived.Test.YtbkjgjjpnfhkhaaGreatDoorM01
set_option maxRecDepth 100000
set_option maxHeartbeats 8000000
open Go renaming World → S, Addr → Y, Calls → U, Value → L
open Go.Ending renaming returned → Z
open Go.IntKind renaming i64 → I
open Go.Obj renaming cells → J
open Go.Proofs.Tryz renaming prog → O
open Go.RowKit renaming Hid → K, Below → M
open Go.Value renaming int → V, slice → H, agg → P, bool → Q
namespace Go.Proofs.YtbkjgjjpnfhkhaaGreatDoor
open Go.RowKit Go.Sort

structure CtxAt (w:S) (B:Nat) (c:Ctx) (A:Option Y) (cap:Nat):Prop where
 k0:w.cell? ⟨B,0,none⟩=some (V I c.c0)
 k1:w.cell? ⟨B,1,none⟩=some (V I c.c1)
 k2:w.cell? ⟨B,2,none⟩=some (V I c.c2)
 k3:w.cell? ⟨B,3,none⟩=some (V I c.c3)
 k4:w.cell? ⟨B,4,none⟩=some (H A c.l.length cap)
 lt:B<w.heap.size
 row:Row w A c.l

theorem CtxAt.below {w w':S} {B:Nat} {c:Ctx} {A:Option Y} {cap:Nat} (h:CtxAt w B c A cap) (k:jb2 w w'):CtxAt w' B c A cap :=
 ⟨(k.cell (p:=(jb5 B 0)) h.lt).trans h.k0,(k.cell (p:=(jb5 B 1)) h.lt).trans h.k1,(k.cell (p:=(jb5 B 2)) h.lt).trans h.k2,(k.cell (p:=(jb5 B 3)) h.lt).trans h.k3,(k.cell (p:=(jb5 B 4)) h.lt).trans h.k4,nL h.lt k.size,h.row.below k⟩
theorem CtxAt.gr {w w':S} {B:Nat} {c:Ctx} {A:Option Y} {cap:Nat} (h:CtxAt w B c A cap) (k:Gr w w'):CtxAt w' B c A cap:=h.below k.below
theorem CtxAt.new {w:S} {c:Ctx} {A:Option Y} {cap:Nat} (T:TypeId) (h:Row w A c.l) {B:Nat} (d:w.heap.size=B):CtxAt (w.alloc (J (ja7 c A cap) T)) B c A cap:=by subst d;exact ⟨ab (gR _) rfl,ab (gR _) rfl,ab (gR _) rfl,ab (gR _) rfl,ab (gR _) rfl,by simp,h.gr ((gR _).alloc _)⟩

structure DotAt (w:S) (B:Nat) (x y:Int):Prop where
 k0:w.cell? ⟨B,0,none⟩=some (V I x)
 k1:w.cell? ⟨B,1,none⟩=some (V I y)
 lt:B<w.heap.size
theorem DotAt.below {w w':S} {B:Nat} {x y:Int} (h:DotAt w B x y) (k:jb2 w w'):DotAt w' B x y :=
 ⟨(k.cell (p:=(jb5 B 0)) h.lt).trans h.k0,(k.cell (p:=(jb5 B 1)) h.lt).trans h.k1,nL h.lt k.size⟩
theorem DotAt.gr {w w':S} {B:Nat} {x y:Int} (h:DotAt w B x y) (k:Gr w w'):DotAt w' B x y:=h.below k.below
theorem DotAt.new {w:S} {x y:Int} (T:TypeId) {B:Nat} (c:w.heap.size=B):DotAt (w.alloc (J #[V I x,V I y] T)) B x y:=by subst c;exact ⟨ab (gR _) rfl,ab (gR _) rfl,by simp⟩

theorem CtxAt.set {w:S} {B:Nat} {d:Ctx} {D:Option Y} {g:Nat} (h:CtxAt w B d D g) {c:Ctx} {A:Option Y} {cap:Nat} (u:Row w A c.l) (f:∀a,A=some a->a.block≠B) :
  CtxAt (((((w.jb3 B 0 (V I c.c0)).jb3 B 1 (V I c.c1)).jb3 B 2 (V I c.c2)).jb3 B 3 (V I c.c3)).jb3 B 4 (H A c.l.length cap)) B c A cap:=by
 have j:=h.k0;have k:=h.k1;have m:=h.k2;have n:=h.k3;have r:=h.k4;refine ⟨?_,?_,?_,?_,?_,by simpa[World.setCell] using h.lt,((((u.setCell _ f).setCell _ f).setCell _ f).setCell _ f).setCell _ f⟩
 ·exact aa (aa (aa (aa (aa j))))
 ·exact aa (aa (aa (aa (aa k))))
 ·exact aa (aa (aa (aa (aa m))))
 ·exact aa (aa (aa (aa (aa n))))
 ·exact aa (aa (aa (aa (aa r))))

theorem DotAt.set {w:S} {B:Nat} {x y c d:Int} (h:DotAt w B x y):DotAt ((w.jb3 B 0 (V I c)).jb3 B 1 (V I d)) B c d:=by
 refine ⟨?_,?_,by simpa[World.setCell] using h.lt⟩
 ·exact aa (aa h.k0)
 ·exact aa (aa h.k1)

theorem CtxAt.other {w:S} {B:Nat} {c:Ctx} {A:Option Y} {cap:Nat} (h:CtxAt w B c A cap) {f j:Nat} (u:L) (k:B≠f) (g:∀a,A=some a->c.l≠[]->a.block≠f):CtxAt (w.jb3 f j u) B c A cap:=by have d:∀i,(w.jb3 f j u).cell? (jb5 B i)=w.cell? (jb5 B i):=fun i=>World.cell?_setCell_other _ _ _ _ (by intro e;injection e with e1;exact k e1.symm);exact ⟨(d 0).trans h.k0,(d 1).trans h.k1,(d 2).trans h.k2,(d 3).trans h.k3,(d 4).trans h.k4,by simpa[World.setCell] using h.lt,h.row.setCell0 _ g⟩
theorem DotAt.other {w:S} {B:Nat} {x y:Int} (h:DotAt w B x y) {c j:Nat} (u:L) (f:B≠c):DotAt (w.jb3 c j u) B x y:=by have d:∀i,(w.jb3 c j u).cell? (jb5 B i)=w.cell? (jb5 B i):=fun i=>World.cell?_setCell_other _ _ _ _ (by intro e;injection e with e1;exact f e1.symm);exact ⟨(d 0).trans h.k0,(d 1).trans h.k1,by simpa[World.setCell] using h.lt⟩

theorem CtxAt.other5 {w:S} {B:Nat} {c:Ctx} {A:Option Y} {cap:Nat} (h:CtxAt w B c A cap) {d:Nat} (u0 u1 u2 u3 u4:L) (g:B≠d) (f:∀a,A=some a->c.l≠[]->a.block≠d) :
  CtxAt (((((w.jb3 d 0 u0).jb3 d 1 u1).jb3 d 2 u2).jb3 d 3 u3).jb3 d 4 u4) B c A cap :=
 ((((h.other u0 g f).other u1 g f).other u2 g f).other u3 g f).other u4 g f
theorem DotAt.other5 {w:S} {B:Nat} {x y:Int} (h:DotAt w B x y) {c:Nat} (u0 u1 u2 u3 u4:L) (d:B≠c) :
  DotAt (((((w.jb3 c 0 u0).jb3 c 1 u1).jb3 c 2 u2).jb3 c 3 u3).jb3 c 4 u4) B x y :=
 ((((h.other u0 d).other u1 d).other u2 d).other u3 d).other u4 d
theorem au {B:Nat} {a w:S} (h:M B a w) {c:Nat} (d:B<=c) (u0 u1 u2 u3 u4:L):M B a (((((w.jb3 c 0 u0).jb3 c 1 u1).jb3 c 2 u2).jb3 c 3 u3).jb3 c 4 u4) :=
 ((((h.setCell d u0).setCell d u1).setCell d u2).setCell d u3).setCell d u4

structure ZAt (w:S) (B:Nat):Prop where
 k0:w.cell? ⟨B,0,none⟩=some (V I 0)
 k1:w.cell? ⟨B,1,none⟩=some (V I 0)
 k2:w.cell? ⟨B,2,none⟩=some (V I 0)
 k3:w.cell? ⟨B,3,none⟩=some (V I 0)
 k4:w.cell? ⟨B,4,none⟩=some (H none 0 0)
 fz:∀j,w.frozen? ⟨B,j,none⟩=false
 lt:B<w.heap.size
theorem ZAt.new (W:S) (T:TypeId) {B:Nat} (c:W.heap.size=B):ZAt (W.alloc (J #[V I 0,V I 0,V I 0,V I 0,H none 0 0] T)) B:=by subst c;exact ⟨ab (gR _) rfl,ab (gR _) rfl,ab (gR _) rfl,ab (gR _) rfl,ab (gR _) rfl,fun j=>ee (gR _) j,by simp⟩
theorem ZAt.below {w w':S} {B:Nat} (h:ZAt w B) (k:jb2 w w'):ZAt w' B :=
 ⟨(k.cell (p:=(jb5 B 0)) h.lt).trans h.k0,(k.cell (p:=(jb5 B 1)) h.lt).trans h.k1,(k.cell (p:=(jb5 B 2)) h.lt).trans h.k2,(k.cell (p:=(jb5 B 3)) h.lt).trans h.k3,(k.cell (p:=(jb5 B 4)) h.lt).trans h.k4,fun j=>(k.frozen (p:=(jb5 B j)) h.lt).trans (h.fz j),nL h.lt k.size⟩
theorem ZAt.ctx {w:S} {B:Nat} (h:ZAt w B):CtxAt w B ⟨0,0,0,0,[]⟩ none 0:=⟨h.k0,h.k1,h.k2,h.k3,h.k4,h.lt,oL rfl⟩
theorem ZAt.other5 {w:S} {B:Nat} (h:ZAt w B) {c:Nat} (u0 u1 u2 u3 u4:L) (f:B≠c) :
  ZAt (((((w.jb3 c 0 u0).jb3 c 1 u1).jb3 c 2 u2).jb3 c 3 u3).jb3 c 4 u4) B:=by have d:=h.ctx.other5 u0 u1 u2 u3 u4 f (fun a g=>by cases g);exact ⟨d.k0,d.k1,d.k2,d.k3,d.k4,fun j=>by simp only[World.frozen?_setCell];exact h.fz j,d.lt⟩


abbrev Cel:=(Int×Int)×Int×Int×Int
def ex (x:Cel):List L:=[V I x.1.1,V I x.1.2,V I x.2.1,V I x.2.2.1,V I x.2.2.2]
theorem cO (x:Cel):(ex x).length=5:=rfl
theorem ji (x:Cel):∀u∈ex x,u.oneCell'=true:=by intro u c;simp[ex] at c;rcases c with rfl|rfl|rfl|rfl|rfl<;>rfl

structure Tab where
 c:Ctx
 e:List Cel

abbrev av (w:S) (A:Option Y) (l:List Cel):Prop:=aC ex 5 w A l

theorem av.get {w:S} {A:Option Y} {l:List Cel} (h:av w A l) {k:Nat} (n:k<l.length):∃b c,A=some (jb5 b c)/\b<w.heap.size/\∀j (h:j<l.length),
  jb1 w b (c+j*5) (V I l[j].1.1)/\jb1 w b (c+j*5+1) (V I l[j].1.2)/\jb1 w b (c+j*5+2) (V I l[j].2.1)/\jb1 w b (c+j*5+3) (V I l[j].2.2.1)/\jb1 w b (c+j*5+4) (V I l[j].2.2.2):=by obtain ⟨b,c,g,m,d⟩:=h.at n;exact ⟨b,c,g,m,fun j f=>⟨d j f 0 (by omega),d j f 1 (by omega),d j f 2 (by omega),d j f 3 (by omega),d j f 4 (by omega)⟩⟩

def aF (k c v:Int):Bool:=inB k 0 49 && inB c 0 2 && inB v (-1000) 1000
def dE (t:Tab) (k:Nat):Bool :=
 ax t.c (t.e.getD k ((0,0),0,0,0)).1 && aF (t.e.getD k ((0,0),0,0,0)).2.1 (t.e.getD k ((0,0),0,0,0)).2.2.1 (t.e.getD k ((0,0),0,0,0)).2.2.2 && (k==0 || bj (t.e.getD (k-1) ((0,0),0,0,0)).1 (t.e.getD k ((0,0),0,0,0)).1)

def ay (t:Tab):Int:=if aU t.c≠0 then aU t.c else if 400<t.e.length then 2 else if (List.range t.e.length).all (dE t) then 0 else 5

theorem py {t:Tab} (h:aU t.c≠0):ay t=aU t.c:=by simp[ay,h]
theorem lF {t:Tab} (h:aU t.c=0) (d:400<t.e.length):ay t=2:=by simp[ay,h,d]
theorem dP {t:Tab} (h:aU t.c=0) (l:t.e.length<=400) {k:Nat} (j:k<t.e.length) (g:dE t k=false):ay t=5:=by
 have d:¬ 400<t.e.length:=by omega
 have f:(List.range t.e.length).all (dE t)=false:=by rw[List.all_eq_false];exact ⟨k,by simpa using j,by simp[g]⟩
 simp[ay,h,d,f]
theorem ox {t:Tab} (h:aU t.c=0) (l:t.e.length<=400) (g:∀k,k<t.e.length->dE t k=true):ay t=0:=by
 have d:¬ 400<t.e.length:=by omega
 have f:(List.range t.e.length).all (dE t)=true:=by rw[List.all_eq_true];intro k j;exact g k (by simpa using j)
 simp[ay,h,d,f]
theorem af {t:Tab} (h:ay t=0):aU t.c=0/\t.e.length<=400/\∀k,k<t.e.length->dE t k=true:=by
 unfold ay at h;by_cases d:aU t.c=0
 ·by_cases g:400<t.e.length
  ·simp[d,g] at h
  ·by_cases f:(List.range t.e.length).all (dE t)=true
   ·refine ⟨d,by omega,fun k j=> ?_⟩;rw[List.all_eq_true] at f;exact f k (by simpa using j)
   ·simp[d,g,f] at h
 ·simp[d] at h

theorem dc {t:Tab} (h:0<t.e.length) {x:Cel} (d:t.e[0]=x):dE t 0=(ax t.c x.1 && aF x.2.1 x.2.2.1 x.2.2.2):=by subst d;simp[dE,h]
theorem co {t:Tab} {m:Nat} (h:m+1<t.e.length) {x y:Cel} (f:t.e[m+1]=x) (g:t.e[m]=y):dE t (m+1)=(ax t.c x.1 && aF x.2.1 x.2.2.1 x.2.2.2 && bj y.1 x.1):=by
 subst f g;have d:m<t.e.length:=by omega
 simp[dE,h,d]

structure TabAt (w:S) (B:Nat) (t:Tab) (A:Option Y) (ca:Nat) (D:Option Y) (cd:Nat):Prop where
 k0:w.cell? ⟨B,0,none⟩=some (V I t.c.c0)
 k1:w.cell? ⟨B,1,none⟩=some (V I t.c.c1)
 k2:w.cell? ⟨B,2,none⟩=some (V I t.c.c2)
 k3:w.cell? ⟨B,3,none⟩=some (V I t.c.c3)
 k4:w.cell? ⟨B,4,none⟩=some (H A t.c.l.length ca)
 k5:w.cell? ⟨B,5,none⟩=some (H D t.e.length cd)
 lt:B<w.heap.size
 row:Row w A t.c.l
 rowC:av w D t.e

theorem TabAt.belowB {w w':S} {B N:Nat} {t:Tab} {A:Option Y} {ca:Nat} {D:Option Y} {cd:Nat} (h:TabAt w B t A ca D cd) (k:M N w w') (d:B<N) (f:∀a,A=some a->t.c.l≠[]->a.block<N) (g:∀a,D=some a->t.e≠[]->a.block<N):TabAt w' B t A ca D cd :=
 ⟨(k.cell (p:=(jb5 B 0)) d).trans h.k0,(k.cell (p:=(jb5 B 1)) d).trans h.k1,(k.cell (p:=(jb5 B 2)) d).trans h.k2,(k.cell (p:=(jb5 B 3)) d).trans h.k3,(k.cell (p:=(jb5 B 4)) d).trans h.k4,(k.cell (p:=(jb5 B 5)) d).trans h.k5,nL h.lt k.size,h.row.belowB f k,h.rowC.belowB g k⟩
theorem TabAt.below {w w':S} {B:Nat} {t:Tab} {A:Option Y} {ca:Nat} {D:Option Y} {cd:Nat} (h:TabAt w B t A ca D cd) (k:jb2 w w'):TabAt w' B t A ca D cd:=h.belowB k h.lt h.row.lt h.rowC.lt
theorem TabAt.gr {w w':S} {B:Nat} {t:Tab} {A:Option Y} {ca:Nat} {D:Option Y} {cd:Nat} (h:TabAt w B t A ca D cd) (k:Gr w w'):TabAt w' B t A ca D cd:=h.below k.below
theorem TabAt.new {w:S} {t:Tab} {A:Option Y} {ca:Nat} {D:Option Y} {cd:Nat} (T:TypeId) (h:Row w A t.c.l) (g:av w D t.e) {B:Nat} (f:B=w.heap.size):TabAt (w.alloc (J #[V I t.c.c0,V I t.c.c1,V I t.c.c2,V I t.c.c3,H A t.c.l.length ca,H D t.e.length cd] T)) B t A ca D cd:=by subst f;have d:Gr w (w.alloc (J #[V I t.c.c0,V I t.c.c1,V I t.c.c2,V I t.c.c3,H A t.c.l.length ca,H D t.e.length cd] T)):=(gR w).alloc _;exact ⟨ab (gR _) rfl,ab (gR _) rfl,ab (gR _) rfl,ab (gR _) rfl,ab (gR _) rfl,ab (gR _) rfl,by simp,h.gr d,g.gr d⟩

structure CelAt (w:S) (B:Nat) (x:Cel):Prop where
 k0:w.cell? ⟨B,0,none⟩=some (V I x.1.1)
 k1:w.cell? ⟨B,1,none⟩=some (V I x.1.2)
 k2:w.cell? ⟨B,2,none⟩=some (V I x.2.1)
 k3:w.cell? ⟨B,3,none⟩=some (V I x.2.2.1)
 k4:w.cell? ⟨B,4,none⟩=some (V I x.2.2.2)
 lt:B<w.heap.size
theorem CelAt.belowB {w w':S} {B N:Nat} {x:Cel} (h:CelAt w B x) (k:M N w w') (c:B<N):CelAt w' B x :=
 ⟨(k.cell (p:=(jb5 B 0)) c).trans h.k0,(k.cell (p:=(jb5 B 1)) c).trans h.k1,(k.cell (p:=(jb5 B 2)) c).trans h.k2,(k.cell (p:=(jb5 B 3)) c).trans h.k3,(k.cell (p:=(jb5 B 4)) c).trans h.k4,nL h.lt k.size⟩
theorem CelAt.below {w w':S} {B:Nat} {x:Cel} (h:CelAt w B x) (k:jb2 w w'):CelAt w' B x:=h.belowB k h.lt
theorem CelAt.gr {w w':S} {B:Nat} {x:Cel} (h:CelAt w B x) (k:Gr w w'):CelAt w' B x:=h.below k.below
theorem CelAt.new {w:S} (x:Cel) (T:TypeId) {B:Nat} (c:B=w.heap.size):CelAt (w.alloc (J #[V I x.1.1,V I x.1.2,V I x.2.1,V I x.2.2.1,V I x.2.2.2] T)) B x:=by subst c;exact ⟨ab (gR _) rfl,ab (gR _) rfl,ab (gR _) rfl,ab (gR _) rfl,ab (gR _) rfl,by simp⟩

abbrev T6 (t:Tab) (A:Option Y) (a:Nat) (C:Option Y) (c:Nat):List L:=[V I t.c.c0,V I t.c.c1,V I t.c.c2,V I t.c.c3,H A t.c.l.length a,H C t.e.length c]
abbrev T2 (t:Tab) (A:Option Y) (a:Nat) (C:Option Y) (c:Nat) (s:Tab) (B:Option Y) (b:Nat) (D:Option Y) (d:Nat):List L:=[V I t.c.c0,V I t.c.c1,V I t.c.c2,V I t.c.c3,H A t.c.l.length a,H C t.e.length c,V I s.c.c0,V I s.c.c1,V I s.c.c2,V I s.c.c3,H B s.c.l.length b,H D s.e.length d]
abbrev Z6:List L:=[V I 0,V I 0,V I 0,V I 0,H none 0 0,H none 0 0]
abbrev Z2:List L:=[V I 0,V I 0,V I 0,V I 0,H none 0 0,H none 0 0,V I 0,V I 0,V I 0,V I 0,H none 0 0,H none 0 0]

theorem dw (n:Int) (w:S) :
  U O 106 #[V I n] w fun e w'=>e= Z (Q (inB n 0 3))/\w'=w:=by
 by_cases c:0<=n
 ·by_cases d:n<4
  ·have e:inB n 0 3=true:=(by simp[inB];omega);rw[e];clear e;go_enter Tryz.func106,Tryz.ntmps106;go_wp2;go_ret;exact ⟨rfl,rfl⟩
  ·have e:inB n 0 3=false:=(by simp[inB];omega);rw[e];clear e;go_enter Tryz.func106,Tryz.ntmps106;go_wp2;go_ret;exact ⟨rfl,rfl⟩
 ·have e:inB n 0 3=false:=by simp[inB];omega
  rw[e];clear e;go_enter Tryz.func106,Tryz.ntmps106;go_wp2;go_ret;exact ⟨rfl,rfl⟩

theorem qS (x:Int×Int) (w:S) :
  U O 104 #[P #[V I x.1,V I x.2]] w fun e w'=>e= Z (Q (ai x))/\Gr w w':=by
 obtain ⟨a,b⟩:=x;cases c:inB a 0 3
 ·have e:ai (a,b)=false:=by simp[ai,c]
  rw[e];clear e;go_enter Tryz.func104,Tryz.ntmps104;go_wp2_with (go_at_call 106;refine (dw _ _).mono ?_;rintro e w' ⟨rfl,rfl⟩;rw[c]);go_ret;exact ⟨rfl,(gR _).alloc _⟩
 ·by_cases f:1<=b
  ·by_cases d:b<=1099511627776
   ·have e:ai (a,b)=true:=(by unfold ai;rw[c];simp[inB,f,d]);rw[e];clear e;go_enter Tryz.func104,Tryz.ntmps104;go_wp2_with (go_at_call 106;refine (dw _ _).mono ?_;rintro e w' ⟨rfl,rfl⟩;rw[c]);go_ret;exact ⟨rfl,(gR _).alloc _⟩
   ·have e:ai (a,b)=false:=(by unfold ai;rw[c];simp[inB,d]);rw[e];clear e;have g:decide (b<=1099511627776)=false:=by simpa using d
    go_enter Tryz.func104,Tryz.ntmps104;go_wp2_with (go_at_call 106;refine (dw _ _).mono ?_;rintro e w' ⟨rfl,rfl⟩;rw[c]);go_ret;exact ⟨rfl,(gR _).alloc _⟩
  ·have e:ai (a,b)=false:=(by unfold ai;rw[c];simp[inB,f]);rw[e];clear e;go_enter Tryz.func104,Tryz.ntmps104;go_wp2_with (go_at_call 106;refine (dw _ _).mono ?_;rintro e w' ⟨rfl,rfl⟩;rw[c]);go_ret;exact ⟨rfl,(gR _).alloc _⟩

def bf (x y:Int):Int:=if x<y then -1 else if y<x then 1 else 0
def eM (x y:Int×Int):Int:=if x.1<y.1 then -1 else if y.1<x.1 then 1 else bf x.2 y.2

theorem jh (x y:Int) (w:S) :
  U O 133 #[V I x,V I y] w fun e w'=>e= Z (V I (bf x y))/\w'=w:=by
 by_cases c:x<y
 ·have e:bf x y= -1:=by simp[bf,c]
  rw[e];clear e;go_enter Tryz.func133,Tryz.ntmps133;go_wp2;go_ret;exact ⟨rfl,rfl⟩
 ·by_cases d:y<x
  ·have e:bf x y=1:=(by simp[bf,c,d]);rw[e];clear e;go_enter Tryz.func133,Tryz.ntmps133;go_wp2;go_ret;exact ⟨rfl,rfl⟩
  ·have e:bf x y=0:=(by simp[bf,c,d]);rw[e];clear e;go_enter Tryz.func133,Tryz.ntmps133;go_wp2;go_ret;exact ⟨rfl,rfl⟩

theorem jQ (x y:Int×Int) (w:S) :
  U O 105 #[P #[V I x.1,V I x.2],P #[V I y.1,V I y.2]] w fun e w'=>e= Z (V I (eM x y))/\Gr w w':=by
 obtain ⟨a,b⟩:=x;obtain ⟨c,d⟩:=y;by_cases f:a<c
 ·have e:eM (a,b) (c,d)= -1:=by simp[eM,f]
  have g:bf a c= -1:=by simp[bf,f]
  rw[e];clear e;go_enter Tryz.func105,Tryz.ntmps105;go_wp2_with (go_at_call 133;refine (jh _ _ _).mono ?_;rintro e w' ⟨rfl,rfl⟩;rw[g]);go_ret;exact ⟨rfl,((gR _).alloc _).alloc _⟩
 ·by_cases h:c<a
  ·have e:eM (a,b) (c,d)=1:=(by simp[eM,f,h]);have g:bf a c=1:=by simp[bf,f,h]
   rw[e];clear e;go_enter Tryz.func105,Tryz.ntmps105;go_wp2_with (go_at_call 133;refine (jh _ _ _).mono ?_;rintro e w' ⟨rfl,rfl⟩;rw[g]);go_ret;exact ⟨rfl,((gR _).alloc _).alloc _⟩
  ·have e:eM (a,b) (c,d)=bf b d:=(by simp[eM,f,h]);have g:bf a c=0:=by simp[bf,f,h]
   rw[e];clear e;go_enter Tryz.func105,Tryz.ntmps105;go_wp2_with fail;refine (jh _ _ _).mono ?_;rintro e w' ⟨rfl,rfl⟩;rw[g];go_wp2_with fail;refine (jh _ _ _).mono ?_;rintro e w' ⟨rfl,rfl⟩;go_wp2;go_ret;exact ⟨rfl,((gR _).alloc _).alloc _⟩

theorem ie {a b:Int} {r:Bool} (h:ai (a,b)=r) (w:S):U O 104 #[P #[V I a,V I b]] w fun e w'=>e= Z (Q r)/\∃q c,w'=grow (w.drewN q) c:=by rw[<-h];exact qS (a,b) w
theorem sp {a b c d:Int} {r:Int} (h:eM (a,b) (c,d)=r) (w:S):U O 105 #[P #[V I a,V I b],P #[V I c,V I d]] w fun e w'=>e= Z (V I r)/\∃q f,w'=grow (w.drewN q) f:=by rw[<-h];exact jQ (a,b) (c,d) w
theorem gn {n:Int} {r:Bool} (h:inB n 0 3=r) (w:S) :
  U O 106 #[V I n] w fun e w'=>e= Z (Q r)/\w'=w:=by rw[<-h];exact dw n w
theorem ip {x y:Int×Int} (h:bj x y=true):eM x y= -1:=by
 unfold bj at h;unfold eM bf;by_cases c:x.1<y.1
 ·simp[c]
 ·simp[c] at h;have d:¬y.1<x.1:=by omega
  simp[h.2,c,d]
theorem iq {x y:Int×Int} (h:bj x y=false):0<=eM x y:=by
 unfold bj at h;simp at h;unfold eM bf;have c:¬x.1<y.1:=by omega
 by_cases d:y.1<x.1
 ·simp[c,d]
 ·have f:¬x.2<y.2:=by have:=h.2 (by omega);omega
  by_cases g:y.2<x.2<;>simp[c,d,f,g]


theorem eK (n:Int) (w:S) :
  U O 83 #[V I n] w fun e w'=>e= Z (Q (inB n 0 49))/\w'=w:=by
 by_cases c:0<=n
 ·by_cases d:n<50
  ·have e:inB n 0 49=true:=(by simp[inB];omega);rw[e];clear e;go_enter Tryz.func83,Tryz.ntmps83;go_wp2;go_ret;exact ⟨rfl,rfl⟩
  ·have e:inB n 0 49=false:=(by simp[inB];omega);rw[e];clear e;go_enter Tryz.func83,Tryz.ntmps83;go_wp2;go_ret;exact ⟨rfl,rfl⟩
 ·have e:inB n 0 49=false:=by simp[inB];omega
  rw[e];clear e;go_enter Tryz.func83,Tryz.ntmps83;go_wp2;go_ret;exact ⟨rfl,rfl⟩

theorem rm (k c v:Int) (w:S) :
  U O 78 #[V I k,V I c,V I v] w fun e w'=>e= Z (Q (aF k c v))/\w'=w:=by
 cases d:inB k 0 49
 ·have e:aF k c v=false:=by simp[aF,d]
  rw[e];clear e;go_enter Tryz.func78,Tryz.ntmps78;go_wp2_with (go_at_call 83;refine (eK _ _).mono ?_;rintro e w' ⟨rfl,rfl⟩;rw[d]);go_ret;exact ⟨rfl,rfl⟩
 ·by_cases h:0<=c
  ·by_cases j:c<3
   ·by_cases l: -1000<=v
    ·by_cases f:v<=1000
     ·have e:aF k c v=true:=(by unfold aF;rw[d];simp[inB];omega);rw[e];clear e;go_enter Tryz.func78,Tryz.ntmps78;go_wp2_with (go_at_call 83;refine (eK _ _).mono ?_;rintro e w' ⟨rfl,rfl⟩;rw[d]);go_ret;exact ⟨rfl,rfl⟩
     ·have e:aF k c v=false:=(by unfold aF;rw[d];simp[inB];omega);rw[e];clear e;have g:decide (v<=1000)=false:=by simpa using f
      go_enter Tryz.func78,Tryz.ntmps78;go_wp2_with (go_at_call 83;refine (eK _ _).mono ?_;rintro e w' ⟨rfl,rfl⟩;rw[d]);go_ret;exact ⟨rfl,rfl⟩
    ·have e:aF k c v=false:=(by unfold aF;rw[d];simp[inB];omega);rw[e];clear e;go_enter Tryz.func78,Tryz.ntmps78;go_wp2_with (go_at_call 83;refine (eK _ _).mono ?_;rintro e w' ⟨rfl,rfl⟩;rw[d]);go_ret;exact ⟨rfl,rfl⟩
   ·have e:aF k c v=false:=(by unfold aF;rw[d];simp[inB];omega);rw[e];clear e;go_enter Tryz.func78,Tryz.ntmps78;go_wp2_with (go_at_call 83;refine (eK _ _).mono ?_;rintro e w' ⟨rfl,rfl⟩;rw[d]);go_ret;exact ⟨rfl,rfl⟩
  ·have e:aF k c v=false:=(by unfold aF;rw[d];simp[inB];omega);rw[e];clear e;go_enter Tryz.func78,Tryz.ntmps78;go_wp2_with (go_at_call 83;refine (eK _ _).mono ?_;rintro e w' ⟨rfl,rfl⟩;rw[d]);go_ret;exact ⟨rfl,rfl⟩

theorem mj (x y:Cel) (w:S) :
  U O 86 #[P #[V I x.1.1,V I x.1.2,V I x.2.1,V I x.2.2.1,V I x.2.2.2],P #[V I y.1.1,V I y.1.2,V I y.2.1,V I y.2.2.1,V I y.2.2.2]] w fun e w'=>e= Z (V I (eM x.1 y.1))/\Gr w w':=by go_enter Tryz.func86,Tryz.ntmps86;go_wp2_with fail;refine (jQ x.1 y.1 _).mono ?_;rintro e w' ⟨rfl,c⟩;go_wp2;go_ret;exact ⟨rfl,(((gR w).alloc _).alloc _).trans c⟩

theorem gw {x y:Cel} {r:Int} (h:eM x.1 y.1=r) (w:S):U O 86 #[P #[V I x.1.1,V I x.1.2,V I x.2.1,V I x.2.2.1,V I x.2.2.2],P #[V I y.1.1,V I y.1.2,V I y.2.1,V I y.2.2.1,V I y.2.2.2]] w fun e w'=>e= Z (V I r)/\∃q c,w'=grow (w.drewN q) c:=by rw[<-h];exact mj x y w
theorem gm {k c v:Int} {r:Bool} (h:aF k c v=r) (w:S) :
  U O 78 #[V I k,V I c,V I v] w fun e w'=>e= Z (Q r)/\w'=w:=by rw[<-h];exact rm k c v w
theorem sb {n:Int} {r:Bool} (h:inB n 0 49=r) (w:S) :
  U O 83 #[V I n] w fun e w'=>e= Z (Q r)/\w'=w:=by rw[<-h];exact eK n w


theorem qP {w W:S} {x y:Int} {T:TypeId} (h:Gr (w.alloc (J #[V I x,V I y] T)) W):(∀n c,jb1 (grow (W.drewN n) c) w.heap.size 0 (V I x))/\(∀n c,jb1 (grow (W.drewN n) c) w.heap.size 1 (V I y)) :=
 ⟨cw h rfl,cw h rfl⟩

theorem fj (c:Ctx) (A:Option Y) (cap:Nat) (w:S) (hl:c.l.length<=maxLen) (hr:Row w A c.l) :
  U O 66 #[P (ja7 c A cap)] w fun e w'=>e= Z (V I (aU c))/\Gr w w':=by
 unfold maxLen at hl;have r:Tryz.prog.follows .mixedOrders=true:=by kernel_rfl
 have i0:∀w,(Instr.index 29 (P #[V I c.c0,V I c.c1,V I c.c2,V I c.c3]) (V I 0)).run O w= .ok (V I (clk c 0)) w:=fun _=>by kernel_rfl
 have i1:∀w,(Instr.index 29 (P #[V I c.c0,V I c.c1,V I c.c2,V I c.c3]) (V I 1)).run O w= .ok (V I (clk c 1)) w:=fun _=>by kernel_rfl
 have i2:∀w,(Instr.index 29 (P #[V I c.c0,V I c.c1,V I c.c2,V I c.c3]) (V I 2)).run O w= .ok (V I (clk c 2)) w:=fun _=>by kernel_rfl
 have i3:∀w,(Instr.index 29 (P #[V I c.c0,V I c.c1,V I c.c2,V I c.c3]) (V I 3)).run O w= .ok (V I (clk c 3)) w:=fun _=>by kernel_rfl
 go_enter Tryz.func66,Tryz.ntmps66;go_wp2;go_loopw [9] (fun i wr=>∃k:Nat,k<=4/\i= V I k/\K (∀a:Int,0<=a->a<k->inB (clk c a) 0 1099511627776=true)/\Gr (w.alloc (J (ja7 c A cap) 32)) wr) (fun i _=>4-(intOf i).toNat);exact ⟨0,by omega,rfl,fun a h0 h1=>by omega,gR _⟩;obtain ⟨k,hk,rfl,a9,u⟩:=hrel;by_cases g:k<4
 ·have ah:(k:Int)<4:=by omega
  have ik:∀w,(Instr.index 29 (P #[V I c.c0,V I c.c1,V I c.c2,V I c.c3]) (V I k)).run O w= .ok (V I (clk c k)) w:=by
   have h4:k=0\/k=1\/k=2\/k=3:=(by omega);rcases h4 with rfl|rfl|rfl|rfl
   ·exact i0
   ·exact i1
   ·exact i2
   ·exact i3
  have bb:clk c (k:Int)<0\/1099511627776<clk c (k:Int)\/(¬clk c (k:Int)<0/\¬ 1099511627776<clk c (k:Int)):=by omega
  rcases bb with h1|h1|⟨h1,h2⟩
  ·have f:K (aU c=1):=lC (by omega) ah (by simp[inB];omega);go_wp2;go_ret;rw[f.out];exact ⟨rfl,br u⟩
  ·have f:K (aU c=1):=lC (by omega) ah (by simp[inB];omega);go_wp2;go_ret;rw[f.out];exact ⟨rfl,br u⟩
  ·have hi:K (inB (clk c (k:Int)) 0 1099511627776=true):=(by show inB _ _ _=true;simp[inB];omega);go_wp2;go_roundw;case rel =>
    refine ⟨k+1,by omega,by go_num,?_,u⟩;intro a h0 h1;by_cases e:a=(k:Int)
    ·rw[e];exact hi
    ·exact a9 a h0 (by omega)
   case measure=>simp[intOf];omega
 ·clear i0 i1 i2 i3;obtain rfl:k=4:=by omega
  have k4:=ab u (j:=4) rfl;have ba:aW c=true:=io fun a h0 h4=>a9 a h0 (by omega);by_cases a6:400<c.l.length
  ·have a3:(400:Int)<(c.l.length:Int):=(by omega);have f:=ja1 (lD ba a6);go_wp2;go_ret;rw[f.out];exact ⟨rfl,br u⟩
  ·have a3:¬(400:Int)<(c.l.length:Int):=(by omega);have E:=ja1 ba;go_wp2;go_loopw [26] (fun i wr=>∃k:Nat,k<=c.l.length/\i= V I k/\K (∀j,j<k->fD c j=true)/\Gr (w.alloc (J (ja7 c A cap) 32)) wr) (fun i _=>c.l.length-(intOf i).toNat);exact ⟨0,by omega,rfl,fun j h=>by omega,u⟩;rename S=>d;obtain ⟨k,hk,rfl,ak,u⟩:=hrel;by_cases g:k<c.l.length
   ·have ah:(k:Int)<(c.l.length:Int):=(by omega);obtain ⟨b,bd,rfl,hb,a4⟩:=(hr.gr (br u)).at g;obtain ⟨x,y,hx⟩:∃x y,c.l[k]=(x,y):=⟨_,_,rfl⟩;have e0:=(a4 k g).1;have e1:=(a4 k g).2;rw[hx] at e0 e1;have a1:=ja1 a4;have ad:=ja1 hx;cases C:ai (x,y)
    ·have f:K (aU c=5):=by
      refine eI E.out (by omega) g ?_;cases k with
      | zero=>rw[dR g ad.out,C];rfl
      | succ m=>rw[cS g ad.out rfl,C];rfl
     go_wp2;have d0:=cw (gR (d.alloc (J #[V I x,V I y] 89))) (j:=0) rfl;have d1:=cw (gR (d.alloc (J #[V I x,V I y] 89))) (j:=1) rfl;have n:=(u.alloc (J #[V I x,V I y] 89));have rG:=((gR d).alloc (J #[V I x,V I y] 89));have dG:=fun X (hX:Gr (d.alloc (J #[V I x,V I y] 89)) X)=>qP hX;have g4:=cw n (j:=4) rfl;have ap:d.heap.size<(d.alloc (J #[V I x,V I y] 89)).heap.size:=by simp
     generalize d.alloc (J #[V I x,V I y] 89)=W at d0 d1 n rG dG g4 ap ⊢;refine wp_region_quiet_grown r (by kernel_rfl) ?_;repeat (go_big_quiet_step ((go_at_call 104;refine Calls.grown_of (ie C _))))
     refine wpQuiet_nil ?_;rintro _ ⟨⟨nq,F⟩,rfl⟩;go_wp2;go_ret;rw[f.out];exact ⟨rfl,(br n).trans ⟨nq,F,rfl⟩⟩
    ·have hn:=dr C;have be:=bF E.out x hn.1 hn.2.1;by_cases hs:y<=clk c x+1
     ·have f:K (aU c=5):=by
       refine eI E.out (by omega) g ?_;cases k with
       | zero=>rw[dR g ad.out,C];simp;omega
       | succ m=>rw[cS g ad.out rfl,C];simp;omega
      go_wp2;have d0:=cw (gR (d.alloc (J #[V I x,V I y] 89))) (j:=0) rfl;have d1:=cw (gR (d.alloc (J #[V I x,V I y] 89))) (j:=1) rfl;have n:=(u.alloc (J #[V I x,V I y] 89));have rG:=((gR d).alloc (J #[V I x,V I y] 89));have dG:=fun X (hX:Gr (d.alloc (J #[V I x,V I y] 89)) X)=>qP hX;have g4:=cw n (j:=4) rfl;have gc:=cw n (dM (c:=c) hn.1 hn.2.1);have ap:d.heap.size<(d.alloc (J #[V I x,V I y] 89)).heap.size:=by simp
      generalize d.alloc (J #[V I x,V I y] 89)=W at d0 d1 n rG dG g4 gc ap ⊢;refine wp_region_quiet_grown r (by kernel_rfl) ?_;repeat (go_big_quiet_step ((go_at_call 104;refine Calls.grown_of (ie C _))))
      refine wpQuiet_nil ?_;rintro _ ⟨⟨nq,F⟩,rfl⟩;go_wp2;go_ret;rw[f.out];exact ⟨rfl,(br n).trans ⟨nq,F,rfl⟩⟩
     ·have bh:decide (y<=clk c x+1)=false:=(by simpa using hs);go_wp2;have d0:=cw (gR (d.alloc (J #[V I x,V I y] 89))) (j:=0) rfl;have d1:=cw (gR (d.alloc (J #[V I x,V I y] 89))) (j:=1) rfl;have n:=(u.alloc (J #[V I x,V I y] 89));have rG:=((gR d).alloc (J #[V I x,V I y] 89));have dG:=fun X (hX:Gr (d.alloc (J #[V I x,V I y] 89)) X)=>qP hX;have g4:=cw n (j:=4) rfl;have gc:=cw n (dM (c:=c) hn.1 hn.2.1);have ap:d.heap.size<(d.alloc (J #[V I x,V I y] 89)).heap.size:=by simp
      generalize d.alloc (J #[V I x,V I y] 89)=W at d0 d1 n rG dG g4 gc ap ⊢;refine wp_region_quiet_grown r (by kernel_rfl) ?_;repeat (go_big_quiet_step ((go_at_call 104;refine Calls.grown_of (ie C _))))
      refine wpQuiet_nil ?_;rintro _ ⟨⟨nq,F⟩,rfl⟩;have an:Gr W (grow (W.drewN nq) F):=⟨nq,F,rfl⟩;have a7:=dG _ an;have a5:=cw (n.trans an) (j:=4) rfl;have D:=n.trans an;cases k with
      | zero =>
       have ao:K (fD c 0=true):=(by show fD c 0=true;rw[dR g ad.out,C];simp;omega);obtain ⟨b0,b1⟩:=a7;generalize grow (W.drewN nq) F=W2 at b0 b1 a5 D ⊢;go_wp2;refine wp_region_quiet_grown r (by kernel_rfl) ?_;repeat (go_big_quiet_step (fail))
       refine wpQuiet_nil ?_;rintro _ ⟨⟨aL,R⟩,rfl⟩;go_wp2;go_roundw;case rel =>
        refine ⟨_,g,by go_num,?_,D.trans ⟨aL,R,rfl⟩⟩;intro j hj;by_cases e:j=0
        ·rw[e];exact ao.out
        ·exact ak j (by omega)
       case measure=>simp[intOf];omega
      | succ m =>
       obtain ⟨x',y',bc⟩:∃x' y',c.l[m]=(x',y'):=⟨_,_,rfl⟩;have f0:=(a1.out m (by omega)).1;have f1:=(a1.out m (by omega)).2;rw[bc] at f0 f1;have a2:=ja1 bc;have g0:=(rG.trans an).cellG (a:=(jb5 b (bd+m*2))) hb f0;have g1:=(rG.trans an).cellG (a:=(jb5 b (bd+m*2+1))) hb f1;obtain ⟨b0,b1⟩:=a7;generalize grow (W.drewN nq) F=W2 at b0 b1 a5 D g0 g1 ⊢;cases a0:bj (x',y') (x,y)
       ·have f:K (aU c=5):=eI E.out (by omega) g (by rw[cS g ad.out a2.out,C,a0];rfl);have a8:=iq a0;go_wp2;refine wp_region_quiet_grown r (by kernel_rfl) ?_;repeat (go_big_quiet_step ((go_at_call 105;refine Calls.grown_of (sp rfl _))))
        refine wpQuiet_nil ?_;rintro _ ⟨⟨aL,R⟩,rfl⟩;go_wp2;go_ret;rw[f.out];exact ⟨rfl,(br D).trans ⟨aL,R,rfl⟩⟩
       ·have a8:=ip a0;have ao:K (fD c (m+1)=true):=by show fD c (m+1)=true;rw[cS g ad.out a2.out,C,a0];simp;omega
        go_wp2;refine wp_region_quiet_grown r (by kernel_rfl) ?_;repeat (go_big_quiet_step ((go_at_call 105;refine Calls.grown_of (sp a8 _))))
        refine wpQuiet_nil ?_;rintro _ ⟨⟨aL,R⟩,rfl⟩;go_wp2;go_roundw;case rel =>
         refine ⟨_,g,by go_num,?_,D.trans ⟨aL,R,rfl⟩⟩;intro j hj;by_cases e:j=m+1
         ·rw[e];exact ao.out
         ·exact ak j (by omega)
        case measure=>simp[intOf];omega
   ·have ah:¬(k:Int)<(c.l.length:Int):=(by omega);have f:K (aU c=0):=ow E.out (by omega) fun j hj=>ak j (by omega);go_wp2;go_ret;rw[f.out];exact ⟨rfl,br u⟩


theorem ti (l:List (Int×Int)) (A:Option Y) (cap:Nat) (x:Int×Int) (w:S) (F:l.length<=maxLen) (R:Row w A l) :
  U O 134 #[H A l.length cap,P #[V I x.1,V I x.2]] w fun e w'=>∃r:Int,e= Z (V I r)/\K (decide (0<=r)=lV l x)/\Gr w w':=by
 obtain ⟨a,b⟩:=x;unfold maxLen at F;have hE:=vh;go_enter Tryz.func134,Tryz.ntmps134;go_wp2;go_loopw [8] (fun i wr=>∃k:Nat,k<=l.length/\i= V I k/\K (∀j (h:j<l.length),j<k->l[j]≠(a,b))/\Gr (w.alloc (J #[V I a,V I b] 89)) wr) (fun i _=>l.length-(intOf i).toNat);exact ⟨0,nZ _,rfl,fun j _ g=>absurd g (Nat.not_lt_zero _),gR _⟩;obtain ⟨k,hk,rfl,n,c⟩:=hrel;have d0:=ab c (j:=0) rfl;have d1:=ab c (j:=1) rfl;by_cases f:k<l.length
 ·have m:(k:Int)<(l.length:Int):=by omega
  obtain ⟨bb,ad,rfl,hb,C⟩:=(R.gr (br c)).at f;have e0:=(C k f).1;cases u:(a==(l[k]).1 && b==(l[k]).2)
  ·have D:K (l[k]≠(a,b)):=(by intro h;rw[h] at u;simp at u);go_wp2;go_quiet (fail);go_wp2;go_roundw;case rel =>
    refine ⟨k+1,by omega,by go_num,?_,c.trans ⟨nq,#[],by rw[grow_empty]⟩⟩;intro j g E;by_cases e:j=k
    ·subst e;exact D
    ·exact n j g (by omega)
   case measure=>simp[intOf];omega
  ·have d:K (decide ((0:Int)<=(k:Int))=lV l (a,b)):=(by have:(a,b)∈l:=(by have h:l[k]=(a,b):=(by simp only[Bool.and_eq_true,beq_iff_eq] at u;exact Prod.ext u.1.symm u.2.symm);rw[<-h];exact gM f);show decide _=_;simp[lV,this]);go_wp2;go_quiet (fail);go_wp2;go_ret;exact ⟨_,rfl,d,(br c).trans ⟨nq,#[],by rw[grow_empty]⟩⟩
 ·have m:¬(k:Int)<(l.length:Int):=by omega
  have d:K (decide ((0:Int)<= -1)=lV l (a,b)):=by have:(a,b) ∉ l:=(by intro h;obtain ⟨j,g,e⟩:=List.getElem_of_mem h;exact n j g (by omega) e);show decide _=_;simp[lV,this]
  go_wp2;go_ret;exact ⟨_,rfl,d,br c⟩

theorem gG (l:List (Int×Int)) (A:Option Y) (cap:Nat) (x:Int×Int) (w:S) (f:l.length<=maxLen) (g:Row w A l) :
  U O 107 #[H A l.length cap,P #[V I x.1,V I x.2]] w fun e w'=>e= Z (Q (lV l x))/\Gr w w':=by go_enter Tryz.func107,Tryz.ntmps107;go_wp2_with fail;refine (ti l A cap x _ f (g.gr ((gR _).alloc _))).mono ?_;rintro e w' ⟨r,rfl,c,d⟩;go_wp2;go_ret;exact ⟨by rw[<-c.out];rfl,br d⟩

theorem sU (l m:List (Int×Int)) (A B:Option Y) (cap E:Nat) (w:S) (hl:l.length<=maxLen) (hm:m.length<=maxLen) (hr:Row w A l) (hs:Row w B m) :
  U O 37 #[H A l.length cap,H B m.length E] w fun e w'=>e= Z (Q (eqL l m))/\Gr w w':=by
 unfold maxLen at hl hm;have hE:=wu;by_cases f:l.length=m.length
 ·have ah:((l.length:Int) != (m.length:Int))=false:=by rw[f];simp
  have g:=ja1 f;go_enter Tryz.func37,Tryz.ntmps37;go_wp2;go_loopw [13] (fun i wr=>∃k:Nat,k<=l.length/\i= V I k/\K (∀j (h:j<l.length) (h':j<m.length),j<k->l[j]=m[j])/\Gr w wr) (fun i _=>l.length-(intOf i).toNat);exact ⟨0,nZ _,rfl,fun j _ _ R=>absurd R (Nat.not_lt_zero _),gR _⟩;obtain ⟨k,hk,rfl,C,d⟩:=hrel;by_cases n:k<l.length
  ·have u:(k:Int)<(l.length:Int):=(by omega);have r:k<m.length:=by have:=g.out;omega
   obtain ⟨bb,a1,rfl,hb,F⟩:=(hr.gr d).at n;obtain ⟨ap,ao,rfl,aL,an⟩:=(hs.gr d).at r;have e0:=(F k n).1;cases D:((l[k]).1==(m[k]).1 && (l[k]).2==(m[k]).2)
   ·have c:K (eqL l m=false):=(by show eqL l m=false;simp only[eqL,decide_eq_false_iff_not];intro h;subst h;simp at D);go_wp2;go_quiet (fail);go_wp2;go_ret;rw[c.out];exact ⟨rfl,d.trans ⟨nq,#[],by rw[grow_empty]⟩⟩
   ·have ak:K (l[k]=m[k]):=(by simp only[Bool.and_eq_true,beq_iff_eq] at D;exact Prod.ext D.1 D.2);go_wp2;go_quiet (fail);go_wp2;go_roundw;case rel =>
     refine ⟨k+1,by omega,by go_num,?_,d.trans ⟨nq,#[],by rw[grow_empty]⟩⟩;intro j R ad a0;by_cases e:j=k
     ·subst e;exact ak
     ·exact C j R ad (by omega)
    case measure=>simp[intOf];omega
  ·have u:¬(k:Int)<(l.length:Int):=(by omega);have c:K (eqL l m=true):=by show eqL l m=true;simp only[eqL,decide_eq_true_eq];exact List.ext_getElem g.out fun j h1 h2=>C j h1 h2 (by omega)
   go_wp2;go_ret;rw[c.out];exact ⟨rfl,d⟩
 ·have ah:((l.length:Int) != (m.length:Int))=true:=by simp;omega
  have c:K (eqL l m=false):=by show eqL l m=false;simp only[eqL,decide_eq_false_iff_not];intro h;exact f (by rw[h])
  go_enter Tryz.func37,Tryz.ntmps37;go_wp2;go_ret;rw[c.out];exact ⟨rfl,gR _⟩

end Go.Proofs.YtbkjgjjpnfhkhaaGreatDoor
