/-
  What is handed in, opened: a list of acts.
  Twn nodes side by side, and what is spoilt beside them.
  viewkeep.puts: is a value put told?
-/
import Derived.Test.YtkadjjmkokhldaaGreatM40
import Derived.ChangeMaps5
import Derived.Test.YtkadjjmkokhldaaGreatM39
import Derived.Test.YtkadjjmkokhldaaGreatM36
import Derived.Test.YtkadjjmkokhldaaGreatM07
import Derived.Test.YtkadjjmkokhldaaGreatM13
namespace Go.Proofs.YtkadjjmkokhldaaGreat
open Go.ChangeShapes Go.WideShapes Go.ChangeAt Go.RowKit Go.Deep

/-- An act: its kind, an edit, a packet of two tables, a query. -/
structure Actm where
 k:Int
 x1:Int
 x2:Int
 x3:Int
 x4:Int
 x5:Int
 a:Tab
 A:Option Addr
 ca:Nat
 C:Option Addr
 cc:Nat
 b:Tab
 B:Option Addr
 cb:Nat
 D:Option Addr
 cd:Nat
 q:List Stp
 Q:Option Addr
 cq:Nat
def encA (x:Actm):List Value:=[.int .i64 x.k,.int .i64 x.x1,.int .i64 x.x2,.int .i64 x.x3,.int .i64 x.x4,.int .i64 x.x5,.int .i64 x.a.c.c0,.int .i64 x.a.c.c1,.int .i64 x.a.c.c2,.int .i64 x.a.c.c3,.slice x.A x.a.c.l.length x.ca,.slice x.C x.a.e.length x.cc,.int .i64 x.b.c.c0,.int .i64 x.b.c.c1,.int .i64 x.b.c.c2,.int .i64 x.b.c.c3,.slice x.B x.b.c.l.length x.cb,.slice x.D x.b.e.length x.cd,.slice x.Q x.q.length x.cq]
theorem encA_len (x:Actm):(encA x).length=19:=rfl
/-- What an act names, in memory. -/
structure ActIn (w:World) (x:Actm):Prop where
 ra:Row w x.A x.a.c.l
 rc:RowC w x.C x.a.e
 rb:Row w x.B x.b.c.l
 rd:RowC w x.D x.b.e
 la:x.a.c.l.length≤maxLen
 lc:x.a.e.length≤maxLen
 lb:x.b.c.l.length≤maxLen
 ld:x.b.e.length≤maxLen
 na:x.A=none→x.ca=0
 nc:x.C=none→x.cc=0
 nb:x.B=none→x.cb=0
 nd:x.D=none→x.cd=0
 st:Stps w x.Q x.q
 lq:x.q.length≤maxLen
 nq:x.Q=none→x.cq=0
theorem ActIn.below {w w':World} {x:Actm} (h:ActIn w x) (k:Below w.heap.size w w'):ActIn w' x:=⟨h.ra.below k,h.rc.below k,h.rb.below k,h.rd.below k,h.la,h.lc,h.lb,h.ld,h.na,h.nc,h.nb,h.nd,h.st.below k,h.lq,h.nq⟩
/-- A list of acts in memory. -/
structure Acts (w:World) (A:Option Addr) (l:List Actm):Prop where
 row:RowG encA 19 w A l
 each:∀x∈l,ActIn w x
theorem Acts.below {w w':World} {A:Option Addr} {l:List Actm} (h:Acts w A l) (k:Below w.heap.size w w'):Acts w' A l:=⟨h.row.below k,fun x hx=>(h.each x hx).below k⟩
theorem Acts.at {w:World} {A:Option Addr} {l:List Actm} (h:Acts w A l) {j:Nat} (hj:j<l.length):∃b off,A=some ⟨b,off,none⟩∧b<w.heap.size∧∀i,i<19→w.cell? ⟨b,off+j*19+i,none⟩=(encA l[j])[i]? := by
 obtain ⟨b,off,hA,hb,hc⟩:=h.row.at hj
 exact ⟨b,off,hA,hb,fun i hi=>hc j hj i hi⟩

variable {H:Type} {enc:TypeId×Value→H} {W:World}

set_option maxRecDepth 100000 in
theorem open_tabn {fuel:Nat} {v0 v1 v2 v3 v4 v5:Value} {x:DataW H×List MemPlace} (hf:DataW.trod enc Tryz.prog W 0 (fun _=>true) true fuel 37 [v0,v1,v2,v3,v4,v5]=some x) :
  ∃(t:Tab) (A:Option Addr) (ca:Nat) (D:Option Addr) (cd:Nat),[v0,v1,v2,v3,v4,v5]=[.int .i64 t.c.c0,.int .i64 t.c.c1,.int .i64 t.c.c2,.int .i64 t.c.c3,.slice A t.c.l.length ca,.slice D t.e.length cd]∧Row W A t.c.l∧RowC W D t.e∧t.c.l.length≤maxLen∧t.e.length≤maxLen∧(A=none→ca=0)∧(D=none→cd=0):=by
 obtain ⟨y0,y1,n,hx,_,t0,t1⟩:=trod_struct2 Tryz.underlying37 hf
 have c5:Tryz.prog.cellsOf 34=5:=by kernel_rfl
 have c1:Tryz.prog.cellsOf 35=1:=by kernel_rfl
 simp only[c5,c1] at t0 t1
 obtain ⟨c,A,ca,hc,hA,hr,hm⟩:=open_ctxc rfl t0
 obtain ⟨D,cd,l,hl,hD,hrd,hmd,_⟩:=open_cels t1
 simp at hc hl
 exact ⟨⟨c,l⟩,A,ca,D,cd,by rw[hc.1,hc.2.1,hc.2.2.1,hc.2.2.2.1,hc.2.2.2.2,hl],hr,hrd,hm,hmd,hA,hD⟩
set_option maxRecDepth 100000 in
theorem open_stepsC {fuel:Nat} {cs:List Value} {x:DataW H×List MemPlace} (h:DataW.trod enc Tryz.prog W 0 (fun _=>true) true fuel 42 cs=some x) :
  ∃A cap l,cs=[.slice A (l:List Stp).length cap]∧(A=none→cap=0)∧Stps W A l∧l.length≤maxLen:=by
 rcases open_slice Tryz.underlying42 h with ⟨hcs,_⟩|⟨a,len,cap,m,n,D,Pl,hcs,_,hl,hm,hmm,hx,hi⟩
 ·exact ⟨none,0,[],hcs,fun _=>rfl,⟨Or.inl rfl,fun x hx=>by cases hx⟩,by simp⟩
 ·have c2:Tryz.prog.cellsOf 48=7:=by kernel_rfl
  have hlm:len≤m:=by rw[hmm];simp;exact hl
  haveI:Inhabited Stp:=⟨⟨0,0,0,0,0,0,none,0,[]⟩⟩
  obtain ⟨Z,hZ⟩:=choose_lt (α := Stp) (n:=len) (p:=fun i z=>(∀j,j<7→W.cell? (a.add (i*7+j))=(encQ z)[j]?)∧RowI W z.p z.l∧z.l.length≤maxLen∧(z.p=none→z.n=0)) (fun i hi'=>by
   obtain ⟨cs',h1,h2⟩:=hi i (by omega)
   rw[c2] at h1
   obtain ⟨_,hlen,hcell⟩:=World.cells?_some h1
   obtain ⟨y,hy,hy2⟩:=open_step hlen h2
   refine ⟨y,fun j hj=> ?_,hy2⟩
   have:=hcell j (by omega)
   rw[add_add] at this
   rw[this,←hy,List.getElem?_eq_getElem (by omega)])
  refine ⟨some a,cap,(List.range len).map Z,by rw[hcs];simp,(fun h=>by cases h),⟨?_,fun x hx=> ?_⟩,by simp;omega⟩
  ·by_cases h0:len=0
   ·exact Or.inl (by rw[h0];rfl)
   ·have hc0:=(hZ 0 (by omega)).1 0 (by omega)
    obtain ⟨b,off,spot⟩:=a
    have hc1:W.cell? (Addr.add ⟨b,off,spot⟩ (0*7+0))=some (.int .i64 (Z 0).k):=hc0
    have hspot:spot=none:=by simpa[Addr.add] using World.cell?_spot hc1
    subst hspot
    refine Or.inr ⟨b,off,rfl,?_,fun j hj i hi5=> ?_⟩
    ·have:=World.block_lt_of_cell? W _ hc1
     simpa[Addr.add_lit] using this
    ·have hj':j<len:=by simpa using hj
     have:=(hZ j hj').1 i hi5
     simp only[Addr.add_lit,←Nat.add_assoc] at this
     simpa using this
  ·obtain ⟨i,hi',rfl⟩:=List.mem_map.1 hx
   exact (hZ i (by simpa using hi')).2
theorem list19 {cs:List Value} (h:cs.length=19):∃v0 v1 v2 v3 v4 v5 v6 v7 v8 v9 v10 v11 v12 v13 v14 v15 v16 v17 v18,cs=[v0,v1,v2,v3,v4,v5,v6,v7,v8,v9,v10,v11,v12,v13,v14,v15,v16,v17,v18]:=by
 match cs,h with
 | [v0,v1,v2,v3,v4,v5,v6,v7,v8,v9,v10,v11,v12,v13,v14,v15,v16,v17,v18],_=>exact ⟨v0,v1,v2,v3,v4,v5,v6,v7,v8,v9,v10,v11,v12,v13,v14,v15,v16,v17,v18,rfl⟩
set_option maxRecDepth 100000 in
theorem open_edit {fuel:Nat} {v0 v1 v2 v3 v4:Value} {x:DataW H×List MemPlace} (h:DataW.trod enc Tryz.prog W 0 (fun _=>true) true fuel 29 [v0,v1,v2,v3,v4]=some x):∃z0 z1 z2 z3 z4:Int,[v0,v1,v2,v3,v4]=[.int .i64 z0,.int .i64 z1,.int .i64 z2,.int .i64 z3,.int .i64 z4]:=by
 obtain ⟨xs,n,_,_,_,hxl,hf⟩:=DataW.trod_struct Tryz.underlying29 h
 have c1:Tryz.prog.cellsOf 3=1:=by kernel_rfl
 have hx5:xs.length=5:=hxl
 match xs,hx5 with
 | [y0,y1,y2,y3,y4],_ =>
  have g0:=hf 0 _ rfl
  have g1:=hf 1 _ rfl
  have g2:=hf 2 _ rfl
  have g3:=hf 3 _ rfl
  have g4:=hf 4 _ rfl
  simp[c1] at g0 g1 g2 g3 g4
  obtain ⟨z0,e0,_⟩:=DataW.trod_int Tryz.underlying3 g0
  obtain ⟨z1,e1,_⟩:=DataW.trod_int Tryz.underlying3 g1
  obtain ⟨z2,e2,_⟩:=DataW.trod_int Tryz.underlying3 g2
  obtain ⟨z3,e3,_⟩:=DataW.trod_int Tryz.underlying3 g3
  obtain ⟨z4,e4,_⟩:=DataW.trod_int Tryz.underlying3 g4
  simp only[List.cons.injEq,and_true] at e0 e1 e2 e3 e4
  exact ⟨z0,z1,z2,z3,z4,by rw[e0,e1,e2,e3,e4]⟩
set_option maxRecDepth 100000 in
theorem open_act {fuel:Nat} {cs:List Value} {x:DataW H×List MemPlace} (hl:cs.length=19) (h:DataW.trod enc Tryz.prog W 0 (fun _=>true) true fuel 44 cs=some x):∃y:Actm,cs=encA y∧ActIn W y:=by
 obtain ⟨v0,v1,v2,v3,v4,v5,v6,v7,v8,v9,v10,v11,v12,v13,v14,v15,v16,v17,v18,rfl⟩:=list19 hl
 obtain ⟨xs,n,_,_,_,hxl,hf⟩:=DataW.trod_struct Tryz.underlying44 h
 have c1:Tryz.prog.cellsOf 3=1:=by kernel_rfl
 have c5:Tryz.prog.cellsOf 29=5:=by kernel_rfl
 have c12:Tryz.prog.cellsOf 40=12:=by kernel_rfl
 have cq:Tryz.prog.cellsOf 42=1:=by kernel_rfl
 have c6:Tryz.prog.cellsOf 37=6:=by kernel_rfl
 have hx4:xs.length=4:=hxl
 match xs,hx4 with
 | [y0,y1,y2,y3],_ =>
  have g0:=hf 0 _ rfl
  have g1:=hf 1 _ rfl
  have g2:=hf 2 _ rfl
  have g3:=hf 3 _ rfl
  simp[c1,c5,c12,cq] at g0 g1 g2 g3
  obtain ⟨k,e0,_⟩:=DataW.trod_int Tryz.underlying3 g0
  obtain ⟨x1,x2,x3,x4,x5,e1⟩:=open_edit g1
  obtain ⟨Q,cq',q,e3,hQ,hst,hql⟩:=open_stepsC g3
  obtain ⟨zs,m,_,_,_,hzl,hfd⟩:=DataW.trod_struct Tryz.underlying40 g2
  have hz1:zs.length=1:=hzl
  match zs,hz1 with
  | [z0],_ =>
   have p0:=hfd 0 _ rfl
   obtain ⟨ys,m2,_,_,_,hyl,hi⟩:=DataW.trod_array Tryz.underlying38 p0
   have hy2:ys.length=2:=hyl
   match ys,hy2 with
   | [u0,u1],_ =>
    have t0:=hi 0 (by omega)
    have t1:=hi 1 (by omega)
    rw[c6] at t0 t1
    obtain ⟨a,A,ca,C,cc,ea,h1,h2,h3,h4,h5,h6⟩:=open_tabn t0
    obtain ⟨b,B,cb,D,cd,eb,k1,k2,k3,k4,k5,k6⟩:=open_tabn t1
    simp only[List.cons.injEq,and_true] at e0 e1 e3 ea eb
    obtain ⟨rfl,rfl,rfl,rfl,rfl⟩:=e1
    obtain ⟨rfl,rfl,rfl,rfl,rfl,rfl⟩:=ea
    obtain ⟨rfl,rfl,rfl,rfl,rfl,rfl⟩:=eb
    exact ⟨⟨k,x1,x2,x3,x4,x5,a,A,ca,C,cc,b,B,cb,D,cd,q,Q,cq'⟩,by rw[e0,e3];rfl,⟨h1,h2,k1,k2,h3,h4,k3,k4,h5,h6,k5,k6,hst,hql,hQ⟩⟩
set_option maxRecDepth 100000 in
theorem open_acts {r:Reach} {b0:Nat} {v:Value} {d:DataW H} {p:List MemPlace} (hv:Value.okWide Tryz.prog W r b0 22 v) (h:DataW.Trod enc Tryz.prog W 0 (fun _=>true) true 22 v d p) :
  ∃A cap l,v= .slice A (l:List Actm).length cap∧Acts W A l∧l.length≤maxLen:=by
 obtain ⟨aL,lenL,capL,rfl⟩:=okWide_slice Tryz.underlying22 hv
 obtain ⟨fuel,hf⟩:=h
 rcases open_slice Tryz.underlying22 hf with ⟨hcs,_⟩|⟨a,len,cap,m,n,D,Pl,hcs,_,hl,hm,hmm,hx,hi⟩
 ·simp[Value.cells] at hcs
  obtain ⟨rfl,rfl,rfl⟩:=hcs
  exact ⟨none,0,[],rfl,⟨Or.inl rfl,fun x hx=>by cases hx⟩,by simp⟩
 ·simp[Value.cells] at hcs
  obtain ⟨rfl,rfl,rfl⟩:=hcs
  have c19:Tryz.prog.cellsOf 44=19:=by kernel_rfl
  have hlm:lenL≤m:=by rw[hmm];simp;exact hl
  haveI:Inhabited Actm:=⟨⟨0,0,0,0,0,0,⟨⟨0,0,0,0,[]⟩,[]⟩,none,0,none,0,⟨⟨0,0,0,0,[]⟩,[]⟩,none,0,none,0,[],none,0⟩⟩
  obtain ⟨Z,hZ⟩:=choose_lt (α := Actm) (n:=lenL) (p:=fun i z=>(∀j,j<19→W.cell? (a.add (i*19+j))=(encA z)[j]?)∧ActIn W z) (fun i hi'=>by
   obtain ⟨cs',h1,h2⟩:=hi i (by omega)
   rw[c19] at h1
   obtain ⟨_,hlen,hcell⟩:=World.cells?_some h1
   obtain ⟨y,hy,hy2⟩:=open_act hlen h2
   refine ⟨y,fun j hj=> ?_,hy2⟩
   have:=hcell j (by omega)
   rw[add_add] at this
   rw[this,←hy,List.getElem?_eq_getElem (by omega)])
  refine ⟨some a,capL,(List.range lenL).map Z,by simp,⟨?_,fun x hx=> ?_⟩,by simp;omega⟩
  ·by_cases h0:lenL=0
   ·exact Or.inl (by rw[h0];rfl)
   ·have hc0:=(hZ 0 (by omega)).1 0 (by omega)
    obtain ⟨b,off,spot⟩:=a
    have hc1:W.cell? (Addr.add ⟨b,off,spot⟩ (0*19+0))=some (.int .i64 (Z 0).k):=hc0
    have hspot:spot=none:=by simpa[Addr.add] using World.cell?_spot hc1
    subst hspot
    refine Or.inr ⟨b,off,rfl,?_,fun j hj i hi5=> ?_⟩
    ·have:=World.block_lt_of_cell? W _ hc1
     simpa[Addr.add_lit] using this
    ·have hj':j<lenL:=by simpa using hj
     have:=(hZ j hj').1 i hi5
     simp only[Addr.add_lit,←Nat.add_assoc] at this
     simpa using this
  ·obtain ⟨i,hi',rfl⟩:=List.mem_map.1 hx
   exact (hZ i (by simpa using hi')).2
end Go.Proofs.YtkadjjmkokhldaaGreat

namespace Go.Proofs.YtkadjjmkokhldaaGreat
open Go.RowKit Go.Sort

/-- A block of this kind with these cells, that may be written. -/
def Cl (T:TypeId) (w:World) (B:Nat) (l:List Value):Prop:=w.heap[B]? = some (.cells l.toArray T (0,0))
section
variable {T:TypeId} {w w':World} {B:Nat} {l:List Value}
theorem Cl.cls (h:Cl T w B l):Cls w B l:=⟨T,h⟩
theorem Cl.new (w:World) (C:Array Value) (T:TypeId):Cl T (w.alloc (.cells C T)) w.heap.size C.toList:=by
 show (w.heap.push _)[w.heap.size]? = _
 rw[Array.getElem?_push_size,Array.toArray_toList]
theorem Cl.lt (h:Cl T w B l):B<w.heap.size:=(Array.getElem?_eq_some_iff.1 h).1
theorem Cl.sp {K:Nat→Prop} {U:TypeId→Prop} (h:Cl T w B l) (k:Sp K U w w') (hU:¬U T):Cl T w' B l:=(k.oth _ _ _ h hU).trans h
theorem Cl.below (h:Cl T w B l) (k:Below w.heap.size w w'):Cl T w' B l:=(k.block B h.lt).trans h
theorem Cl.oth {B' j:Nat} (h:Cl T w B l) (hB:B≠B') (v:Value):Cl T (w.setCell ⟨B',j,none⟩ v) B l:=(heap_set_other v hB).trans h
theorem Cl.put (h:Cl T w B l) (j:Nat) (v:Value):Cl T (w.setCell ⟨B,j,none⟩ v) B (l.set j v):=by
 refine (heap_set v h).trans ?_
 simp
theorem Cl.cell (h:Cl T w B l) {j:Nat} {v:Value} (hv:l[j]? = some v):w.cell? ⟨B,j,none⟩=some v:=h.cls.cell hv
theorem Cl.fz (h:Cl T w B l) (j:Nat):w.frozen? ⟨B,j,none⟩=false:=h.cls.fz j
theorem Sp.ofWr {N lo hi n:Nat} (h:Wr N lo hi w w') (hb:Blk w N T n):Sp (fun b=>b≠N) (fun t=>t=T) w w':=by
 obtain ⟨cur,hc,_⟩:=hb
 refine ⟨h.os,h.tape,h.output,h.size,fun g hg hne=>h.oth g hg hne,fun g c t hg=> ?_,fun g c t hg ht=>h.oth g (Array.getElem?_eq_some_iff.1 hg).1 fun e=> ?_⟩
 ·by_cases e:g=N
  ·subst e
   rw[hc] at hg
   injection hg with hg
   injection hg with h1 h2
   subst h1 h2
   obtain ⟨c1,k1,k2,_⟩:=h.blk _ _ hc
   exact ⟨c1,k1,k2⟩
  ·exact ⟨c,(h.oth g (Array.getElem?_eq_some_iff.1 hg).1 e).trans hg,rfl⟩
 ·subst e
  rw[hc] at hg
  injection hg with hg
  injection hg with _ h2
  exact ht h2.symm
end
/-- All but the blocks from n0 to n1. -/
def Hole (n0 n1:Nat):Nat→Prop:=fun b=>b<n0∨n1≤b
/-- So, of what lay ahead of n3. -/
def HoleTo (n0 n1 n3:Nat):Nat→Prop:=fun b=>(b<n0∨n1≤b)∧b<n3
theorem RowS.hole {T:TypeId} {k n0 n1:Nat} {w:World} {p:Option Addr} {m c:Nat} (h:RowS T k (fun b=>b<n0) w p m c) (hn:w.heap.size≤n1):RowS T k (Hole n0 n1) w p m c :=
 h.mono fun a ha k=>by
  obtain ⟨h1,_,_,_,cur,h5,_⟩:=h.2.2 a ha
  have:=(Array.getElem?_eq_some_iff.1 h5).1
  have h1':¬a.block<n0:=h1
  have k':a.block<n0∨n1≤a.block:=k
  omega
theorem RowS.to {T:TypeId} {k n0 n1 n3:Nat} {w:World} {p:Option Addr} {m c:Nat} (h:RowS T k (Hole n0 n1) w p m c):RowS T k (HoleTo n0 n1 n3) w p m c :=
 h.mono fun a ha k=>(h.2.2 a ha).1 k.1
theorem RowS.late {T:TypeId} {k n0 n1 n3 base:Nat} {w:World} {p:Option Addr} {m c:Nat} {l:List Value} (h:w.ownsRow base T k (.slice p m c) m l) (hb:n3≤base):RowS T k (HoleTo n0 n1 n3) w p m c :=
 RowS.of h fun g hg _ k=>by have k':g<n3:=k.2;omega
/-- Twn nodes: the first one's tables and queries, the other one's; what both keep leaves the blocks from n0 to n1 out. -/
structure Twn (w wr:World) (N M:Nat) (s t:Tab) (qs:List (List Stp)) (s' t':Tab) (qs':List (List Stp)) (n0 n1:Nat):Prop where
 ex:∃P P',Nd wr N P 2 s t qs∧Nd wr M P' 2 s' t' qs'∧¬P M∧¬P' N∧(∀b,P b→Hole n0 n1 b)∧(∀b,P' b→Hole n0 n1 b)
 bel:Below w.heap.size w wr
 hN:w.heap.size≤N
 hM:w.heap.size≤M
 ne:N≠M
 lN:N<n0
 lM:M<n0
section
variable {w wr w':World} {N M:Nat} {s t:Tab} {qs:List (List Stp)} {s' t':Tab} {qs':List (List Stp)} {n0 n1:Nat}
theorem Twn.swap (h:Twn w wr N M s t qs s' t' qs' n0 n1):Twn w wr M N s' t' qs' s t qs n0 n1:=by
 obtain ⟨P,P',h1,h2,h3,h4,h5,h6⟩:=h.ex
 exact ⟨⟨P',P,h2,h1,h4,h3,h6,h5⟩,h.bel,h.hM,h.hN,h.ne.symm,h.lM,h.lN⟩
theorem Twn.lt (h:Twn w wr N M s t qs s' t' qs' n0 n1):N<wr.heap.size:=by
 obtain ⟨P,P',h1,_⟩:=h.ex
 exact h1.blk.lt
theorem Twn.le (h:Twn w wr N M s t qs s' t' qs' n0 n1):qs.length≤4:=by
 obtain ⟨P,P',h1,_⟩:=h.ex
 exact h1.le
theorem Twn.ok (h:Twn w wr N M s t qs s' t' qs' n0 n1):errT s=0∧errT t=0:=by
 obtain ⟨P,P',h1,_⟩:=h.ex
 exact ⟨h1.ts.ok,h1.tt.ok⟩
theorem Twn.below (h:Twn w wr N M s t qs s' t' qs' n0 n1) (k:Below wr.heap.size wr w'):Twn w w' N M s t qs s' t' qs' n0 n1:=by
 obtain ⟨P,P',h1,h2,h3,h4,h5,h6⟩:=h.ex
 exact ⟨⟨P,P',h1.below k,h2.below k,h3,h4,h5,h6⟩,h.bel.trans (k.mono h.bel.size),h.hN,h.hM,h.ne,h.lN,h.lM⟩
theorem Twn.sp {U:TypeId→Prop} (h:Twn w wr N M s t qs s' t' qs' n0 n1) (k:Sp (HoleTo n0 n1 wr.heap.size) U wr w'):Twn w w' N M s t qs s' t' qs' n0 n1:=by
 have hl:=h.lt
 have hl2:=h.swap.lt
 have hwN:=h.hN
 have h1N:=h.lN
 obtain ⟨P,P',h1,h2,h3,h4,h5,h6⟩:=h.ex
 refine ⟨⟨P,P',h1.keep (k.keep N hl ⟨Or.inl h.lN,hl⟩) (k.agr fun b hb=>⟨h5 b hb,h1.up b hb⟩),h2.keep (k.keep M hl2 ⟨Or.inl h.lM,hl2⟩) (k.agr fun b hb=>⟨h6 b hb,h2.up b hb⟩),h3,h4,h5,h6⟩,h.bel.trans (k.below h.bel.size fun b hb=>⟨Or.inl (by omega),by omega⟩),h.hN,h.hM,h.ne,h.lN,h.lM⟩
theorem Twn.again (h:Twn w wr N M s t qs s' t' qs' n0 n1) (m:Nat):Twn w wr N M s t qs s' t' qs' wr.heap.size m:=by
 have hl:=h.lt
 have hl2:=h.swap.lt
 obtain ⟨P,P',h1,h2,h3,h4,h5,h6⟩:=h.ex
 exact ⟨⟨P,P',h1,h2,h3,h4,fun b hb=>Or.inl (h1.up b hb),fun b hb=>Or.inl (h2.up b hb)⟩,h.bel,h.hN,h.hM,h.ne,hl,hl2⟩
/-- The first one has been written. -/
theorem Twn.wrote {P P':Nat→Prop} {s2 t2:Tab} {qs2:List (List Stp)} (h:Twn w wr N M s t qs s' t' qs' n0 n1) (h1:Nd wr N P 2 s t qs) (h2:Nd wr M P' 2 s' t' qs') (h3:¬P M) (h4:¬P' N) (h5:∀b,P b→Hole n0 n1 b) (h6:∀b,P' b→Hole n0 n1 b) (hn:n1≤wr.heap.size) (f1:Nd w' N (plusP P wr.heap.size w'.heap.size) 2 s2 t2 qs2) {lo hi:Nat} (f2:Wr N lo hi wr w'):Twn w w' N M s2 t2 qs2 s' t' qs' n0 n1∧Sp (fun b=>b≠N) (fun t=>t=77) wr w':=by
 have hM:=h2.blk.lt
 refine ⟨⟨⟨_,P',f1,h2.keep (f2.oth M hM h.ne.symm) (f2.agr h4),fun k=>k.elim h3 fun k=>by omega,h4,fun b k=>k.elim (h5 b) fun k=>Or.inr (by omega),h6⟩,h.bel.trans ⟨f2.os,f2.tape,f2.output,f2.size,fun g hg=>f2.oth g (Nat.lt_of_lt_of_le hg h.bel.size) (by have:=h.hN;omega)⟩,h.hN,h.hM,h.ne,h.lN,h.lM⟩,Sp.ofWr f2 h1.blk⟩
end
/-- The queries may be told by others that are the same but for places. -/
theorem VwN.bare {w:World} {V o:Nat} {P:Nat→Prop} {q q2:List Stp} {z y:List Zit} (h:VwN w V o P q z y) (e:q2.map Go.Proofs.YtkadjjmkokhldaaGreat.bare=q.map Go.Proofs.YtkadjjmkokhldaaGreat.bare):VwN w V o P q2 z y:=by
 obtain ⟨k,l,⟨q',QA,cq,a,A,ca,b,B,cb,x,X,cx,u,U,cu,h1,hq,h2⟩,h3,h4,h5⟩:=h
 rw[←same_plnE e] at h1 h5
 exact ⟨k,l,⟨q',QA,cq,a,A,ca,b,B,cb,x,X,cx,u,U,cu,h1,hq.trans e.symm,h2⟩,h3,h4,h5⟩
theorem Nd.bare {w:World} {N:Nat} {P:Nat→Prop} {id:Int} {s t:Tab} {qs qs':List (List Stp)} (h:Nd w N P id s t qs) (e:qs'.map (List.map Go.Proofs.YtkadjjmkokhldaaGreat.bare)=qs.map (List.map Go.Proofs.YtkadjjmkokhldaaGreat.bare)):Nd w N P id s t qs':=by
 have hl:qs'.length=qs.length:=by simpa using congrArg List.length e
 refine ⟨h.blk,h.out,h.up,h.cid,h.ts,h.tt,by rw[hl];exact h.cnt,by rw[hl];exact h.le,fun j hj=> ?_⟩
 have hj2:j<qs.length:=by omega
 refine (h.vs j hj2).bare ?_
 have:(qs'.map (List.map Go.Proofs.YtkadjjmkokhldaaGreat.bare))[j]? = (qs.map (List.map Go.Proofs.YtkadjjmkokhldaaGreat.bare))[j]? := by rw[e]
 rw[List.getElem?_map,List.getElem?_map,List.getElem?_eq_getElem hj,List.getElem?_eq_getElem hj2] at this
 simpa using this
theorem Twn.bare {w wr:World} {N M:Nat} {s t:Tab} {qs qs2:List (List Stp)} {s' t':Tab} {qs':List (List Stp)} {n0 n1:Nat} (h:Twn w wr N M s t qs s' t' qs' n0 n1) (e:qs2.map (List.map Go.Proofs.YtkadjjmkokhldaaGreat.bare)=qs.map (List.map Go.Proofs.YtkadjjmkokhldaaGreat.bare)):Twn w wr N M s t qs2 s' t' qs' n0 n1:=by
 obtain ⟨P,P',h1,h2⟩:=h.ex
 exact ⟨⟨P,P',h1.bare e,h2⟩,h.bel,h.hN,h.hM,h.ne,h.lN,h.lM⟩

/-- A list that is old: it lies ahead of n0. -/
def OldR (w:World) (n0:Nat) (y:Stp):Prop:=RowI w y.p y.l∧PIn (fun b=>b<n0) y.p y.l
/-- A list that is new, and may be spoilt. -/
def NewR (w:World) (n0:Nat) (y:Stp):Prop:=RowI w y.p y.l∧RowS 3 1 (fun b=>b<n0) w y.p y.l.length y.n
/-- The query q copied: the lists of its first j steps are new. -/
structure QI (w:World) (n0:Nat) (Q:Option Addr) (c:Nat) (q q':List Stp) (j:Nat):Prop where
 row:RowG encQ 7 w Q q'
 rs:RowS 48 7 (fun b=>b<n0) w Q q'.length c
 len:q'.length=q.length
 bare:q'.map Go.Proofs.YtkadjjmkokhldaaGreat.bare=q.map Go.Proofs.YtkadjjmkokhldaaGreat.bare
 wt:∀y∈q',y.l.length*8≤140737488351232∧y.l.length≤maxLen∧(y.p=none→y.n=0)
 new:∀i (h:i<q'.length),i<j→NewR w n0 q'[i]
 old:∀i (h:i<q'.length),j≤i→OldR w n0 q'[i]
theorem QI.below {w w':World} {n0:Nat} {Q:Option Addr} {c:Nat} {q q':List Stp} {j:Nat} (h:QI w n0 Q c q q' j) (k:Below w.heap.size w w'):QI w' n0 Q c q q' j :=
 ⟨h.row.below k,h.rs.below k,h.len,h.bare,h.wt,fun i hi hj=>⟨(h.new i hi hj).1.below k,(h.new i hi hj).2.below k⟩,fun i hi hj=>⟨(h.old i hi hj).1.below k,(h.old i hi hj).2⟩⟩
theorem QI.steps {w:World} {n0:Nat} {Q:Option Addr} {c:Nat} {q q':List Stp} {j:Nat} (h:QI w n0 Q c q q' j):Stps w Q q':=by
 refine ⟨h.row,fun x hx=> ?_⟩
 obtain ⟨i,hi,rfl⟩:=List.getElem_of_mem hx
 refine ⟨?_,(h.wt _ hx).2⟩
 by_cases hj:i<j
 ·exact (h.new i hi hj).1
 ·exact (h.old i hi (by omega)).1
theorem enc7 {y:Stp} {i:Nat} (C:Option Addr) (c:Nat) (hi:i≠6):(encQ { y with p:=C,n:=c })[i]? = (encQ y)[i]? := by
 match i,hi with
 | 0,_=>rfl
 | 1,_=>rfl
 | 2,_=>rfl
 | 3,_=>rfl
 | 4,_=>rfl
 | 5,_=>rfl
 | n+7,_=>rfl
theorem RowG.set7 {w:World} {b:Nat} {q:List Stp} (h:RowG encQ 7 w (some ⟨b,0,none⟩) q) {j:Nat} (hj:j<q.length) (C:Option Addr) (c:Nat):RowG encQ 7 (w.setCell ⟨b,j*7+6,none⟩ (.slice C q[j].l.length c)) (some ⟨b,0,none⟩) (q.set j { q[j] with p:=C,n:=c }):=by
 obtain ⟨b',off,e,hb,hc⟩:=h.at hj
 injection e with e
 injection e with e1 e2
 subst e1 e2
 refine Or.inr ⟨b,0,rfl,by simpa using hb,fun i hi k hk=> ?_⟩
 have hi':i<q.length:=by simpa using hi
 have hh:=hc i hi' k hk
 by_cases e:i=j
 ·subst e
  rw[List.getElem_set_self]
  by_cases e6:k=6
  ·subst e6
   have h0:w.cell? ⟨b,i*7+6,none⟩=some (.slice q[i].p q[i].l.length q[i].n):=by
    rw[show 0+i*7+6=i*7+6 by omega] at hh
    exact hh
   rw[show 0+i*7+6=i*7+6 by omega,World.cell?_setCell_same _ _ _ h0]
   rfl
  ·rw[show 0+i*7+k=i*7+k by omega] at hh ⊢
   rw[cell_oth (by omega),hh,enc7 C c e6]
 ·rw[List.getElem_set_ne (fun e'=>e e'.symm),cell_oth (by omega),hh]
theorem map_set_bare {q:List Stp} {j:Nat} (hj:j<q.length) (C:Option Addr) (c:Nat):(q.set j { q[j] with p:=C,n:=c }).map Go.Proofs.YtkadjjmkokhldaaGreat.bare=q.map Go.Proofs.YtkadjjmkokhldaaGreat.bare:=by
 apply List.ext_getElem
 ·simp
 ·intro i h1 h2
  have hi:i<q.length:=by simpa using h2
  rw[List.getElem_map,List.getElem_map]
  by_cases e:i=j
  ·subst e
   rw[List.getElem_set_self]
   rfl
  ·rw[List.getElem_set_ne (fun e'=>e e'.symm)]
/-- One more list is copied. -/
theorem QI.step {w w1:World} {n0 b:Nat} {c:Nat} {q q':List Stp} {j:Nat} (h:QI w n0 (some ⟨b,0,none⟩) c q q' j) (hj:j<q'.length) {C:Option Addr} {cc:Nat} (k:Below w.heap.size w w1) (ho:OwnG encI 1 3 w1 w.heap.size (.slice C q'[j].l.length cc) q'[j].l) (hn0:n0≤w.heap.size) :
  QI (w1.setCell ⟨b,j*7+6,none⟩ (.slice C q'[j].l.length cc)) n0 (some ⟨b,0,none⟩) c q (q'.set j { q'[j] with p:=C,n:=cc }) (j+1):=by
 have h1:=h.below k
 obtain ⟨hb0,_,_,_,cur0,hcur0,_⟩:=h.rs.2.2 _ rfl
 obtain ⟨_,_,_,_,cur,hcur,_⟩:=h1.rs.2.2 _ rfl
 have hb:¬b<n0:=hb0
 have hbl:b<w.heap.size:=(Array.getElem?_eq_some_iff.1 hcur0).1
 have hA:Agr (fun g=>g≠b) w1 (w1.setCell ⟨b,j*7+6,none⟩ (.slice C q'[j].l.length cc)):=⟨by rw[heap_set_size];exact Nat.le_refl _,fun g hg _=>heap_set_other _ hg⟩
 have hsp:Sp (fun g=>g≠b) (fun t=>t=48) w1 (w1.setCell ⟨b,j*7+6,none⟩ (.slice C q'[j].l.length cc)):=(One.set (n:=cur.size) ⟨⟨rfl,rfl,rfl,Nat.le_refl _,fun _ _ _=>rfl⟩,⟨cur,hcur,rfl⟩⟩ _ _).sp (fun h=>h rfl) hcur rfl
 obtain ⟨C',cc',hv,hnil,hrow,hlt⟩:=OwnG.row encI_len ho
 injection hv with e1 _ e3
 subst e1 e3
 have hrsC:RowS 3 1 (fun b=>b<n0) w1 C q'[j].l.length cc:=RowS.of ho fun g hg _ k=>by have k':g<n0:=k;omega
 have hty:∀ {y:Stp},RowS 3 1 (fun b=>b<n0) w1 y.p y.l.length y.n→PIn (fun g=>g≠b) y.p y.l:=fun {y} hy a ha _ e=>by
  obtain ⟨_,_,_,_,cu,hcu,_⟩:=hy.2.2 a ha
  rw[e] at hcu
  rw[hcur] at hcu
  injection hcu with hcu
  injection hcu with _ hcu
  exact absurd hcu (by decide)
 refine ⟨h1.row.set7 hj C cc,?_,by rw[List.length_set];exact h.len,(map_set_bare hj C cc).trans h.bare,fun y hy=> ?_,fun i hi hij=> ?_,fun i hi hij=> ?_⟩
 ·rw[List.length_set]
  exact h1.rs.sp hsp
 ·rcases List.mem_or_eq_of_mem_set hy with hy|rfl
  ·exact h.wt y hy
  ·have:=h.wt _ (List.getElem_mem hj)
   exact ⟨this.1,this.2.1,hnil⟩
 ·have hi':i<q'.length:=by simpa using hi
  by_cases e:i=j
  ·subst e
   rw[List.getElem_set_self]
   exact ⟨hrow.agr (hty (y:={ q'[i] with p:=C,n:=cc }) hrsC) hA,hrsC.sp hsp⟩
  ·rw[List.getElem_set_ne (fun e'=>e e'.symm)]
   have hh:=h1.new i hi' (by omega)
   exact ⟨hh.1.agr (hty hh.2) hA,hh.2.sp hsp⟩
 ·have hi':i<q'.length:=by simpa using hi
  rw[List.getElem_set_ne (by omega)]
  have hh:=h1.old i hi' (by omega)
  exact ⟨hh.1.agr (fun a ha hl=>by have h2:a.block<n0:=hh.2 a ha hl;show a.block≠b;omega) hA,hh.2⟩
end Go.Proofs.YtkadjjmkokhldaaGreat

namespace Go.Proofs.YtkadjjmkokhldaaGreat
open Go.RowKit Go.Sort Go.Shelf Go.Lib

theorem srt_nil:srt []=[]:=by simp[srt]
theorem srt_one (x:Int×Int):srt [x]=[x]:=by simp[srt]
theorem srtC_one (x:Cel):srtC [x]=[x]:=by simp[srtC]

theorem mk0:makeC []=zeroC:=by unfold makeC foldS;rw[srt_nil];rfl
theorem jf (a0 a1 a2 a3 b0 b1 b2 b3:Int):joinF ⟨a0,a1,a2,a3,[]⟩ ⟨b0,b1,b2,b3,[]⟩=⟨max a0 b0,max a1 b1,max a2 b2,max a3 b3,[]⟩:=by unfold joinF foldS joinK;rw[List.append_nil,srt_nil];rfl
theorem b1:mrg ⟨zeroC,[]⟩ ⟨⟨1,0,0,0,[]⟩,[((0,1),3,1,7)]⟩=[((0,1),3,1,7)]:=by
 unfold mrg
 rw[show both ⟨zeroC,[]⟩ ⟨⟨1,0,0,0,[]⟩,[((0,1),3,1,7)]⟩=[((0,1),3,1,7)] from rfl,srtC_one]
theorem b2:mrg ⟨⟨1,0,0,0,[]⟩,[((0,1),3,1,7)]⟩ ⟨⟨1,1,0,0,[]⟩,[((1,1),3,1,5)]⟩=[((1,1),3,1,5)]:=by
 unfold mrg
 rw[show both ⟨⟨1,0,0,0,[]⟩,[((0,1),3,1,7)]⟩ ⟨⟨1,1,0,0,[]⟩,[((1,1),3,1,5)]⟩=[((1,1),3,1,5)] from rfl,srtC_one]
end Go.Proofs.YtkadjjmkokhldaaGreat
