/-
  Lists in memory, of elements of k cells each: read, or of the call's own.
  A context that a call builds in a block of its own: its clocks, its cloud; what a store and an append make of it. And what fold makes, step by step.
  A context, a dot, as they lie in a block.
-/
import Derived.Test.YtkadjjmkokhldaaGreatM01
import Derived.Deep.AppendLies
import Derived.Deep.RegionLaw
import Derived.Laws.AppendOwnNone
import Derived.Maps.AppendAt
namespace Go.Proofs.YtkadjjmkokhldaaGreat
open Go.RowKit Go.Sort

/-- The cells of a list. -/
def flatG {α : Type} (enc: α → List Value) (l:List α):List Value:=l.flatMap enc

theorem flatG_length {α : Type} {enc: α → List Value} {k:Nat} (hk:∀x,(enc x).length=k) (l:List α):(flatG enc l).length=l.length*k:=by
 induction l with
 | nil=>simp[flatG]
 | cons x l ih =>
  simp only[flatG,List.flatMap_cons,List.length_append,List.length_cons] at ih ⊢
  rw[ih,hk,Nat.add_mul,Nat.one_mul,Nat.add_comm]
theorem flatG_append {α : Type} (enc: α → List Value) (l m:List α):flatG enc (l++m)=flatG enc l++flatG enc m:=by simp[flatG,List.flatMap_append]
theorem flatG_one {α : Type} {enc: α → List Value} (h1:∀x,∀u∈enc x,u.oneCell'=true) (u:Value) (l:List α) (h:u∈flatG enc l):u.oneCell'=true:=by
 simp only[flatG,List.mem_flatMap] at h
 obtain ⟨x,_,hx⟩:=h
 exact h1 x u hx
theorem flatG_get {α : Type} {enc: α → List Value} {k:Nat} (hk:∀x,(enc x).length=k) (l:List α):∀j (h:j<l.length) i,i<k→(flatG enc l)[j*k+i]? = (enc l[j])[i]? := by
 induction l with
 | nil=>intro j h;exact absurd h (Nat.not_lt_zero _)
 | cons x l ih =>
  intro j h i hi
  have e:flatG enc (x::l)=enc x++flatG enc l:=rfl
  rw[e]
  cases j with
  | zero=>rw[Nat.zero_mul,Nat.zero_add,List.getElem?_append_left (by rw[hk];exact hi)];rfl
  | succ j =>
   rw[List.getElem?_append_right (by rw[hk,Nat.add_mul];omega),hk,show (j+1)*k+i-k=j*k+i from by rw[Nat.add_mul];omega]
   simpa using ih j (by simpa using h) i hi
theorem flatG_got {α : Type} {enc: α → List Value} {k:Nat} (hk:∀x,(enc x).length=k) (h0:0<k) (l:List α) {j:Nat} {u:Value} (h:(flatG enc l)[j]? = some u):∃m,∃hm:m<l.length,∃i,i<k∧j=m*k+i∧(enc l[m])[i]? = some u:=by
 have hj:j<(flatG enc l).length:=(List.getElem?_eq_some_iff.1 h).1
 rw[flatG_length hk] at hj
 have hm:j / k<l.length:=Nat.div_lt_of_lt_mul (by rw[Nat.mul_comm];exact hj)
 have e:j=j / k*k+j % k:=by rw[Nat.mul_comm];exact (Nat.div_add_mod j k).symm
 refine ⟨j / k,hm,j % k,Nat.mod_lt _ h0,e,?_⟩
 rw[←flatG_get hk l (j / k) hm (j % k) (Nat.mod_lt _ h0),←e]
 exact h

/-- The slice at A reads as the list l. -/
def RowG {α : Type} (enc: α → List Value) (k:Nat) (w:World) (A:Option Addr) (l:List α):Prop :=
 l=[]∨∃b off,A=some ⟨b,off,none⟩∧b<w.heap.size∧∀j (h:j<l.length) i,i<k→w.cell? ⟨b,off+j*k+i,none⟩=(enc l[j])[i]?

theorem RowG.belowB {α : Type} {enc: α → List Value} {k:Nat} {w w':World} {A:Option Addr} {l:List α} {B:Nat} (h:RowG enc k w A l) (hA:∀a,A=some a→l≠[]→a.block<B) (q:Below B w w'):RowG enc k w' A l:=by
 rcases h with h|⟨b,off,rfl,hb,hc⟩
 ·exact Or.inl h
 ·by_cases h0:l=[]
  ·exact Or.inl h0
  have hbB:=hA _ rfl h0
  exact Or.inr ⟨b,off,rfl,Nat.lt_of_lt_of_le hb q.size,fun j hj i hi=>(q.cell (p:=⟨b,off+j*k+i,none⟩) hbB).trans (hc j hj i hi)⟩
theorem RowG.lt {α : Type} {enc: α → List Value} {k:Nat} {w:World} {A:Option Addr} {l:List α} (h:RowG enc k w A l):∀a,A=some a→l≠[]→a.block<w.heap.size:=by
 rcases h with h|⟨b,off,rfl,hb,_⟩
 ·intro a _ h0;exact absurd h h0
 ·intro a ha _;cases ha;exact hb
theorem RowG.below {α : Type} {enc: α → List Value} {k:Nat} {w w':World} {A:Option Addr} {l:List α} (h:RowG enc k w A l) (q:Below w.heap.size w w'):RowG enc k w' A l:=h.belowB h.lt q
theorem RowG.gr {α : Type} {enc: α → List Value} {k:Nat} {w w':World} {A:Option Addr} {l:List α} (h:RowG enc k w A l) (q:Gr w w'):RowG enc k w' A l:=h.below q.below
theorem RowG.at {α : Type} {enc: α → List Value} {k:Nat} {w:World} {A:Option Addr} {l:List α} (h:RowG enc k w A l) {m:Nat} (hm:m<l.length):∃b off,A=some ⟨b,off,none⟩∧b<w.heap.size∧∀j (h:j<l.length) i,i<k→w.cell? ⟨b,off+j*k+i,none⟩=(enc l[j])[i]? := by
 rcases h with h0|h
 ·exact absurd hm (by simp[h0])
 ·exact h
theorem RowG.cells {α : Type} {enc: α → List Value} {k:Nat} (hk:∀x,(enc x).length=k) (h0:0<k) {w:World} {ad:Addr} {l:List α} (h:RowG enc k w (some ad) l):∀j u,(flatG enc l)[j]? = some u→w.cell? (ad.add j)=some u:=by
 intro j u hu
 obtain ⟨m,hm,i,hi,rfl,hc⟩:=flatG_got hk h0 l hu
 rcases h with h1|⟨b,off,hA,_,hcs⟩
 ·subst h1;exact absurd hm (Nat.not_lt_zero _)
 ·obtain rfl:=Option.some.inj hA
  rw[Addr.add_lit]
  have:=hcs m hm i hi
  rw[hc,show off+m*k+i=off+(m*k+i) from by omega] at this
  exact this

/-- The value v owns the list l, from block 'base' on. -/
def OwnG {α : Type} (enc: α → List Value) (k:Nat) (e:TypeId) (w:World) (base:Nat) (v:Value) (l:List α):Prop:=w.ownsRow base e k v l.length (flatG enc l)

theorem OwnG.nil {α : Type} (enc: α → List Value) (k:Nat) (e:TypeId) (w:World) (base:Nat):OwnG enc k e w base (.slice none 0 0) []:=World.ownsRow_nil w base _ _

theorem OwnG.full {α : Type} {enc: α → List Value} {k:Nat} {e:TypeId} (hk:∀x,(enc x).length=k) {w:World} {base:Nat} {v:Value} {l:List α} (h:OwnG enc k e w base v l):∃A cap,v= .slice A l.length cap∧(A=none→cap=0)∧RowG enc k w A l∧l.length≤cap∧(∀a,A=some a→base≤a.block∧a.block<w.heap.size∧a.off=0∧a.spot=none)∧(∀a,A=some a→∀j,w.frozen? ⟨a.block,j,none⟩=false):=by
 rcases h.2 with ⟨hv,hn⟩|⟨g,cap,cur,hv,hb,hg,hle,_,_,_⟩
 ·refine ⟨none,0,?_,fun _=>rfl,Or.inl (List.eq_nil_of_length_eq_zero hn),by omega,fun a ha=>(by cases ha),fun a ha=>(by cases ha)⟩
  rw[hv,hn]
 ·have hlt:g<w.heap.size:=(Array.getElem?_eq_some_iff.1 hg).1
  refine ⟨some ⟨g,0,none⟩,cap,hv,fun h=>(by cases h),Or.inr ⟨g,0,rfl,hlt,fun j hj i hi=> ?_⟩,hle,fun a ha=>(by cases ha;exact ⟨hb,hlt,rfl,rfl⟩),fun a ha j=> ?_⟩
  ·have hc:=h.cells (g:=g) (by rw[hv];rfl)
   have e1:=flatG_get hk l j hj i hi
   have hin:i<(enc l[j]).length:=by rw[hk];exact hi
   rw[List.getElem?_eq_getElem hin] at e1 ⊢
   have c0:=hc _ _ e1
   rw[Addr.add_lit] at c0
   rw[show 0+j*k+i=0+(j*k+i) from by omega]
   exact c0
  ·cases ha
   exact World.ownsRow.frozenAt (by rw[←hv];exact h) (g:=g) (cap:=cap) j
theorem OwnG.row {α : Type} {enc: α → List Value} {k:Nat} {e:TypeId} (hk:∀x,(enc x).length=k) {w:World} {base:Nat} {v:Value} {l:List α} (h:OwnG enc k e w base v l):∃A cap,v= .slice A l.length cap∧(A=none→cap=0)∧RowG enc k w A l∧(∀a,A=some a→base≤a.block∧a.block<w.heap.size):=by
 obtain ⟨A,cap,h1,h2,h3,_,h5,_⟩:=OwnG.full hk h
 exact ⟨A,cap,h1,h2,h3,fun a ha=>⟨(h5 a ha).1,(h5 a ha).2.1⟩⟩

theorem OwnG.below {α : Type} {enc: α → List Value} {k:Nat} {e:TypeId} {w w':World} {base:Nat} {v:Value} {l:List α} (h:OwnG enc k e w base v l) (q:Below w.heap.size w w'):OwnG enc k e w' base v l :=
 World.ownsRow.kept h (row:=none) ⟨q.os,q.tape,q.output,q.size,fun j hj _=>q.block j hj⟩ (by cases v.ownBlock<;>simp)
theorem OwnG.gr {α : Type} {enc: α → List Value} {k:Nat} {e:TypeId} {w w':World} {base:Nat} {v:Value} {l:List α} (h:OwnG enc k e w base v l) (q:Gr w w'):OwnG enc k e w' base v l:=h.below q.below
theorem OwnG.mono {α : Type} {enc: α → List Value} {k:Nat} {e:TypeId} {w:World} {base base':Nat} {v:Value} {l:List α} (h:OwnG enc k e w base v l) (hb:base'≤base):OwnG enc k e w base' v l:=by
 refine ⟨h.1,?_⟩
 rcases h.2 with h1|⟨g,cap,cur,hv,hg,rest⟩
 ·exact .inl h1
 ·exact .inr ⟨g,cap,cur,hv,by omega,rest⟩
theorem OwnG.grown_below {α : Type} {enc: α → List Value} {k:Nat} {e:TypeId} {w w':World} {base:Nat} {v:Value} {l:List α} (h:OwnG enc k e w base v l) (hg:w.grownBy w' v.ownBlock) (hb:base≤w.heap.size):Below base w w' :=
 (Below.refl base w).grown hg hb fun j ej=>(World.ownsRow.lt h j ej).1

/-- append(v, m...): whatever m is. -/
theorem run_append_g {α : Type} {enc: α → List Value} {k:Nat} {e:TypeId} (hk:∀x,(enc x).length=k) (h1:∀x,∀u∈enc x,u.oneCell'=true) (h0:0<k)
  (t:TypeId) (ht:Tryz.prog.underlying t=some (.slice e)) (z:Value) (bytes:Nat) (hi:(Tryz.prog.info? e).map (fun i=>(i.zero,i.size,i.bytes))=some (some z,k,bytes)) (hzs:z.cells.size=k)
  (w:World) (ty:TypeId) (base:Nat) (v:Value) (l m:List α) (A:Option Addr) (cap:Nat) (hown:OwnG enc k e w base v l) (hr:RowG enc k w A m) (hA:A=none→cap=0)
  (hml:l.length+m.length≤maxLen) (hb:(l.length+m.length)*bytes≤140737488355328) (hbase:base≤w.heap.size) :
  ∃v' w',(Builtin.append_ #[t,t] ty #[v,.slice A m.length cap]).run Tryz.prog w= .ok v' w'∧OwnG enc k e w' base v' (l++m)∧w.grownBy w' v.ownBlock:=by
 obtain ⟨i0,hi,hz0,hz1,hz2⟩:=info_parts hi
 cases A with
 | none =>
  obtain rfl:=hA rfl
  have hm:m=[]:=by
   rcases hr with h|⟨_,_,h,_⟩
   ·exact h
   ·cases h
  subst hm
  have:=run_append_owned_none (P:=Tryz.prog) (w:=w) base t ty e i0 k ht hi v l.length (flatG enc l) hown
  exact ⟨v,w,this,by rw[List.append_nil];exact hown,⟨rfl,rfl,rfl,Nat.le_refl _,fun _ _ _=>rfl⟩⟩
 | some ad =>
  obtain ⟨v',w',g1,g2,g3,_,_⟩:=run_append_own_at (P:=Tryz.prog) w base t ty e i0 z k bytes ht hi hz0 hz1 hz2 hzs h0 v l.length (flatG enc l) hown ad m.length cap (flatG enc m) (flatG_length hk m) (hr.cells hk h0) (fun u hu=>flatG_one h1 u m hu) hml hb hbase
  refine ⟨v',w',g1,?_,g3⟩
  show w'.ownsRow base _ k v' (l++m).length (flatG enc (l++m))
  rw[List.length_append,flatG_append]
  exact g2

theorem wp_append_g {α : Type} {enc: α → List Value} {k:Nat} {e:TypeId} (hk:∀x,(enc x).length=k) (h1:∀x,∀u∈enc x,u.oneCell'=true) (h0:0<k)
  (t:TypeId) (ht:Tryz.prog.underlying t=some (.slice e)) (z:Value) (bytes:Nat) (hi:(Tryz.prog.info? e).map (fun i=>(i.zero,i.size,i.bytes))=some (some z,k,bytes)) (hzs:z.cells.size=k)
  (w:World) {o:Oper} {a:Act} {K:Act→World→Prop} {Q:Exit→Act→World→Prop} (s x:Operand)
  (ho:o.op= .call { callee:= .builtin .append,args:= #[s,x],argTypes:= #[t,t] })
  (base:Nat) (v:Value) (l m:List α) (A:Option Addr) (cap:Nat) (hs:a.eval s=v) (hx:a.eval x= .slice A m.length cap) (hown:OwnG enc k e w base v l) (hr:RowG enc k w A m) (hA:A=none→cap=0)
  (hml:l.length+m.length≤maxLen) (hb:(l.length+m.length)*bytes≤140737488355328) (hbase:base≤w.heap.size)
  (h:∀v' w',OwnG enc k e w' base v' (l++m)→w.grownBy w' v.ownBlock→K (a.put o.dst v') w'):o.wp Tryz.prog a w K Q:=by
 obtain ⟨v',w',hr,h2,h3⟩:=run_append_g hk h1 h0 t ht z bytes hi hzs w o.type base v l m A cap hown hr hA hml hb hbase
 unfold Oper.wp execOp
 simp only[ho,resolve,invoke,builtin,Sem.run_bind,Sem.run_pure,Result.andThen_ok,List.map_toArray,List.map_cons,List.map_nil,hs,hx,hr]
 exact h v' w' h2 h3

theorem RowG.take {α : Type} {enc: α → List Value} {k:Nat} {w:World} {A:Option Addr} {l:List α} (h:RowG enc k w A l) (m:Nat):RowG enc k w A (l.take m):=by
 rcases h with h|⟨b,off,hA,hb,hc⟩
 ·exact Or.inl (by rw[h];simp)
 ·exact Or.inr ⟨b,off,hA,hb,fun j hj i hi=>by
   have hj':j<l.length:=by rw[List.length_take] at hj;omega
   rw[List.getElem_take]
   exact hc j hj' i hi⟩

end Go.Proofs.YtkadjjmkokhldaaGreat

namespace Go.Proofs.YtkadjjmkokhldaaGreat
open Go.RowKit Go.Sort

/-- A context with one clock turned. -/
def setClk (c:Ctx) (n s:Int):Ctx:=if n=0 then { c with c0:=s } else if n=1 then { c with c1:=s } else if n=2 then { c with c2:=s } else { c with c3:=s }

theorem setClk_l (c:Ctx) (n s:Int):(setClk c n s).l=c.l:=by
 unfold setClk
 by_cases h0:n=0
 ·simp[h0]
 ·by_cases h1:n=1
  ·simp[h1]
  ·by_cases h2:n=2
   ·simp[h2]
   ·simp[h0,h1,h2]
theorem clk_setClk (c:Ctx) (n s a:Int) (h0:0≤n) (h4:n<4) (g0:0≤a) (g4:a<4):clk (setClk c n s) a=if a=n then s else clk c a:=by
 have hn:n=0∨n=1∨n=2∨n=3:=by omega
 have ha:a=0∨a=1∨a=2∨a=3:=by omega
 rcases hn with rfl|rfl|rfl|rfl<;>rcases ha with rfl|rfl|rfl|rfl<;>simp[setClk,clk]

/-- Block B holds the context c, whose cloud lies from block 'base' on. -/
def CB (w:World) (B base:Nat) (c:Ctx):Prop:=∃v,w.cell? ⟨B,0,none⟩=some (.int .i64 c.c0)∧w.cell? ⟨B,1,none⟩=some (.int .i64 c.c1)∧w.cell? ⟨B,2,none⟩=some (.int .i64 c.c2)∧w.cell? ⟨B,3,none⟩=some (.int .i64 c.c3) ∧
 w.cell? ⟨B,4,none⟩=some v∧Own w base v c.l∧(∀j,w.frozen? ⟨B,j,none⟩=false)∧B<base∧B<w.heap.size

theorem CB.below {w w':World} {B base:Nat} {c:Ctx} (h:CB w B base c) (k:Below w.heap.size w w'):CB w' B base c:=by
 obtain ⟨v,h0,h1,h2,h3,h4,ho,hf,hB,hs⟩:=h
 exact ⟨v,(k.cell (p:=⟨B,0,none⟩) hs).trans h0,(k.cell (p:=⟨B,1,none⟩) hs).trans h1,(k.cell (p:=⟨B,2,none⟩) hs).trans h2,(k.cell (p:=⟨B,3,none⟩) hs).trans h3,(k.cell (p:=⟨B,4,none⟩) hs).trans h4,ho.below k,fun j=>(k.frozen (p:=⟨B,j,none⟩) hs).trans (hf j),hB,Nat.lt_of_lt_of_le hs k.size⟩
theorem CB.gr {w w':World} {B base:Nat} {c:Ctx} (h:CB w B base c) (k:Gr w w'):CB w' B base c:=h.below k.below

theorem CB.clk {w:World} {B base:Nat} {c:Ctx} (h:CB w B base c) {a:Int} (h0:0≤a) (h4:a<4):w.cell? ⟨B,a.toNat,none⟩=some (.int .i64 (clk c a)):=by
 obtain ⟨v,k0,k1,k2,k3,_⟩:=h
 have ha:a=0∨a=1∨a=2∨a=3:=by omega
 rcases ha with rfl|rfl|rfl|rfl
 ·exact k0
 ·exact k1
 ·exact k2
 ·exact k3

theorem cell_set {w:World} {B j j':Nat} {u x:Value} (hx:w.cell? ⟨B,j',none⟩=some x):(w.setCell ⟨B,j,none⟩ u).cell? ⟨B,j',none⟩=some (if j'=j then u else x):=by
 by_cases h:j'=j
 ·subst h;rw[if_pos rfl];exact World.cell?_setCell_same _ _ _ hx
 ·rw[if_neg h,World.cell?_setCell_other _ _ _ _ (by intro e;injection e with e1 e2;exact h e2.symm)];exact hx

theorem CB.setClk {w:World} {B base:Nat} {c:Ctx} (h:CB w B base c) {n:Int} (h0:0≤n) (h4:n<4) (s:Int):CB (w.setCell ⟨B,n.toNat,none⟩ (.int .i64 s)) B base (setClk c n s):=by
 obtain ⟨v,k0,k1,k2,k3,k4,ho,hf,hB,hs⟩:=h
 have hn:n=0∨n=1∨n=2∨n=3:=by omega
 refine ⟨v,?_,?_,?_,?_,?_,?_,?_,hB,by simpa[World.setCell] using hs⟩
 ·rw[cell_set k0];rcases hn with rfl|rfl|rfl|rfl<;>rfl
 ·rw[cell_set k1];rcases hn with rfl|rfl|rfl|rfl<;>rfl
 ·rw[cell_set k2];rcases hn with rfl|rfl|rfl|rfl<;>rfl
 ·rw[cell_set k3];rcases hn with rfl|rfl|rfl|rfl<;>rfl
 ·rw[cell_set k4];rcases hn with rfl|rfl|rfl|rfl<;>rfl
 ·rw[setClk_l];exact ho.setCell hB _
 ·intro j;rw[World.frozen?_setCell];exact hf j

/-- The cloud's value turned, behind whatever has left the block alone. -/
theorem CB.setL {w w1:World} {B base:Nat} {c:Ctx} (h:CB w B base c) (k:Below base w w1) {v:Value} {l:List (Int×Int)} (ho:Own w1 base v l):CB (w1.setCell ⟨B,4,none⟩ v) B base { c with l:=l }:=by
 obtain ⟨v0,k0,k1,k2,k3,k4,_,hf,hB,hs⟩:=h
 have e0:=(k.cell (p:=⟨B,0,none⟩) hB).trans k0
 have e1:=(k.cell (p:=⟨B,1,none⟩) hB).trans k1
 have e2:=(k.cell (p:=⟨B,2,none⟩) hB).trans k2
 have e3:=(k.cell (p:=⟨B,3,none⟩) hB).trans k3
 have e4:=(k.cell (p:=⟨B,4,none⟩) hB).trans k4
 refine ⟨v,?_,?_,?_,?_,?_,ho.setCell hB _,?_,hB,?_⟩
 ·rw[cell_set e0];rfl
 ·rw[cell_set e1];rfl
 ·rw[cell_set e2];rfl
 ·rw[cell_set e3];rfl
 ·rw[cell_set e4];rfl
 ·intro j;rw[World.frozen?_setCell];exact (k.frozen (p:=⟨B,j,none⟩) hB).trans (hf j)
 ·have:=k.size
  simp only[World.setCell,Array.size_modify]
  omega

theorem CB.start (W:World) {c:Ctx} (hc:c.l=[]) (T:TypeId):CB (W.alloc (.cells #[.int .i64 c.c0,.int .i64 c.c1,.int .i64 c.c2,.int .i64 c.c3,.slice none 0 0] T)) W.heap.size (W.heap.size+1) c :=
 ⟨.slice none 0 0,box1 (Gr.refl _) rfl,box1 (Gr.refl _) rfl,box1 (Gr.refl _) rfl,box1 (Gr.refl _) rfl,box1 (Gr.refl _) rfl,by rw[hc];exact Own.nil _ _,fun j=>box1f (Gr.refl _) j,by omega,by simp⟩

theorem CB.lt {w:World} {B base:Nat} {c:Ctx} (h:CB w B base c):B<w.heap.size:=by
 obtain ⟨_,_,_,_,_,_,_,_,_,h⟩:=h
 exact h
theorem CB.fz {w:World} {B base:Nat} {c:Ctx} (h:CB w B base c) (j:Nat):w.frozen? ⟨B,j,none⟩=false:=by
 obtain ⟨_,_,_,_,_,_,_,h,_⟩:=h
 exact h j
theorem CB.v {w:World} {B base:Nat} {c:Ctx} (h:CB w B base c):∃v,w.cell? ⟨B,4,none⟩=some v∧Own w base v c.l:=by
 obtain ⟨v,_,_,_,_,h4,ho,_⟩:=h
 exact ⟨v,h4,ho⟩

theorem Row.setCell0 {w:World} {A:Option Addr} {l:List (Int×Int)} (h:Row w A l) {B j:Nat} (u:Value) (hB:∀a,A=some a→l≠[]→a.block≠B):Row (w.setCell ⟨B,j,none⟩ u) A l:=by
 by_cases h0:l=[]
 ·exact Or.inl h0
 ·rcases h with h|⟨b,off,rfl,hb,hc⟩
  ·exact Or.inl h
  ·have hne:=hB _ rfl h0
   refine Or.inr ⟨b,off,rfl,by simpa[World.setCell] using hb,fun i hi=> ?_⟩
   rw[World.cell?_setCell_other _ _ _ _ (by intro e;injection e with e1;exact hne e1.symm),World.cell?_setCell_other _ _ _ _ (by intro e;injection e with e1;exact hne e1.symm)]
   exact hc i hi
theorem rowNew {W:World} {n:Nat} (hn:W.heap.size=n) (x y:Int) (T:TypeId):Row (W.alloc (.cells #[.int .i64 x,.int .i64 y] T)) (some ⟨n,0,none⟩) [(x,y)]:=by
 subst hn
 refine Or.inr ⟨W.heap.size,0,rfl,by simp,fun j hj=> ?_⟩
 have h0:=box1 (w:=W) (Gr.refl (W.alloc (.cells #[.int .i64 x,.int .i64 y] T))) (j:=0) rfl
 have h1:=box1 (w:=W) (Gr.refl (W.alloc (.cells #[.int .i64 x,.int .i64 y] T))) (j:=1) rfl
 obtain rfl:j=0:=by simpa using hj
 exact ⟨h0,h1⟩
theorem Gr.drewN {a b:World} (h:Gr a b) (n:Nat):Gr a (b.drewN n):=h.trans ⟨n,#[],by rw[grow_empty]⟩

theorem Row.setCell {w:World} {A:Option Addr} {l:List (Int×Int)} (h:Row w A l) {B j:Nat} (u:Value) (hB:∀a,A=some a→a.block≠B):Row (w.setCell ⟨B,j,none⟩ u) A l:=by
 rcases h with h|⟨b,off,rfl,hb,hc⟩
 ·exact Or.inl h
 ·have hne:=hB _ rfl
  refine Or.inr ⟨b,off,rfl,by simpa[World.setCell] using hb,fun i hi=> ?_⟩
  rw[World.cell?_setCell_other _ _ _ _ (by intro e;injection e with e1;exact hne e1.symm),World.cell?_setCell_other _ _ _ _ (by intro e;injection e with e1;exact hne e1.symm)]
  exact hc i hi

/-- One step of fold: the dot x, behind the dot p. -/
def step (c:Ctx) (p:Option (Int×Int)) (x:Int×Int):Ctx :=
 if x.2≤clk c x.1 then c else if x.2=clk c x.1+1 then setClk c x.1 x.2 else if p=some x then c else { c with l:=c.l++[x] }

/-- What fold has made of the first k dots. -/
def foldTo (c:Ctx) (l:List (Int×Int)):Nat→Ctx
 | 0=>c
 | k+1=>step (foldTo c l k) (if k=0 then none else some (l.getD (k-1) (0,0))) (l.getD k (0,0))

theorem foldTo_zero {c:Ctx} {l:List (Int×Int)} (h:0<l.length) {x:Int×Int} (hx:l[0]=x):foldTo c l 1=step c none x:=by
 subst hx
 simp[foldTo,h]
theorem foldTo_succ {c:Ctx} {l:List (Int×Int)} {m:Nat} (h:m+1<l.length) {x y:Int×Int} (hx:l[m+1]=x) (hy:l[m]=y):foldTo c l (m+2)=step (foldTo c l (m+1)) (some y) x:=by
 subst hx hy
 have h':m<l.length:=by omega
 show step (foldTo c l (m+1)) _ _=_
 simp[h,h']

theorem step_le {c:Ctx} {p:Option (Int×Int)} {x y:Int} (h:y≤clk c x):step c p (x,y)=c:=by simp[step,h]
theorem step_eq {c:Ctx} {p:Option (Int×Int)} {x y:Int} (h:y=clk c x+1):step c p (x,y)=setClk c x y:=by
 have:¬y≤clk c x:=by omega
 unfold step
 rw[if_neg this,if_pos h]
theorem step_dup {c:Ctx} {x y:Int} (h1:¬y≤clk c x) (h2:¬y=clk c x+1):step c (some (x,y)) (x,y)=c:=by simp[step,h1,h2]
theorem step_new {c:Ctx} {p:Option (Int×Int)} {x y:Int} (h1:¬y≤clk c x) (h2:¬y=clk c x+1) (h3:p≠some (x,y)):step c p (x,y)={ c with l:=c.l++[(x,y)] }:=by simp[step,h1,h2,h3]

theorem step_clk {c:Ctx} {p:Option (Int×Int)} {x:Int×Int} (hc:okClk c=true) (hx:rightB x=true):okClk (step c p x)=true:=by
 have hn:=rightB_node hx
 unfold step
 by_cases h1:x.2≤clk c x.1
 ·simpa[h1] using hc
 ·by_cases h2:x.2=clk c x.1+1
  ·rw[if_neg h1,if_pos h2]
   refine okClk_of fun a h0 h4=> ?_
   rw[clk_setClk c x.1 x.2 a hn.1 hn.2.1 h0 h4]
   have:=clk_of_ok hc a h0 h4
   split<;>simp[inB]<;>omega
  ·rw[if_neg h1,if_neg h2]
   split
   ·exact hc
   ·exact hc
theorem foldTo_clk {c:Ctx} {l:List (Int×Int)} (hc:okClk c=true) (hl:∀x∈l,rightB x=true):∀k,k≤l.length→okClk (foldTo c l k)=true:=by
 intro k
 induction k with
 | zero=>intro _;exact hc
 | succ k ih =>
  intro hk
  have hk':k<l.length:=by omega
  refine step_clk (ih (by omega)) ?_
  have:l.getD k (0,0)=l[k]:=by simp[hk']
  rw[this]
  exact hl _ (List.getElem_mem hk')
theorem step_len (c:Ctx) (p:Option (Int×Int)) (x:Int×Int):(step c p x).l.length≤c.l.length+1:=by
 unfold step
 split
 ·omega
 ·split
  ·rw[setClk_l];omega
  ·split
   ·omega
   ·simp
theorem foldTo_len (c:Ctx) (l:List (Int×Int)):∀k,(foldTo c l k).l.length≤c.l.length+k:=by
 intro k
 induction k with
 | zero=>exact Nat.le_refl _
 | succ k ih =>
  have:=step_len (foldTo c l k) (if k=0 then none else some (l.getD (k-1) (0,0))) (l.getD k (0,0))
  show (step _ _ _).l.length≤_
  omega

end Go.Proofs.YtkadjjmkokhldaaGreat

namespace Go.Proofs.YtkadjjmkokhldaaGreat
open Go.RowKit Go.Sort

/-- Block B holds the context c, whose cloud is the slice at A. -/
structure CtxAt (w:World) (B:Nat) (c:Ctx) (A:Option Addr) (cap:Nat):Prop where
 k0:w.cell? ⟨B,0,none⟩=some (.int .i64 c.c0)
 k1:w.cell? ⟨B,1,none⟩=some (.int .i64 c.c1)
 k2:w.cell? ⟨B,2,none⟩=some (.int .i64 c.c2)
 k3:w.cell? ⟨B,3,none⟩=some (.int .i64 c.c3)
 k4:w.cell? ⟨B,4,none⟩=some (.slice A c.l.length cap)
 lt:B<w.heap.size
 row:Row w A c.l

theorem CtxAt.below {w w':World} {B:Nat} {c:Ctx} {A:Option Addr} {cap:Nat} (h:CtxAt w B c A cap) (k:Below w.heap.size w w'):CtxAt w' B c A cap :=
 ⟨(k.cell (p:=⟨B,0,none⟩) h.lt).trans h.k0,(k.cell (p:=⟨B,1,none⟩) h.lt).trans h.k1,(k.cell (p:=⟨B,2,none⟩) h.lt).trans h.k2,(k.cell (p:=⟨B,3,none⟩) h.lt).trans h.k3,(k.cell (p:=⟨B,4,none⟩) h.lt).trans h.k4,Nat.lt_of_lt_of_le h.lt k.size,h.row.below k⟩
theorem CtxAt.gr {w w':World} {B:Nat} {c:Ctx} {A:Option Addr} {cap:Nat} (h:CtxAt w B c A cap) (k:Gr w w'):CtxAt w' B c A cap:=h.below k.below
theorem CtxAt.new {w:World} {c:Ctx} {A:Option Addr} {cap:Nat} (T:TypeId) (h:Row w A c.l) {B:Nat} (hB:w.heap.size=B):CtxAt (w.alloc (.cells #[.int .i64 c.c0,.int .i64 c.c1,.int .i64 c.c2,.int .i64 c.c3,.slice A c.l.length cap] T)) B c A cap:=by
 subst hB
 exact ⟨box1 (Gr.refl _) rfl,box1 (Gr.refl _) rfl,box1 (Gr.refl _) rfl,box1 (Gr.refl _) rfl,box1 (Gr.refl _) rfl,by simp,h.gr ((Gr.refl _).alloc _)⟩

/-- Block B holds the dot (x, y). -/
structure DotAt (w:World) (B:Nat) (x y:Int):Prop where
 k0:w.cell? ⟨B,0,none⟩=some (.int .i64 x)
 k1:w.cell? ⟨B,1,none⟩=some (.int .i64 y)
 lt:B<w.heap.size
theorem DotAt.below {w w':World} {B:Nat} {x y:Int} (h:DotAt w B x y) (k:Below w.heap.size w w'):DotAt w' B x y :=
 ⟨(k.cell (p:=⟨B,0,none⟩) h.lt).trans h.k0,(k.cell (p:=⟨B,1,none⟩) h.lt).trans h.k1,Nat.lt_of_lt_of_le h.lt k.size⟩
theorem DotAt.gr {w w':World} {B:Nat} {x y:Int} (h:DotAt w B x y) (k:Gr w w'):DotAt w' B x y:=h.below k.below
theorem DotAt.new {w:World} {x y:Int} (T:TypeId) {B:Nat} (hB:w.heap.size=B):DotAt (w.alloc (.cells #[.int .i64 x,.int .i64 y] T)) B x y:=by
 subst hB
 exact ⟨box1 (Gr.refl _) rfl,box1 (Gr.refl _) rfl,by simp⟩

/-- Five stores into a block: the context that it holds. -/
theorem CtxAt.set {w:World} {B:Nat} {d:Ctx} {D:Option Addr} {dp:Nat} (h:CtxAt w B d D dp) {c:Ctx} {A:Option Addr} {cap:Nat} (hr:Row w A c.l) (hA:∀a,A=some a→a.block≠B) :
  CtxAt (((((w.setCell ⟨B,0,none⟩ (.int .i64 c.c0)).setCell ⟨B,1,none⟩ (.int .i64 c.c1)).setCell ⟨B,2,none⟩ (.int .i64 c.c2)).setCell ⟨B,3,none⟩ (.int .i64 c.c3)).setCell ⟨B,4,none⟩ (.slice A c.l.length cap)) B c A cap:=by
 have e0:=h.k0
 have e1:=h.k1
 have e2:=h.k2
 have e3:=h.k3
 have e4:=h.k4
 refine ⟨?_,?_,?_,?_,?_,by simpa[World.setCell] using h.lt,((((hr.setCell _ hA).setCell _ hA).setCell _ hA).setCell _ hA).setCell _ hA⟩
 ·exact cell_set (cell_set (cell_set (cell_set (cell_set e0))))
 ·exact cell_set (cell_set (cell_set (cell_set (cell_set e1))))
 ·exact cell_set (cell_set (cell_set (cell_set (cell_set e2))))
 ·exact cell_set (cell_set (cell_set (cell_set (cell_set e3))))
 ·exact cell_set (cell_set (cell_set (cell_set (cell_set e4))))

/-- Two stores into a block: the dot that it holds. -/
theorem DotAt.set {w:World} {B:Nat} {x y x' y':Int} (h:DotAt w B x y):DotAt ((w.setCell ⟨B,0,none⟩ (.int .i64 x')).setCell ⟨B,1,none⟩ (.int .i64 y')) B x' y':=by
 refine ⟨?_,?_,by simpa[World.setCell] using h.lt⟩
 ·exact cell_set (cell_set h.k0)
 ·exact cell_set (cell_set h.k1)

/-- A store elsewhere. -/
theorem CtxAt.other {w:World} {B:Nat} {c:Ctx} {A:Option Addr} {cap:Nat} (h:CtxAt w B c A cap) {B' j:Nat} (u:Value) (hB:B≠B') (hA:∀a,A=some a→c.l≠[]→a.block≠B'):CtxAt (w.setCell ⟨B',j,none⟩ u) B c A cap:=by
 have ho:∀i,(w.setCell ⟨B',j,none⟩ u).cell? ⟨B,i,none⟩=w.cell? ⟨B,i,none⟩:=fun i=>World.cell?_setCell_other _ _ _ _ (by intro e;injection e with e1;exact hB e1.symm)
 exact ⟨(ho 0).trans h.k0,(ho 1).trans h.k1,(ho 2).trans h.k2,(ho 3).trans h.k3,(ho 4).trans h.k4,by simpa[World.setCell] using h.lt,h.row.setCell0 _ hA⟩
theorem DotAt.other {w:World} {B:Nat} {x y:Int} (h:DotAt w B x y) {B' j:Nat} (u:Value) (hB:B≠B'):DotAt (w.setCell ⟨B',j,none⟩ u) B x y:=by
 have ho:∀i,(w.setCell ⟨B',j,none⟩ u).cell? ⟨B,i,none⟩=w.cell? ⟨B,i,none⟩:=fun i=>World.cell?_setCell_other _ _ _ _ (by intro e;injection e with e1;exact hB e1.symm)
 exact ⟨(ho 0).trans h.k0,(ho 1).trans h.k1,by simpa[World.setCell] using h.lt⟩

/-- Five stores elsewhere. -/
theorem CtxAt.other5 {w:World} {B:Nat} {c:Ctx} {A:Option Addr} {cap:Nat} (h:CtxAt w B c A cap) {B':Nat} (u0 u1 u2 u3 u4:Value) (hB:B≠B') (hA:∀a,A=some a→c.l≠[]→a.block≠B') :
  CtxAt (((((w.setCell ⟨B',0,none⟩ u0).setCell ⟨B',1,none⟩ u1).setCell ⟨B',2,none⟩ u2).setCell ⟨B',3,none⟩ u3).setCell ⟨B',4,none⟩ u4) B c A cap :=
 ((((h.other u0 hB hA).other u1 hB hA).other u2 hB hA).other u3 hB hA).other u4 hB hA
theorem DotAt.other5 {w:World} {B:Nat} {x y:Int} (h:DotAt w B x y) {B':Nat} (u0 u1 u2 u3 u4:Value) (hB:B≠B') :
  DotAt (((((w.setCell ⟨B',0,none⟩ u0).setCell ⟨B',1,none⟩ u1).setCell ⟨B',2,none⟩ u2).setCell ⟨B',3,none⟩ u3).setCell ⟨B',4,none⟩ u4) B x y :=
 ((((h.other u0 hB).other u1 hB).other u2 hB).other u3 hB).other u4 hB
theorem below_set5 {B:Nat} {a w:World} (h:Below B a w) {B':Nat} (hB:B≤B') (u0 u1 u2 u3 u4:Value):Below B a (((((w.setCell ⟨B',0,none⟩ u0).setCell ⟨B',1,none⟩ u1).setCell ⟨B',2,none⟩ u2).setCell ⟨B',3,none⟩ u3).setCell ⟨B',4,none⟩ u4) :=
 ((((h.setCell hB u0).setCell hB u1).setCell hB u2).setCell hB u3).setCell hB u4

/-- Block B holds a context of nothing, that may be written. -/
structure ZAt (w:World) (B:Nat):Prop where
 k0:w.cell? ⟨B,0,none⟩=some (.int .i64 0)
 k1:w.cell? ⟨B,1,none⟩=some (.int .i64 0)
 k2:w.cell? ⟨B,2,none⟩=some (.int .i64 0)
 k3:w.cell? ⟨B,3,none⟩=some (.int .i64 0)
 k4:w.cell? ⟨B,4,none⟩=some (.slice none 0 0)
 fz:∀j,w.frozen? ⟨B,j,none⟩=false
 lt:B<w.heap.size
theorem ZAt.new (W:World) (T:TypeId) {B:Nat} (hB:W.heap.size=B):ZAt (W.alloc (.cells #[.int .i64 0,.int .i64 0,.int .i64 0,.int .i64 0,.slice none 0 0] T)) B:=by
 subst hB
 exact ⟨box1 (Gr.refl _) rfl,box1 (Gr.refl _) rfl,box1 (Gr.refl _) rfl,box1 (Gr.refl _) rfl,box1 (Gr.refl _) rfl,fun j=>box1f (Gr.refl _) j,by simp⟩
theorem ZAt.below {w w':World} {B:Nat} (h:ZAt w B) (k:Below w.heap.size w w'):ZAt w' B :=
 ⟨(k.cell (p:=⟨B,0,none⟩) h.lt).trans h.k0,(k.cell (p:=⟨B,1,none⟩) h.lt).trans h.k1,(k.cell (p:=⟨B,2,none⟩) h.lt).trans h.k2,(k.cell (p:=⟨B,3,none⟩) h.lt).trans h.k3,(k.cell (p:=⟨B,4,none⟩) h.lt).trans h.k4,fun j=>(k.frozen (p:=⟨B,j,none⟩) h.lt).trans (h.fz j),Nat.lt_of_lt_of_le h.lt k.size⟩
theorem ZAt.ctx {w:World} {B:Nat} (h:ZAt w B):CtxAt w B ⟨0,0,0,0,[]⟩ none 0:=⟨h.k0,h.k1,h.k2,h.k3,h.k4,h.lt,Or.inl rfl⟩
theorem ZAt.other5 {w:World} {B:Nat} (h:ZAt w B) {B':Nat} (u0 u1 u2 u3 u4:Value) (hB:B≠B') :
  ZAt (((((w.setCell ⟨B',0,none⟩ u0).setCell ⟨B',1,none⟩ u1).setCell ⟨B',2,none⟩ u2).setCell ⟨B',3,none⟩ u3).setCell ⟨B',4,none⟩ u4) B:=by
 have hc:=h.ctx.other5 u0 u1 u2 u3 u4 hB (fun a ha=>by cases ha)
 exact ⟨hc.k0,hc.k1,hc.k2,hc.k3,hc.k4,fun j=>by simp only[World.frozen?_setCell];exact h.fz j,hc.lt⟩

end Go.Proofs.YtkadjjmkokhldaaGreat
