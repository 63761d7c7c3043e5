/-
  Items (a row and how many times it is there): what they are in memory; what zset.Check answers.
  A list of items of one's own, whose rows are one's own too: what an append of one more item leaves.
  Sets with weights: rows in order, how often each is there; two sets in which each row is as often are one.
-/
import Derived.Test.YtkadjjmkokhldaaGreatM07
import Derived.Maps.AppendAt
namespace Go.Proofs.YtkadjjmkokhldaaGreat
open Go.RowKit Go.Sort

/-- An item: where its row lies, the room there, the row, the weight. -/
structure Itm where
 p:Option Addr
 c:Nat
 r:List Int
 n:Int
def encT (x:Itm):List Value:=[.slice x.p x.r.length x.c,.int .i64 x.n]
theorem encT_len (x:Itm):(encT x).length=2:=rfl
theorem encT_one (x:Itm):∀u∈encT x,u.oneCell'=true:=by
 intro u hu
 simp[encT] at hu
 rcases hu with rfl|rfl<;>rfl
/-- A slice's place and room: none has no room, and the room is enough. -/
def NilC (A:Option Addr) (n c:Nat):Prop:=Unit→(if A.isNone then c else 0)+(n-c)=0
theorem NilC.z {A:Option Addr} {n c:Nat} (h:NilC A n c):A=none→c=0:=fun e=>by
 subst e
 have h1:c+(n-c)=0:=h ()
 omega
theorem NilC.cap {A:Option Addr} {n c:Nat} (h:NilC A n c):n≤c:=by
 have:=h ()
 omega
theorem NilC.mk {A:Option Addr} {n c:Nat} (h:A=none→c=0) (k:n≤c):NilC A n c:=fun _=>by
 cases A with
 | none=>rw[h rfl] at k ⊢;simp;omega
 | some a=>simp;omega
/-- A list of items in memory, and each item's row. -/
structure Items (w:World) (A:Option Addr) (l:List Itm):Prop where
 row:RowG encT 2 w A l
 each:∀x∈l,RowI w x.p x.r∧x.r.length≤maxLen∧(x.p=none→x.c=0)
theorem Items.below {w w':World} {A:Option Addr} {l:List Itm} (h:Items w A l) (q:Below w.heap.size w w'):Items w' A l:=⟨h.row.below q,fun x hx=>⟨(h.each x hx).1.below q,(h.each x hx).2⟩⟩
theorem Items.gr {w w':World} {A:Option Addr} {l:List Itm} (h:Items w A l) (q:Gr w w'):Items w' A l:=h.below q.below
/-- What one finds at an index. -/
theorem Items.at {w:World} {A:Option Addr} {l:List Itm} (h:Items w A l) {k:Nat} (hk:k<l.length):∃b off,A=some ⟨b,off,none⟩∧b<w.heap.size∧∀j (hj:j<l.length),w.cell? ⟨b,off+j*2,none⟩=some (.slice l[j].p l[j].r.length l[j].c)∧w.cell? ⟨b,off+j*2+1,none⟩=some (.int .i64 l[j].n):=by
 obtain ⟨b,off,hA,hb,hc⟩:=h.row.at hk
 exact ⟨b,off,hA,hb,fun j hj=>⟨hc j hj 0 (by omega),hc j hj 1 (by omega)⟩⟩

/-- An item as the document speaks of it. -/
abbrev Zit:=List Int×Int
def Itm.z (x:Itm):Zit:=(x.r,x.n)
/-- May it stand in a set? -/
def okZ (x:Zit):Bool:=okR x.1 && okW x.2 && decide (x.2≠0)
/-- Does the row at k stand behind the one ahead of it? -/
def incZ (l:List Zit) (k:Nat):Bool:=decide (k=0) || decide (cmpL (l.getD (k-1) ([],0)).1 (l.getD k ([],0)).1<0)
/-- What Check answers. -/
def errZ (l:List Zit):Int:=if 400<l.length then 2 else if ∃k,k<l.length∧(okZ (l.getD k ([],0)) && incZ l k)=false then 5 else 0

end Go.Proofs.YtkadjjmkokhldaaGreat

namespace Go.Proofs.YtkadjjmkokhldaaGreat
open Go.RowKit Go.Sort

theorem Tryz.infoT:(Tryz.prog.info? 90).map (fun i=>(i.zero,i.size,i.bytes))=some (some (.agg #[.slice none 0 0,.int .i64 0]),2,32):=by kernel_rfl

/-- A row that lies apart from the block ob, in memory made behind base. -/
structure Apart (w:World) (base:Nat) (ob:Option Nat) (x:Itm):Prop where
 row:RowI w x.p x.r
 len:x.r.length≤maxLen
 nil:x.p=none→x.c=0
 own:∀a,x.p=some a→base≤a.block∧a.block<w.heap.size∧ob≠some a.block
/-- A list of items of one's own. -/
structure OwnT (w:World) (base:Nat) (v:Value) (l:List Itm):Prop where
 own:OwnG encT 2 90 w base v l
 each:∀x∈l,Apart w base v.ownBlock x
/-- What a call hands back lies in blocks of its own. -/
def NewT (n:Nat) (C:Option Addr) (L:List Itm):Prop:=(∀a,C=some a→n≤a.block)∧∀x∈L,∀a,x.p=some a→n≤a.block
theorem NewT.none (n:Nat):NewT n none []:=⟨fun a h=>(by cases h),fun x hx=>(by cases hx)⟩
theorem NewT.mono {n m:Nat} {C:Option Addr} {L:List Itm} (h:NewT n C L) (hm:m≤n):NewT m C L:=⟨fun a ha=>Nat.le_trans hm (h.1 a ha),fun x hx a ha=>Nat.le_trans hm (h.2 x hx a ha)⟩
/-- The room of a row may be written. -/
def RoomI (w:World) (A:Option Addr) (c:Nat):Prop:=∀a,A=some a→a.off=0∧a.spot=none∧∃cur,w.heap[a.block]? = some (.cells cur 3 (0,0))∧c≤cur.size∧c≤maxLen
/-- The room of a list of items may be written. -/
def RoomA (w:World) (A:Option Addr) (c:Nat):Prop:=∀a,A=some a→a.off=0∧a.spot=none∧∃cur,w.heap[a.block]? = some (.cells cur 90 (0,0))∧c*2≤cur.size∧c≤maxLen
/-- .. of each item's row. -/
def RoomL (w:World) (L:List Itm):Prop:=∀x∈L,RoomI w x.p x.c∧x.r.length≤x.c
theorem RoomI.lt {w:World} {A:Option Addr} {c:Nat} (h:RoomI w A c):∀a,A=some a→a.block<w.heap.size:=fun a ha=>by
 obtain ⟨_,_,cur,hc,_⟩:=h a ha
 exact (Array.getElem?_eq_some_iff.1 hc).1
theorem RoomA.lt {w:World} {A:Option Addr} {c:Nat} (h:RoomA w A c):∀a,A=some a→a.block<w.heap.size:=fun a ha=>by
 obtain ⟨_,_,cur,hc,_⟩:=h a ha
 exact (Array.getElem?_eq_some_iff.1 hc).1
theorem RoomI.block {w w':World} {A:Option Addr} {c:Nat} (h:RoomI w A c) (k:∀a,A=some a→w'.heap[a.block]? = w.heap[a.block]?):RoomI w' A c:=fun a ha=>by
 obtain ⟨h1,h2,cur,hc,h3⟩:=h a ha
 exact ⟨h1,h2,cur,(k a ha).trans hc,h3⟩
theorem RoomA.block {w w':World} {A:Option Addr} {c:Nat} (h:RoomA w A c) (k:∀a,A=some a→w'.heap[a.block]? = w.heap[a.block]?):RoomA w' A c:=fun a ha=>by
 obtain ⟨h1,h2,cur,hc,h3⟩:=h a ha
 exact ⟨h1,h2,cur,(k a ha).trans hc,h3⟩
theorem RoomI.below {w w':World} {A:Option Addr} {c:Nat} (h:RoomI w A c) (q:Below w.heap.size w w'):RoomI w' A c:=h.block fun a ha=>q.block _ (h.lt a ha)
theorem RoomA.below {w w':World} {A:Option Addr} {c:Nat} (h:RoomA w A c) (q:Below w.heap.size w w'):RoomA w' A c:=h.block fun a ha=>q.block _ (h.lt a ha)
theorem RoomL.below {w w':World} {L:List Itm} (h:RoomL w L) (q:Below w.heap.size w w'):RoomL w' L:=fun x hx=>⟨(h x hx).1.below q,(h x hx).2⟩
/-- A block of another kind may be written: what is written has its own type. -/
theorem RoomI.grown {w w':World} {A:Option Addr} {c:Nat} {row:Option Nat} (h:RoomI w A c) (q:w.grownBy w' row) (hne:∀g,row=some g→∃cur T,w.heap[g]? = some (.cells cur T (0,0))∧T≠3):RoomI w' A c:=h.block fun a ha=>q.block _ (h.lt a ha) fun e=>by
 obtain ⟨_,_,cur,hc,_⟩:=h a ha
 obtain ⟨cur',T,hc',hT⟩:=hne _ e.symm
 rw[hc] at hc'
 injection hc' with hc'
 injection hc' with _ h2
 exact hT h2.symm
theorem RoomA.grown {w w':World} {A:Option Addr} {c:Nat} {row:Option Nat} (h:RoomA w A c) (q:w.grownBy w' row) (hne:∀g,row=some g→∃cur T,w.heap[g]? = some (.cells cur T (0,0))∧T≠90):RoomA w' A c:=h.block fun a ha=>q.block _ (h.lt a ha) fun e=>by
 obtain ⟨_,_,cur,hc,_⟩:=h a ha
 obtain ⟨cur',T,hc',hT⟩:=hne _ e.symm
 rw[hc] at hc'
 injection hc' with hc'
 injection hc' with _ h2
 exact hT h2.symm
theorem RoomL.grown {w w':World} {L:List Itm} {row:Option Nat} (h:RoomL w L) (q:w.grownBy w' row) (hne:∀g,row=some g→∃cur T,w.heap[g]? = some (.cells cur T (0,0))∧T≠3):RoomL w' L:=fun x hx=>⟨(h x hx).1.grown q hne,(h x hx).2⟩
/-- What a value owns is of its own type. -/
theorem OwnG.typed {α : Type} {enc: α → List Value} {k:Nat} {e:TypeId} {w:World} {base:Nat} {v:Value} {l:List α} (h:OwnG enc k e w base v l) {E:TypeId} (hE:e≠E):∀g,v.ownBlock=some g→∃cur T,w.heap[g]? = some (.cells cur T (0,0))∧T≠E:=by
 intro g hg
 rcases h.2 with ⟨hv,_⟩|⟨g',cap,cur,hv,_,hc,_⟩
 ·rw[hv] at hg;cases hg
 ·rw[hv] at hg
  obtain rfl:=Option.some.inj hg
  exact ⟨cur,e,hc,hE⟩
/-- A list of one's own: its room. -/
theorem OwnG.roomA {w:World} {base:Nat} {A:Option Addr} {n cap:Nat} {l:List Itm} (h:OwnG encT 2 90 w base (.slice A n cap) l):RoomA w A cap:=by
 intro a ha
 rcases h.2 with ⟨hv,_⟩|⟨g',cap',cur,hv,_,hc,_,hm,hs,_⟩
 ·rw[ha] at hv;injection hv with h1;cases h1
 ·rw[ha] at hv
  injection hv with h1 _ h3
  injection h1 with h1
  subst h1 h3
  exact ⟨rfl,rfl,cur,hc,by omega,hm⟩
theorem OwnG.roomI {w:World} {base:Nat} {A:Option Addr} {n cap:Nat} {l:List Int} (h:OwnG encI 1 3 w base (.slice A n cap) l):RoomI w A cap:=by
 intro a ha
 rcases h.2 with ⟨hv,_⟩|⟨g',cap',cur,hv,_,hc,_,hm,hs,_⟩
 ·rw[ha] at hv;injection hv with h1;cases h1
 ·rw[ha] at hv
  injection hv with h1 _ h3
  injection h1 with h1
  subst h1 h3
  exact ⟨rfl,rfl,cur,hc,by omega,hm⟩
/-- What a call hands back lies in blocks of its own, and its room may be written. -/
structure NwT (w:World) (k n:Nat) (C:Option Addr) (L:List Itm):Prop where
 new:NewT n C L
 arr:RoomA w C k
 rows:RoomL w L
theorem NwT.none (w:World) (n:Nat):NwT w 0 n none []:=⟨NewT.none n,fun a h=>(by cases h),fun x hx=>(by cases hx)⟩
theorem NwT.mono {w:World} {k n m:Nat} {C:Option Addr} {L:List Itm} (h:NwT w k n C L) (hm:m≤n):NwT w k m C L:=⟨h.new.mono hm,h.arr,h.rows⟩
theorem NwT.below {w w':World} {k n:Nat} {C:Option Addr} {L:List Itm} (h:NwT w k n C L) (q:Below w.heap.size w w'):NwT w' k n C L:=⟨h.new,h.arr.below q,h.rows.below q⟩
theorem OwnT.nil (w:World) (base:Nat):OwnT w base (.slice none 0 0) []:=⟨OwnG.nil _ _ _ _ _,fun x hx=>by cases hx⟩
theorem Apart.below {w w':World} {base:Nat} {ob:Option Nat} {x:Itm} (h:Apart w base ob x) (q:Below w.heap.size w w'):Apart w' base ob x :=
 ⟨h.row.below q,h.len,h.nil,fun a ha=>⟨(h.own a ha).1,Nat.lt_of_lt_of_le (h.own a ha).2.1 q.size,(h.own a ha).2.2⟩⟩
theorem OwnT.below {w w':World} {base:Nat} {v:Value} {l:List Itm} (h:OwnT w base v l) (q:Below w.heap.size w w'):OwnT w' base v l:=⟨h.own.below q,fun x hx=>(h.each x hx).below q⟩
theorem OwnT.gr {w w':World} {base:Nat} {v:Value} {l:List Itm} (h:OwnT w base v l) (q:Gr w w'):OwnT w' base v l:=h.below q.below
/-- What it is to a reader. -/
theorem OwnT.items {w:World} {base:Nat} {v:Value} {l:List Itm} (h:OwnT w base v l):∃A cap,v= .slice A l.length cap∧NilC A l.length cap∧Items w A l∧(∀a,A=some a→base≤a.block∧a.block<w.heap.size):=by
 obtain ⟨A,cap,hv,hA,hr,hc,ha,_⟩:=OwnG.full encT_len h.own
 exact ⟨A,cap,hv,NilC.mk hA hc,⟨hr,fun x hx=>⟨(h.each x hx).row,(h.each x hx).len,(h.each x hx).nil⟩⟩,fun a e=>⟨(ha a e).1,(ha a e).2.1⟩⟩
theorem Apart.grown {w w':World} {base:Nat} {ob ob':Option Nat} {x:Itm} (h:Apart w base ob x) (q:w.grownBy w' ob) (hob:ob'=ob∨ob'=some w.heap.size):Apart w' base ob' x:=by
 refine ⟨?_,h.len,h.nil,fun a ha=>⟨(h.own a ha).1,Nat.lt_of_lt_of_le (h.own a ha).2.1 q.size,?_⟩⟩
 ·rcases h.row with k|⟨b,off,hp,hb,hc⟩
  ·exact Or.inl k
  ·refine Or.inr ⟨b,off,hp,Nat.lt_of_lt_of_le hb q.size,fun j hj i hi=> ?_⟩
   have hne:=(h.own _ hp).2.2
   rw[World.cell?_of_block (a:=⟨b,off+j*1+i,none⟩) (q.block b hb fun e=>hne e.symm)]
   exact hc j hj i hi
 ·rcases hob with e|e
  ·rw[e];exact (h.own a ha).2.2
  ·rw[e]
   intro k
   injection k with k
   have:=(h.own a ha).2.1
   omega
/-- append(v, x) -/
theorem run_append_t (w:World) (ty:TypeId) (base:Nat) (v:Value) (l:List Itm) (x:Itm) (A:Addr) (cap:Nat) (hown:OwnT w base v l) (hr:RowG encT 2 w (some A) [x]) (hx:Apart w base v.ownBlock x)
  (hml:l.length+1≤maxLen) (hb:(l.length+1)*32≤140737488355328) (hbase:base≤w.heap.size) :
  ∃v' w',(Builtin.append_ #[62,62] ty #[v,.slice (some A) 1 cap]).run Tryz.prog w= .ok v' w'∧OwnT w' base v' (l++[x])∧Below base w w'∧w.grownBy w' v.ownBlock:=by
 obtain ⟨i0,hi,hz0,hz1,hz2⟩:=info_parts Tryz.infoT
 obtain ⟨v',w',g1,g2,g3,_,g5⟩:=run_append_own_at (P:=Tryz.prog) w base 62 ty 90 i0 (.agg #[.slice none 0 0,.int .i64 0]) 2 32 Tryz.underlying62 hi hz0 hz1 hz2 rfl (by omega) v l.length (flatG encT l) hown.own A 1 cap (flatG encT [x]) (flatG_length encT_len [x]) (hr.cells encT_len (by omega)) (fun u hu=>flatG_one encT_one u [x] hu) hml hb hbase
 refine ⟨v',w',g1,⟨?_,fun y hy=> ?_⟩,OwnG.grown_below hown.own g3 hbase,g3⟩
 ·show w'.ownsRow base _ 2 v' (l++[x]).length (flatG encT (l++[x]))
  rw[List.length_append,flatG_append]
  exact g2
 ·rcases List.mem_append.1 hy with k|k
  ·exact (hown.each y k).grown g3 g5
  ·have:y=x:=by simpa using k
   subst this
   exact hx.grown g3 g5
theorem wpList_append_t (w:World) {ops:Array Oper} {rest:List Oper} {o:Oper} {a:Act} {Q:Exit→Act→World→Prop} (hgd:o.guard=none) (s z:Operand)
  (ho:o.op= .call { callee:= .builtin .append,args:= #[s,z],argTypes:= #[62,62] })
  (base:Nat) (v:Value) (l:List Itm) (x:Itm) (A:Addr) (cap:Nat) (hs:a.eval s=v) (hz:a.eval z= .slice (some A) 1 cap) (hown:OwnT w base v l) (hr:RowG encT 2 w (some A) [x]) (hx:Apart w base v.ownBlock x)
  (hml:l.length+1≤maxLen) (hb:(l.length+1)*32≤140737488355328) (hbase:base≤w.heap.size)
  (h:∀v' w',OwnT w' base v' (l++[x])→Below base w w'→wpList Tryz.prog ops Q rest (a.put o.dst v') w'):wpList Tryz.prog ops Q (o::rest) a w :=
 wpList_plain hgd fun _ hK=>by
  obtain ⟨v',w',hr,h2,h3,_⟩:=run_append_t w o.type base v l x A cap hown hr hx hml hb hbase
  unfold Oper.wp execOp
  simp only[ho,resolve,invoke,builtin,Sem.run_bind,Sem.run_pure,Result.andThen_ok,List.map_toArray,List.map_cons,List.map_nil,hs,hz,hr]
  exact hK _ _ (h v' w' h2 h3)
theorem wpList_append_tg (w:World) {ops:Array Oper} {rest:List Oper} {o:Oper} {a:Act} {Q:Exit→Act→World→Prop} (hgd:o.guard=none) (s z:Operand)
  (ho:o.op= .call { callee:= .builtin .append,args:= #[s,z],argTypes:= #[62,62] })
  (base:Nat) (v:Value) (l:List Itm) (x:Itm) (A:Addr) (cap:Nat) (hs:a.eval s=v) (hz:a.eval z= .slice (some A) 1 cap) (hown:OwnT w base v l) (hr:RowG encT 2 w (some A) [x]) (hx:Apart w base v.ownBlock x)
  (hml:l.length+1≤maxLen) (hb:(l.length+1)*32≤140737488355328) (hbase:base≤w.heap.size)
  (h:∀v' w',OwnT w' base v' (l++[x])→Below base w w'→w.grownBy w' v.ownBlock→wpList Tryz.prog ops Q rest (a.put o.dst v') w'):wpList Tryz.prog ops Q (o::rest) a w :=
 wpList_plain hgd fun _ hK=>by
  obtain ⟨v',w',hr,h2,h3,h4⟩:=run_append_t w o.type base v l x A cap hown hr hx hml hb hbase
  unfold Oper.wp execOp
  simp only[ho,resolve,invoke,builtin,Sem.run_bind,Sem.run_pure,Result.andThen_ok,List.map_toArray,List.map_cons,List.map_nil,hs,hz,hr]
  exact hK _ _ (h v' w' h2 h3 h4)
theorem step_append_t (w:World) {ops:Array Oper} {o:Oper} {a:Act} {K:Act→World→Prop} {Q:Exit→Act→World→Prop} {E:Prop} (hgd:o.guard=none) (s z:Operand)
  (ho:o.op= .call { callee:= .builtin .append,args:= #[s,z],argTypes:= #[62,62] })
  (base:Nat) (v:Value) (l:List Itm) (x:Itm) (A:Addr) (cap:Nat) (hs:a.eval s=v) (hz:a.eval z= .slice (some A) 1 cap) (hown:OwnT w base v l) (hr:RowG encT 2 w (some A) [x]) (hx:Apart w base v.ownBlock x)
  (hml:l.length+1≤maxLen) (hb:(l.length+1)*32≤140737488355328) (hbase:base≤w.heap.size)
  (h:∀v' w',OwnT w' base v' (l++[x])→Below base w w'→w.grownBy w' v.ownBlock→K (a.put o.dst v') w') :
  if Region.wanted o (yielded ops a.tmps)=true then Oper.wp Tryz.prog o a w K Q else E:=by
 have hw:Region.wanted o (yielded ops a.tmps)=true:=by simp[Region.wanted,hgd]
 rw[if_pos hw]
 obtain ⟨v',w',hr,h2,h3,h4⟩:=run_append_t w o.type base v l x A cap hown hr hx hml hb hbase
 unfold Oper.wp execOp
 simp only[ho,resolve,invoke,builtin,Sem.run_bind,Sem.run_pure,Result.andThen_ok,List.map_toArray,List.map_cons,List.map_nil,hs,hz,hr]
 exact h v' w' h2 h3 h4

/-- A list of items that lies in memory. -/
structure Lv (W:World) (A:Option Addr) (c:Nat) (l:List Itm):Prop where
 items:Items W A l
 nilc:NilC A l.length c
 len:l.length≤maxLen
theorem Lv.nil {W:World} {A:Option Addr} {c:Nat} {l:List Itm} (h:Lv W A c l):A=none→c=0:=h.nilc.z
theorem Lv.below {W W':World} {A:Option Addr} {c:Nat} {l:List Itm} (h:Lv W A c l) (q:Below W.heap.size W W'):Lv W' A c l:=⟨h.items.below q,h.nilc,h.len⟩
theorem Lv.gr {W W':World} {A:Option Addr} {c:Nat} {l:List Itm} (h:Lv W A c l) (q:Gr W W'):Lv W' A c l:=h.below q.below

end Go.Proofs.YtkadjjmkokhldaaGreat

namespace Go.Proofs.YtkadjjmkokhldaaGreat

theorem cmpI_cases (x y:Int):(cmpI x y= -1∧x<y)∨(cmpI x y=0∧x=y)∨(cmpI x y=1∧y<x):=by
 unfold cmpI
 by_cases h:x<y
 ·rw[if_pos h];exact Or.inl ⟨rfl,h⟩
 ·rw[if_neg h]
  by_cases k:y<x
  ·rw[if_pos k];exact Or.inr (Or.inr ⟨rfl,k⟩)
  ·rw[if_neg k];exact Or.inr (Or.inl ⟨rfl,by omega⟩)
theorem cmpL_flip:∀a b:List Int,cmpL b a= -cmpL a b
 | [],[]=>rfl
 | [],_::_=>rfl
 | _::_,[]=>rfl
 | x::a,y::b=>by
  have h1:=cmpI_cases x y
  have h2:=cmpI_cases y x
  show (if cmpI y x=0 then cmpL b a else cmpI y x)= -(if cmpI x y=0 then cmpL a b else cmpI x y)
  by_cases e:x=y
  ·subst e
   have:cmpI x x=0:=by omega
   rw[if_pos this,if_pos this];exact cmpL_flip a b
  ·rw[if_neg (by omega),if_neg (by omega)];omega
theorem cmpL_self:∀a:List Int,cmpL a a=0
 | []=>rfl
 | x::a=>by
  have h1:=cmpI_cases x x
  show (if cmpI x x=0 then cmpL a a else cmpI x x)=0
  rw[if_pos (by omega)];exact cmpL_self a
theorem cmpL_eq:∀a b:List Int,cmpL a b=0→a=b
 | [],[],_=>rfl
 | [],_::_,h=>by cases h
 | _::_,[],h=>by cases h
 | x::a,y::b,h=>by
  have h1:=cmpI_cases x y
  have h':(if cmpI x y=0 then cmpL a b else cmpI x y)=0:=h
  by_cases e:cmpI x y=0
  ·rw[if_pos e] at h'
   obtain rfl:x=y:=by omega
   rw[cmpL_eq a b h']
  ·rw[if_neg e] at h';exact absurd h' e
theorem cmpL_trans:∀a b c:List Int,cmpL a b≤0→cmpL b c≤0→cmpL a c≤0∧(cmpL a b<0∨cmpL b c<0→cmpL a c<0)
 | [],b,[],h1,h2=>by
  cases b with
  | nil=>exact ⟨by decide,fun h=>by rcases h with h|h<;>cases h⟩
  | cons=>exact absurd h2 (by show ¬((1:Int)≤0);decide)
 | [],_,_::_,_,_=>⟨by show (-1:Int)≤0;decide,fun _=>by show (-1:Int)<0;decide⟩
 | _::_,[],_,h,_=>absurd h (by show ¬((1:Int)≤0);decide)
 | _::_,_::_,[],_,h=>absurd h (by show ¬((1:Int)≤0);decide)
 | x::a,y::b,z::c,h1,h2=>by
  have k1:=cmpI_cases x y
  have k2:=cmpI_cases y z
  have k3:=cmpI_cases x z
  have h1':(if cmpI x y=0 then cmpL a b else cmpI x y)≤0:=h1
  have h2':(if cmpI y z=0 then cmpL b c else cmpI y z)≤0:=h2
  show (if cmpI x z=0 then cmpL a c else cmpI x z)≤0∧((if cmpI x y=0 then cmpL a b else cmpI x y)<0∨(if cmpI y z=0 then cmpL b c else cmpI y z)<0→(if cmpI x z=0 then cmpL a c else cmpI x z)<0)
  by_cases e1:cmpI x y=0
  ·rw[if_pos e1] at h1' ⊢
   by_cases e2:cmpI y z=0
   ·rw[if_pos e2] at h2' ⊢
    rw[if_pos (by omega)]
    exact cmpL_trans a b c h1' h2'
   ·rw[if_neg e2] at h2' ⊢
    rw[if_neg (by omega)]
    exact ⟨by omega,fun _=>by omega⟩
  ·rw[if_neg e1] at h1' ⊢
   have e3:cmpI y z=0∨cmpI y z= -1:=by
    by_cases e2:cmpI y z=0
    ·exact Or.inl e2
    ·rw[if_neg e2] at h2';omega
   rw[if_neg (by omega)]
   exact ⟨by omega,fun _=>by omega⟩
theorem cmpL_lt_trans {a b c:List Int} (h1:cmpL a b<0) (h2:cmpL b c<0):cmpL a c<0:=(cmpL_trans a b c (by omega) (by omega)).2 (Or.inl h1)
theorem cmpL_ne {a b:List Int} (h:cmpL a b<0):a≠b:=fun e=>by rw[e,cmpL_self] at h;omega

/-- How often a row is there in all. -/
def wt:List Zit→List Int→Int
 | [],_=>0
 | x::t,r=>(if x.1=r then x.2 else 0)+wt t r
theorem wt_append (a b:List Zit) (r:List Int):wt (a++b) r=wt a r+wt b r:=by
 induction a with
 | nil=>simp[wt]
 | cons x a ih=>simp only[List.cons_append,wt,ih];omega
theorem wt_perm {a b:List Zit} (h:a.Perm b) (r:List Int):wt a r=wt b r:=by
 induction h with
 | nil=>rfl
 | cons x _ ih=>simp only[wt,ih]
 | swap x y l=>simp only[wt];omega
 | trans _ _ h1 h2=>rw[h1,h2]
theorem wt_none {l:List Zit} {r:List Int} (h:∀x∈l,x.1≠r):wt l r=0:=by
 induction l with
 | nil=>rfl
 | cons x l ih =>
  simp only[wt]
  rw[if_neg (h x (by simp)),ih fun y hy=>h y (by simp[hy])];rfl
theorem wt_some {l:List Zit} {r:List Int} (h:wt l r≠0):∃x∈l,x.1=r:=by
 induction l with
 | nil=>exact absurd rfl h
 | cons x l ih =>
  by_cases e:x.1=r
  ·exact ⟨x,by simp,e⟩
  ·simp only[wt] at h
   rw[if_neg e] at h
   obtain ⟨y,hy,hr⟩:=ih (by omega)
   exact ⟨y,by simp[hy],hr⟩
theorem wt_neg (l:List Zit) (r:List Int):wt (l.map fun x=>(x.1,-x.2)) r= -wt l r:=by
 induction l with
 | nil=>rfl
 | cons x l ih =>
  simp only[List.map_cons,wt,ih]
  by_cases e:x.1=r
  ·rw[if_pos e,if_pos e];omega
  ·rw[if_neg e,if_neg e];omega

/-- The rows are in order, each once. -/
def Rise (l:List Zit):Prop:=l.Pairwise fun x y=>cmpL x.1 y.1<0
/-- No row is there not at all. -/
def NoZ (l:List Zit):Prop:=∀x∈l,x.2≠0
theorem Rise.wt {l:List Zit} (h:Rise l) {x:Zit} (hx:x∈l):wt l x.1=x.2:=by
 induction l with
 | nil=>cases hx
 | cons y l ih =>
  have h':=List.pairwise_cons.1 h
  simp only[Go.Proofs.YtkadjjmkokhldaaGreat.wt]
  rcases List.mem_cons.1 hx with e|e
  ·subst e
   rw[if_pos rfl,wt_none fun z hz k=>cmpL_ne (h'.1 z hz) k.symm];omega
  ·rw[if_neg (cmpL_ne (h'.1 x e)),ih h'.2 e];omega
theorem riseZ_ext:∀ {a b:List Zit},Rise a→Rise b→NoZ a→NoZ b→(∀r,wt a r=wt b r)→a=b
 | [],[],_,_,_,_,_=>rfl
 | [],y::b,_,hb,_,nb,h=>by
  have h1:=h y.1
  rw[hb.wt (List.mem_cons_self ..)] at h1
  exact absurd h1.symm (nb y (List.mem_cons_self ..))
 | x::a,[],ha,_,na,_,h=>by
  have h1:=h x.1
  rw[ha.wt (List.mem_cons_self ..)] at h1
  exact absurd h1 (na x (List.mem_cons_self ..))
 | x::a,y::b,ha,hb,na,nb,h=>by
  have ha':=List.pairwise_cons.1 ha
  have hb':=List.pairwise_cons.1 hb
  have hx:=h x.1
  have hy:=h y.1
  rw[ha.wt (List.mem_cons_self ..)] at hx
  rw[hb.wt (List.mem_cons_self ..)] at hy
  have e:cmpL x.1 y.1=0:=by
   by_cases l1:cmpL x.1 y.1<0
   ·exfalso
    refine na x (List.mem_cons_self ..) (hx.trans (wt_none fun z hz k=> ?_))
    rcases List.mem_cons.1 hz with e|e
    ·subst e;exact cmpL_ne l1 k.symm
    ·exact cmpL_ne (cmpL_lt_trans l1 (hb'.1 z e)) k.symm
   ·by_cases l2:cmpL y.1 x.1<0
    ·exfalso
     refine nb y (List.mem_cons_self ..) (hy.symm.trans (wt_none fun z hz k=> ?_))
     rcases List.mem_cons.1 hz with e|e
     ·subst e;exact cmpL_ne l2 k.symm
     ·exact cmpL_ne (cmpL_lt_trans l2 (ha'.1 z e)) k.symm
    ·have:=cmpL_flip x.1 y.1;omega
  have e1:=cmpL_eq _ _ e
  have e2:x.2=y.2:=by rw[hx,e1,hb.wt (List.mem_cons_self ..)]
  obtain rfl:x=y:=Prod.ext e1 e2
  rw[riseZ_ext ha'.2 hb'.2 (fun z hz=>na z (List.mem_cons_of_mem _ hz)) (fun z hz=>nb z (List.mem_cons_of_mem _ hz)) fun r=>by
   have:=h r
   simp only[Go.Proofs.YtkadjjmkokhldaaGreat.wt] at this
   omega]

theorem getZ_lt {l:List Zit} {k:Nat} (h:k<l.length):l.getD k ([],0)=l[k]:=by
 rw[List.getD_eq_getElem?_getD,List.getElem?_eq_getElem h];rfl
/-- What Check takes. -/
theorem errZ_iff (l:List Zit):errZ l=0↔l.length≤400∧(∀x∈l,okZ x=true)∧Rise l:=by
 unfold errZ
 by_cases h4:400<l.length
 ·rw[if_pos h4]
  exact ⟨fun h=>absurd h (by decide),fun h=>absurd h.1 (by omega)⟩
 ·rw[if_neg h4]
  constructor
  ·intro h
   have hall:∀k,k<l.length→okZ (l.getD k ([],0))=true∧incZ l k=true:=by
    intro k hk
    have:(okZ (l.getD k ([],0)) && incZ l k)=true:=by
     cases e:(okZ (l.getD k ([],0)) && incZ l k)
     ·rw[if_pos ⟨k,hk,e⟩] at h;cases h
     ·rfl
    simpa using this
   have hstep:∀k (h:k+1<l.length),cmpL l[k].1 l[k+1].1<0:=by
    intro k hk
    have:=(hall (k+1) hk).2
    unfold incZ at this
    rw[Nat.add_sub_cancel,getZ_lt hk,getZ_lt (show k<l.length by omega)] at this
    simpa using this
   refine ⟨by omega,?_,?_⟩
   ·intro x hx
    obtain ⟨k,hk,rfl⟩:=List.mem_iff_getElem.1 hx
    have:=(hall k hk).1
    rwa [getZ_lt hk] at this
   ·have:∀d i (hi:i+d+1<l.length),cmpL (l[i]'(by omega)).1 (l[i+d+1]'hi).1<0:=by
     intro d
     induction d with
     | zero=>intro i hi;exact hstep i hi
     | succ d ih=>intro i hi;exact cmpL_lt_trans (ih i (by omega)) (hstep (i+d+1) hi)
    unfold Rise
    rw[List.pairwise_iff_getElem]
    intro i j hi hj hij
    have h':=this (j-i-1) i (by omega)
    have e:i+(j-i-1)+1=j:=by omega
    simpa only[e] using h'
  ·rintro ⟨_,h1,h2⟩
   rw[if_neg]
   rintro ⟨k,hk,hf⟩
   have h3:okZ (l.getD k ([],0))=true:=by rw[getZ_lt hk];exact h1 _ (List.getElem_mem hk)
   have h5:incZ l k=true:=by
    unfold incZ
    by_cases e:k=0
    ·simp[e]
    ·rw[getZ_lt hk,getZ_lt (show k-1<l.length by omega)]
     have:=(List.pairwise_iff_getElem.1 h2) (k-1) k (by omega) hk (by omega)
     simp[this]
   rw[h3,h5] at hf;cases hf

/-- Is a row there too often? -/
def BadT (l:List Zit):Prop:=∃r,okW (wt l r)=false
/-- S is the set in which each row is as often as in l. -/
structure IsTot (l S:List Zit):Prop where
 rise:Rise S
 noz:NoZ S
 same:∀r,wt S r=wt l r
theorem IsTot.uniq {l m S T:List Zit} (h:IsTot l S) (k:IsTot m T) (e:∀r,wt l r=wt m r):S=T:=riseZ_ext h.rise k.rise h.noz k.noz fun r=>by rw[h.same,k.same,e]
theorem okZ_noz {l:List Zit} (h:∀x∈l,okZ x=true):NoZ l:=fun x hx=>by
 have:=h x hx
 unfold okZ at this
 simp at this
 exact this.2
theorem IsTot.row {l S:List Zit} (h:IsTot l S) {x:Zit} (hx:x∈S):∃y∈l,y.1=x.1:=wt_some (by rw[←h.same,h.rise.wt hx];exact h.noz x hx)
/-- Such a set is right, if it has room. -/
theorem IsTot.okZ {l S:List Zit} (h:IsTot l S) (hb:¬BadT l) (hr:∀x∈l,okR x.1=true):∀x∈S,okZ x=true:=by
 intro x hx
 obtain ⟨y,hy,e⟩:=h.row hx
 have h1:=hr y hy
 have h2:okW x.2=true:=by
  cases e2:okW x.2
  ·exact absurd ⟨x.1,by rw[←h.same,h.rise.wt hx];exact e2⟩ hb
  ·rfl
 unfold Go.Proofs.YtkadjjmkokhldaaGreat.okZ
 rw[←e,h1,h2]
 simp[h.noz x hx]
theorem okZ_parts {x:Zit} (h:okZ x=true):okR x.1=true∧okW x.2=true∧x.2≠0:=by
 unfold okZ at h
 simp only[Bool.and_eq_true,decide_eq_true_eq] at h
 exact ⟨h.1.1,h.1.2,h.2⟩
theorem okW_neg (n:Int):okW (-n)=okW n:=by
 unfold okW inB
 rw[Bool.eq_iff_iff]
 simp only[Bool.and_eq_true,decide_eq_true_eq]
 omega
theorem negL_ok {l:List Zit} (h:errZ l=0):errZ (l.map fun x=>(x.1,-x.2))=0:=by
 rw[errZ_iff] at h ⊢
 refine ⟨by simpa using h.1,?_,?_⟩
 ·intro x hx
  obtain ⟨y,hy,rfl⟩:=List.mem_map.1 hx
  have:=okZ_parts (h.2.1 y hy)
  unfold okZ
  simp only[Bool.and_eq_true,decide_eq_true_eq]
  exact ⟨⟨this.1,by rw[okW_neg];exact this.2.1⟩,by omega⟩
 ·unfold Rise
  rw[List.pairwise_map]
  exact h.2.2

end Go.Proofs.YtkadjjmkokhldaaGreat
