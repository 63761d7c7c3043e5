/-
  Merging is a lattice: which cells a merged table has; that it doesn't matter in which order, nor how often.
  A node in memory.
  What viewkeep.spoil and spoilSet leave: blocks of the same kinds and sizes, and all outside of a range as it was.
-/
import Derived.Test.YtkadjjmkokhldaaGreatM36
import Derived.Test.YtkadjjmkokhldaaGreatM38
import Derived.Test.YtkadjjmkokhldaaGreatM26
import Derived.Test.YtkadjjmkokhldaaGreatM31
import Derived.Test.YtkadjjmkokhldaaGreatM08
namespace Go.Proofs.YtkadjjmkokhldaaGreat
open Go.RowKit Go.Sort

theorem memD_iffK {l:List Cel} {d:Int×Int}:memD l d=true↔∃y∈l,y.1=d:=by
 unfold memD
 rw[List.any_eq_true]
 constructor
 ·rintro ⟨y,hy,h⟩;exact ⟨y,hy,by simpa using h⟩
 ·rintro ⟨y,hy,h⟩;exact ⟨y,hy,by simpa using h⟩
theorem noclash {a b:Tab}:clashB a b=false↔∀x∈a.e,∀y∈b.e,y.1=x.1→y=x:=by
 unfold clashB
 rw[List.any_eq_false]
 constructor
 ·intro h x hx y hy e
  cases h4:celEq y x
  ·refine absurd ?_ (h x hx)
   unfold clP
   rw[List.any_eq_true]
   exact ⟨y,hy,by simp[e,h4]⟩
  ·exact celEq_iff.1 h4
 ·intro h x hx hcl
  unfold clP at hcl
  rw[List.any_eq_true] at hcl
  obtain ⟨y,hy,h2⟩:=hcl
  simp only[Bool.and_eq_true,decide_eq_true_eq,Bool.not_eq_true'] at h2
  have h3:=h x hx y hy h2.1
  have h4:=h2.2
  rw[h3,celEq_iff.2 rfl] at h4
  cases h4
theorem mem_mrg {a b:Tab} (hc:clashB a b=false) {x:Cel}:x∈mrg a b↔(x∈a.e∧x∈b.e)∨(x∈a.e∧hasB b.c x.1=false)∨(x∈b.e∧hasB a.c x.1=false):=by
 unfold mrg
 rw[(srtC_perm _).mem_iff]
 unfold both
 rw[List.mem_append,List.mem_filter,List.mem_filter]
 unfold stayA stayB
 simp only[Bool.or_eq_true,Bool.not_eq_true']
 have hb:x∈a.e→(memD b.e x.1=true↔x∈b.e):=by
  intro hx
  rw[memD_iffK]
  constructor
  ·rintro ⟨y,hy,e⟩
   rw[←noclash.1 hc x hx y hy e];exact hy
  ·intro h;exact ⟨x,h,rfl⟩
 constructor
 ·rintro (⟨h1,h2|h2⟩|h1)
  ·exact Or.inl ⟨h1,(hb h1).1 h2⟩
  ·exact Or.inr (Or.inl ⟨h1,h2⟩)
  ·exact Or.inr (Or.inr h1)
 ·rintro (⟨h1,h2⟩|⟨h1,h2⟩|h1)
  ·exact Or.inl ⟨h1,Or.inl ((hb h1).2 h2)⟩
  ·exact Or.inl ⟨h1,Or.inr h2⟩
  ·exact Or.inr h1
theorem mergeT_ok {a b:Tab} (h:mergeE a b=0):mergeT a b=⟨joinC a.c b.c,mrg a b⟩:=by unfold mergeT;rw[if_pos h]
theorem errT_of {c:Ctx} {e:List Cel} (hc:errC c=0) (hl:e.length≤400) (ha:Asc e) (h:∀x∈e,hasB c x.1=true∧okPlace x.2.1 x.2.2.1 x.2.2.2=true):errT ⟨c,e⟩=0:=by
 refine errT_ok hc hl fun k hk=> ?_
 have hk':k<e.length:=hk
 cases k with
 | zero =>
  rw[okCel_zero (t:=⟨c,e⟩) hk rfl]
  have:=h e[0] (List.getElem_mem hk')
  simp[this.1,this.2]
 | succ m =>
  rw[okCel_succ (t:=⟨c,e⟩) hk rfl rfl]
  have:=h e[m+1] (List.getElem_mem hk')
  have h2:=(List.pairwise_iff_getElem.1 ha) m (m+1) (by omega) hk' (by omega)
  simp[this.1,this.2,h2]
theorem mem_cases {a b:Tab} (hc:clashB a b=false) {x:Cel} (h:x∈mrg a b):x∈a.e∨x∈b.e:=by
 rcases (mem_mrg hc).1 h with h|h|h
 ·exact Or.inl h.1
 ·exact Or.inl h.1
 ·exact Or.inr h.1
/-- A merged table is right. -/
theorem errT_merge {a b:Tab} (h:mergeE a b=0):errT (mergeT a b)=0:=by
 obtain ⟨h1,h2,h3,h4,h5⟩:=mergeE_parts h
 rw[mergeT_ok h]
 refine errT_of (join_can h4).2.1 h5 (mrg_asc h1 h2) fun x hx=> ?_
 rw[join_has h4]
 rcases mem_cases h3 hx with hx|hx
 ·exact ⟨by rw[errT_has h1 hx];rfl,errT_place h1 hx⟩
 ·exact ⟨by rw[errT_has h2 hx];simp,errT_place h2 hx⟩
end Go.Proofs.YtkadjjmkokhldaaGreat

namespace Go.Proofs.YtkadjjmkokhldaaGreat
open Go.RowKit Go.Sort

/-- A table's cells from cell o of the block N on. -/
structure TbC (w:World) (N o:Nat) (t:Tab) (A:Option Addr) (ca:Nat) (D:Option Addr) (cd:Nat):Prop where
 k0:w.cell? ⟨N,o,none⟩=some (.int .i64 t.c.c0)
 k1:w.cell? ⟨N,o+1,none⟩=some (.int .i64 t.c.c1)
 k2:w.cell? ⟨N,o+2,none⟩=some (.int .i64 t.c.c2)
 k3:w.cell? ⟨N,o+3,none⟩=some (.int .i64 t.c.c3)
 k4:w.cell? ⟨N,o+4,none⟩=some (.slice A t.c.l.length ca)
 k5:w.cell? ⟨N,o+5,none⟩=some (.slice D t.e.length cd)
theorem TbC.keep {w w':World} {N o:Nat} {t:Tab} {A:Option Addr} {ca:Nat} {D:Option Addr} {cd:Nat} (h:TbC w N o t A ca D cd) (hc:∀j,o≤j→j<o+6→w'.cell? ⟨N,j,none⟩=w.cell? ⟨N,j,none⟩):TbC w' N o t A ca D cd :=
 ⟨(hc o (by omega) (by omega)).trans h.k0,(hc (o+1) (by omega) (by omega)).trans h.k1,(hc (o+2) (by omega) (by omega)).trans h.k2,(hc (o+3) (by omega) (by omega)).trans h.k3,(hc (o+4) (by omega) (by omega)).trans h.k4,(hc (o+5) (by omega) (by omega)).trans h.k5⟩
/-- A right table that lies in the block N from cell o on. -/
def TbN (w:World) (N o:Nat) (P:Nat→Prop) (t:Tab):Prop:=∃A ca D cd,TbC w N o t A ca D cd∧TbP P w t A ca D cd
theorem TbN.mono {w:World} {N o:Nat} {P Q:Nat→Prop} {t:Tab} (h:TbN w N o P t) (k:∀b,P b→Q b):TbN w N o Q t:=by
 obtain ⟨A,ca,D,cd,h1,h2⟩:=h
 exact ⟨A,ca,D,cd,h1,h2.mono k⟩
theorem TbN.keep {w w':World} {N o:Nat} {P:Nat→Prop} {t:Tab} (h:TbN w N o P t) (hA:Agr P w w') (hc:∀j,o≤j→j<o+6→w'.cell? ⟨N,j,none⟩=w.cell? ⟨N,j,none⟩):TbN w' N o P t:=by
 obtain ⟨A,ca,D,cd,h1,h2⟩:=h
 exact ⟨A,ca,D,cd,h1.keep hc,h2.agr hA⟩
theorem TbN.ok {w:World} {N o:Nat} {P:Nat→Prop} {t:Tab} (h:TbN w N o P t):errT t=0:=by
 obtain ⟨A,ca,D,cd,_,h2⟩:=h
 exact h2.ok
/-- A node: its number, its tables, its views' queries; where its view's sets are of (z, y) from number i on, and of its tables' ahead of that. -/
structure Nm (w:World) (N:Nat) (P:Nat→Prop) (id:Int) (s t:Tab) (qs:List (List Stp)) (i:Nat) (z y:List Zit):Prop where
 blk:Blk w N 77 38
 out:¬P N
 up:∀b,P b→b<w.heap.size
 cid:w.cell? ⟨N,0,none⟩=some (.int .i64 id)
 ts:TbN w N 1 P s
 tt:TbN w N 7 P t
 cnt:w.cell? ⟨N,37,none⟩=some (.int .i64 (qs.length:Int))
 le:qs.length≤4
 vs:∀j (h:j<qs.length),VwN w N (13+j*6) P qs[j] (if j<i then ofR s else z) (if j<i then ofR t else y)
/-- A node in memory. -/
def Nd (w:World) (N:Nat) (P:Nat→Prop) (id:Int) (s t:Tab) (qs:List (List Stp)):Prop:=Nm w N P id s t qs 4 [] []
section
variable {w w':World} {N:Nat} {P:Nat→Prop} {id:Int} {s t:Tab} {qs:List (List Stp)} {i:Nat} {z y:List Zit}
theorem Nm.keep (h:Nm w N P id s t qs i z y) (hN:w'.heap[N]? = w.heap[N]?) (hA:Agr P w w'):Nm w' N P id s t qs i z y:=by
 have hb:Blk w' N 77 38:=by
  obtain ⟨cur,hc,hs⟩:=h.blk
  exact ⟨cur,hN.trans hc,hs⟩
 have hc:∀j,w'.cell? ⟨N,j,none⟩=w.cell? ⟨N,j,none⟩:=fun j=>World.cell?_of_block (a:=⟨N,j,none⟩) hN
 exact ⟨hb,h.out,fun b k=>Nat.lt_of_lt_of_le (h.up b k) hA.size,(hc 0).trans h.cid,h.ts.keep hA fun j _ _=>hc j,h.tt.keep hA fun j _ _=>hc j,(hc 37).trans h.cnt,h.le,fun j hj=>(h.vs j hj).keep hA hb.lt hb.fz fun j _ _=>hc j⟩
theorem Nm.below (h:Nm w N P id s t qs i z y) (k:Below w.heap.size w w'):Nm w' N P id s t qs i z y:=h.keep (k.block N h.blk.lt) (Agr.of k)
theorem Nm.mono (h:Nm w N P id s t qs i z y) {P':Nat→Prop} (k:∀b,P b→P' b) (h1:¬P' N) (h2:∀b,P' b→b<w.heap.size):Nm w N P' id s t qs i z y :=
 ⟨h.blk,h1,h2,h.cid,h.ts.mono k,h.tt.mono k,h.cnt,h.le,fun j hj=>(h.vs j hj).mono k⟩
theorem Nd.keep (h:Nd w N P id s t qs) (hN:w'.heap[N]? = w.heap[N]?) (hA:Agr P w w'):Nd w' N P id s t qs:=Nm.keep h hN hA
theorem Nd.below (h:Nd w N P id s t qs) (k:Below w.heap.size w w'):Nd w' N P id s t qs:=Nm.below h k
theorem Nd.view (h:Nd w N P id s t qs) {j:Nat} (hj:j<qs.length):VwN w N (13+j*6) P qs[j] (ofR s) (ofR t):=by
 have:=h.vs j hj
 have hl:=h.le
 rwa [if_pos (by omega),if_pos (by omega)] at this
/-- P, and what was made meanwhile, doesn't have the node's own block. -/
theorem plus_out {m n:Nat} (h:¬P N) (hm:N<m):¬plusP P m n N:=fun k=>k.elim h fun k=>by omega
theorem plus_up {m n:Nat} (h:∀b,P b→b<n):∀b,plusP P m n b→b<n:=fun b k=>k.elim (h b) fun k=>k.2
end
end Go.Proofs.YtkadjjmkokhldaaGreat

namespace Go.Proofs.YtkadjjmkokhldaaGreat
open Go.RowKit Go.Sort

/-- Blocks outside of [lo, hi) are as they were; those inside have their kinds and sizes; an item's row is as it was, or none. -/
structure Spl (lo hi:Nat) (w w':World):Prop where
 os:w'.os=w.os
 tape:w'.tape=w.tape
 output:w'.output=w.output
 size:w.heap.size≤w'.heap.size
 out:∀g:Nat,g<w.heap.size→(g<lo∨hi≤g)→w'.heap[g]? = w.heap[g]?
 int:∀(g:Nat) (cur:Array Value),w.heap[g]? = some (.cells cur 3 (0,0))→∃cur':Array Value,w'.heap[g]? = some (.cells cur' 3 (0,0))∧cur'.size=cur.size
 itm:∀(g:Nat) (cur:Array Value),w.heap[g]? = some (.cells cur 90 (0,0))→∃cur':Array Value,w'.heap[g]? = some (.cells cur' 90 (0,0))∧cur'.size=cur.size∧∀j:Nat,(cur'[j*2]? = cur[j*2]? ∨ cur'[j*2]? = some (.slice none 0 0))∧(cur'[j*2+1]? = cur[j*2+1]? ∨ cur'[j*2+1]? = some (.int .i64 9))
 oth:∀(g:Nat) (cur:Array Value) (T:TypeId),w.heap[g]? = some (.cells cur T (0,0))→T≠3→T≠90→w'.heap[g]? = w.heap[g]?
theorem Spl.refl (lo hi:Nat) (w:World):Spl lo hi w w:=⟨rfl,rfl,rfl,Nat.le_refl _,fun _ _ _=>rfl,fun _ cur h=>⟨cur,h,rfl⟩,fun _ cur h=>⟨cur,h,rfl,fun _=>⟨Or.inl rfl,Or.inl rfl⟩⟩,fun _ _ _ _ _ _=>rfl⟩
theorem Spl.trans {lo hi:Nat} {a b c:World} (h:Spl lo hi a b) (k:Spl lo hi b c):Spl lo hi a c:=by
 refine ⟨k.os.trans h.os,k.tape.trans h.tape,k.output.trans h.output,Nat.le_trans h.size k.size,fun g hg ho=>(k.out g (Nat.lt_of_lt_of_le hg h.size) ho).trans (h.out g hg ho),fun g cur hc=> ?_,fun g cur hc=> ?_,fun g cur T hc h1 h2=> ?_⟩
 ·obtain ⟨c1,h1,h2⟩:=h.int g cur hc
  obtain ⟨c2,h3,h4⟩:=k.int g c1 h1
  exact ⟨c2,h3,h4.trans h2⟩
 ·obtain ⟨c1,h1,h2,h5⟩:=h.itm g cur hc
  obtain ⟨c2,h3,h4,h6⟩:=k.itm g c1 h1
  refine ⟨c2,h3,h4.trans h2,fun j=>⟨?_,?_⟩⟩
  ·rcases (h6 j).1 with e|e
   ·rw[e];exact (h5 j).1
   ·exact Or.inr e
  ·rcases (h6 j).2 with e|e
   ·rw[e];exact (h5 j).2
   ·exact Or.inr e
 ·have e:=h.oth g cur T hc h1 h2
  exact (k.oth g cur T (e.trans hc) h1 h2).trans e
theorem Spl.of {lo hi:Nat} {w w':World} (h:Below w.heap.size w w'):Spl lo hi w w':=by
 refine ⟨h.os,h.tape,h.output,h.size,fun g hg _=>h.block g hg,fun g cur hc=> ?_,fun g cur hc=> ?_,fun g cur T hc _ _=>h.block g (Array.getElem?_eq_some_iff.1 hc).1⟩
 ·exact ⟨cur,(h.block g (Array.getElem?_eq_some_iff.1 hc).1).trans hc,rfl⟩
 ·exact ⟨cur,(h.block g (Array.getElem?_eq_some_iff.1 hc).1).trans hc,rfl,fun _=>⟨Or.inl rfl,Or.inl rfl⟩⟩
theorem Spl.gr {lo hi:Nat} {w w':World} (h:Gr w w'):Spl lo hi w w':=Spl.of h.below
theorem Spl.below {lo hi:Nat} {w w':World} (h:Spl lo hi w w') (hlo:lo≤w.heap.size):Below lo w w':=⟨h.os,h.tape,h.output,h.size,fun g hg=>h.out g (Nat.lt_of_lt_of_le hg hlo) (Or.inl hg)⟩
theorem Spl.mono {lo hi lo' hi':Nat} {w w':World} (h:Spl lo hi w w') (h1:lo'≤lo) (h2:hi≤hi'):Spl lo' hi' w w':=⟨h.os,h.tape,h.output,h.size,fun g hg ho=>h.out g hg (by omega),h.int,h.itm,h.oth⟩
theorem heap_set {w:World} {g j:Nat} {cur:Array Value} {T:TypeId} {f:Nat×Nat} (v:Value) (h:w.heap[g]? = some (.cells cur T f)):(w.setCell ⟨g,j,none⟩ v).heap[g]? = some (.cells (cur.setIfInBounds j v) T f):=by
 show (w.heap.modify g _)[g]? = _
 rw[Array.getElem?_modify,if_pos rfl,h]
 rfl
theorem heap_set_other {w:World} {g j k:Nat} (v:Value) (h:k≠g):(w.setCell ⟨g,j,none⟩ v).heap[k]? = w.heap[k]? := by
 show (w.heap.modify g _)[k]? = _
 rw[Array.getElem?_modify,if_neg (fun e=>h e.symm)]
theorem heap_set_size (w:World) (a:Addr) (v:Value):(w.setCell a v).heap.size=w.heap.size:=by simp[World.setCell]
/-- A number is written into a row. -/
theorem Spl.setInt {lo hi:Nat} {w:World} {g j:Nat} {cur:Array Value} (h:w.heap[g]? = some (.cells cur 3 (0,0))) (h1:lo≤g) (h2:g<hi) (v:Value):Spl lo hi w (w.setCell ⟨g,j,none⟩ v):=by
 refine ⟨rfl,rfl,rfl,by rw[heap_set_size];exact Nat.le_refl _,fun k _ ho=>heap_set_other v (by omega),fun k c hc=> ?_,fun k c hc=> ?_,fun k c T hc hT _=>heap_set_other v fun e=>by
  subst e
  rw[h] at hc
  injection hc with hc
  injection hc with _ hc
  exact hT hc.symm⟩
 ·by_cases e:k=g
  ·subst e
   rw[h] at hc
   injection hc with hc
   injection hc with hc _
   subst hc
   exact ⟨_,heap_set v h,by simp⟩
  ·exact ⟨c,(heap_set_other v e).trans hc,rfl⟩
 ·have e:k≠g:=fun e=>by
   subst e
   rw[h] at hc
   injection hc with hc
   injection hc with _ hc
   exact absurd hc (by decide)
  exact ⟨c,(heap_set_other v e).trans hc,rfl,fun _=>⟨Or.inl rfl,Or.inl rfl⟩⟩
/-- An item is written into a list. -/
theorem Spl.setItm {lo hi:Nat} {w:World} {g i:Nat} {cur:Array Value} (h:w.heap[g]? = some (.cells cur 90 (0,0))) (h1:lo≤g) (h2:g<hi):Spl lo hi w ((w.setCell ⟨g,i*2,none⟩ (.slice none 0 0)).setCell ⟨g,i*2+1,none⟩ (.int .i64 9)):=by
 have hA:=heap_set (j:=i*2) (.slice none 0 0) h
 have hB:=heap_set (j:=i*2+1) (.int .i64 9) hA
 refine ⟨rfl,rfl,rfl,by rw[heap_set_size,heap_set_size];exact Nat.le_refl _,fun k _ ho=>(heap_set_other _ (by omega)).trans (heap_set_other _ (by omega)),fun k c hc=> ?_,fun k c hc=> ?_,fun k c T hc _ hT=> ?_⟩
 ·have e:k≠g:=fun e=>by
   subst e
   rw[h] at hc
   injection hc with hc
   injection hc with _ hc
   exact absurd hc (by decide)
  exact ⟨c,((heap_set_other _ e).trans (heap_set_other _ e)).trans hc,rfl⟩
 ·by_cases e:k=g
  ·subst e
   rw[h] at hc
   injection hc with hc
   injection hc with hc _
   subst hc
   refine ⟨_,hB,by simp,fun j=>⟨?_,?_⟩⟩
   ·rw[Array.getElem?_setIfInBounds,if_neg (by omega),Array.getElem?_setIfInBounds]
    by_cases e:i*2=j*2
    ·rw[if_pos e]
     by_cases hl:j*2<cur.size
     ·rw[if_pos (by omega)];exact Or.inr rfl
     ·rw[if_neg (by omega)];exact Or.inl (by rw[Array.getElem?_eq_none (by omega)])
    ·rw[if_neg e];exact Or.inl rfl
   ·rw[Array.getElem?_setIfInBounds]
    by_cases e:i*2+1=j*2+1
    ·rw[if_pos e]
     by_cases hl:j*2+1<cur.size
     ·rw[if_pos (by simp;omega)];exact Or.inr rfl
     ·rw[if_neg (by simp;omega)];exact Or.inl (by rw[Array.getElem?_eq_none (by omega)])
    ·rw[if_neg e,Array.getElem?_setIfInBounds,if_neg (by omega)];exact Or.inl rfl
  ·exact ⟨c,((heap_set_other _ e).trans (heap_set_other _ e)).trans hc,rfl,fun _=>⟨Or.inl rfl,Or.inl rfl⟩⟩
 ·have e:k≠g:=fun e=>by
   subst e
   rw[h] at hc
   injection hc with hc
   injection hc with _ hc
   exact hT hc.symm
  exact (heap_set_other _ e).trans (heap_set_other _ e)

/-- A row that may be spoilt. -/
def RowW (w:World) (lo hi:Nat) (p:Option Addr) (m c:Nat):Prop:=m≤c∧(p=none→c=0)∧∀a,p=some a→lo≤a.block∧a.block<hi∧a.off=0∧a.spot=none∧c≤maxLen∧∃cur,w.heap[a.block]? = some (.cells cur 3 (0,0))∧c≤cur.size
theorem RowW.spl {w w':World} {lo hi lo' hi':Nat} {p:Option Addr} {m c:Nat} (h:RowW w lo hi p m c) (k:Spl lo' hi' w w'):RowW w' lo hi p m c:=by
 refine ⟨h.1,h.2.1,fun a ha=> ?_⟩
 obtain ⟨h1,h2,h3,h4,h5,cur,h6,h7⟩:=h.2.2 a ha
 obtain ⟨cur',h8,h9⟩:=k.int _ cur h6
 exact ⟨h1,h2,h3,h4,h5,cur',h8,by omega⟩
theorem RowW.none (w:World) (lo hi:Nat):RowW w lo hi none 0 0:=⟨Nat.le_refl _,fun _=>rfl,fun a h=>by cases h⟩
/-- A set that may be spoilt. -/
def SetW (w:World) (lo hi:Nat) (A:Option Addr) (n k:Nat):Prop:=n≤k∧(A=none→k=0)∧∀a,A=some a→lo≤a.block∧a.block<hi∧a.off=0∧a.spot=none∧k≤maxLen∧∃cur,w.heap[a.block]? = some (.cells cur 90 (0,0))∧k*2≤cur.size∧∀j,j<n→∃p m c z,cur[j*2]? = some (.slice p m c)∧RowW w lo hi p m c∧cur[j*2+1]? = some (.int .i64 z)
theorem SetW.spl {w w':World} {lo hi lo' hi':Nat} {A:Option Addr} {n k:Nat} (h:SetW w lo hi A n k) (q:Spl lo' hi' w w'):SetW w' lo hi A n k:=by
 refine ⟨h.1,h.2.1,fun a ha=> ?_⟩
 obtain ⟨h1,h2,h3,h4,h5,cur,h6,h7,h8⟩:=h.2.2 a ha
 obtain ⟨cur',g1,g2,g3⟩:=q.itm _ cur h6
 refine ⟨h1,h2,h3,h4,h5,cur',g1,by omega,fun j hj=> ?_⟩
 obtain ⟨p,m,c,z,k1,k2,k3⟩:=h8 j hj
 obtain ⟨e1,e2⟩:=g3 j
 have hz:∃z',cur'[j*2+1]? = some (.int .i64 z'):=by
  rcases e2 with e|e
  ·exact ⟨z,e.trans k3⟩
  ·exact ⟨9,e⟩
 obtain ⟨z',hz⟩:=hz
 rcases e1 with e|e
 ·exact ⟨p,m,c,z',e.trans k1,k2.spl q,hz⟩
 ·exact ⟨none,0,0,z',e,RowW.none _ _ _,hz⟩
/-- What a call handed back. -/
theorem NwT.set {w:World} {k n hi:Nat} {C:Option Addr} {L:List Itm} (h:NwT w k n C L) (hn:NilC C L.length k) (hI:Items w C L) (hhi:(∀a,C=some a→a.block<hi)∧∀x∈L,∀a,x.p=some a→a.block<hi):SetW w n hi C L.length k:=by
 refine ⟨hn.cap,hn.z,fun a ha=> ?_⟩
 obtain ⟨h1,h2,cur,h3,h4,h5⟩:=h.arr a ha
 refine ⟨h.new.1 a ha,hhi.1 a ha,h1,h2,h5,cur,h3,h4,fun j hj=> ?_⟩
 obtain ⟨b,off,hA,_,hc⟩:=hI.at hj
 have hcc:=hc j hj
 rw[ha] at hA
 injection hA with hA
 subst hA
 simp only at h1
 subst h1
 have h3':w.heap[b]? = some (.cells cur 90 (0,0)):=h3
 have e0:cur[j*2]? = some (.slice L[j].p L[j].r.length L[j].c):=by
  have:=hcc.1
  unfold World.cell? at this
  rw[h3'] at this
  simpa using this
 have e1:cur[j*2+1]? = some (.int .i64 L[j].n):=by
  have:=hcc.2
  unfold World.cell? at this
  rw[h3'] at this
  simpa using this
 have hm:=List.getElem_mem hj
 refine ⟨_,_,_,_,e0,⟨(h.rows _ hm).2,(hI.each _ hm).2.2,fun b hb=> ?_⟩,e1⟩
 obtain ⟨g1,g2,c2,g3,g4,g5⟩:=(h.rows _ hm).1 b hb
 exact ⟨h.new.2 _ hm b hb,hhi.2 _ hm b hb,g1,g2,g5,c2,g3,g4⟩

theorem blk_cell {w:World} {b k:Nat} {cur:Array Value} {T:TypeId} (h:w.heap[b]? = some (.cells cur T (0,0))) (hk:k<cur.size):w.cell? ⟨b,k,none⟩=some cur[k]∧∀j,w.frozen? ⟨b,j,none⟩=false:=by
 refine ⟨?_,fun j=> ?_⟩
 ·unfold World.cell?
  simp only[h]
  simp[hk]
 ·unfold World.frozen?
  simp only[h]
  simp

theorem blk_any {w:World} {b k:Nat} {cur:Array Value} {T:TypeId} (h:w.heap[b]? = some (.cells cur T (0,0))) (hk:k<cur.size):∃u,w.cell? ⟨b,k,none⟩=some u:=⟨_,(blk_cell h hk).1⟩

set_option maxHeartbeats 2000000 in
theorem spoilI_any (p:Option Addr) (m c:Nat) (v:Int) (lo hi:Nat) (w:World) (h:RowW w lo hi p m c) :
  Calls Tryz.prog 14 #[.slice p m c,.int .i64 v] w fun e w'=>e= .returned (.tuple #[])∧Spl lo hi w w':=by
 have hH:Hid (RowW w lo hi p m c):=h
 have hmc:m≤c:=h.1
 cases p with
 | none =>
  obtain rfl:c=0:=h.2.1 rfl
  obtain rfl:m=0:=by omega
  clear h hmc
  go_enter Tryz.func14,Tryz.ntmps14
  go_wp2
  go_loopw [11] (fun i wr=>i= .int .i64 0∧wr=w) (fun _ _=>0)
  case atStart=>exact ⟨rfl,rfl⟩
  case round =>
   obtain ⟨rfl,rfl⟩:=hrel
   go_wp2
   go_end0
   exact ⟨rfl,Spl.refl _ _ _⟩
 | some a =>
  obtain ⟨h1,h2,h3,h4,h5,_⟩:=h.2.2 a rfl
  obtain ⟨b,off,spot⟩:=a
  simp only at h1 h2 h3 h4
  subst h3 h4
  have hcz:(c:Int)≤9223372036854775807:=by unfold maxLen at h5;omega
  have hmz:(m:Int)≤(c:Int):=by omega
  have hc0:(0:Int)≤(c:Int):=by omega
  have hb:Hid (lo≤b∧b<hi):=⟨h1,h2⟩
  clear h h1 h2 h5
  go_enter Tryz.func14,Tryz.ntmps14
  go_wp2
  go_loopw [11] (fun i wr=>∃k:Nat,k≤c∧i= .int .i64 k∧Spl lo hi w wr) (fun i _=>c-(intOf i).toNat)
  case atStart=>exact ⟨0,Nat.zero_le _,rfl,Spl.refl _ _ _⟩
  case round =>
   obtain ⟨k,hk,rfl,hsp⟩:=hrel
   by_cases hlt:k<c
   ·have hltz:(k:Int)<(c:Int):=by omega
    obtain ⟨_,_,_,_,_,cur,hcur0,hsz⟩:=(hH.out.spl hsp).2.2 _ rfl
    have hcur:wr.heap[b]? = some (.cells cur 3 (0,0)):=hcur0
    obtain ⟨u0,e0⟩:=blk_any (k:=k) hcur (by omega)
    have ef:=(blk_cell (k:=k) hcur (by omega)).2
    have hst:Hid (Spl lo hi wr (wr.setCell ⟨b,k,none⟩ (.int .i64 v))):=Spl.setInt hcur hb.out.1 hb.out.2 _
    clear hcur hsz hcur0
    go_wp2
    go_roundw
    case rel=>exact ⟨k+1,by omega,by go_num,hsp.trans hst.out⟩
    case measure=>simp[intOf];omega
   ·have hltz:¬(k:Int)<(c:Int):=by omega
    go_wp2
    go_end0
    exact ⟨rfl,hsp⟩

set_option maxHeartbeats 2000000 in
theorem spoilT_any (p:Option Addr) (m c:Nat) (lo hi:Nat) (w:World) (h:SetW w lo hi p m c) (hlo:hi≤w.heap.size) :
  Calls Tryz.prog 30 #[.slice p m c,.agg #[.slice none 0 0,.int .i64 9]] w fun e w'=>e= .returned (.tuple #[])∧Spl lo hi w w':=by
 have hH:Hid (SetW w lo hi p m c):=h
 have hmc:m≤c:=h.1
 have hgX:Gr w (w.alloc (.cells #[.slice none 0 0,.int .i64 9] 90)):=(Gr.refl _).alloc _
 cases p with
 | none =>
  obtain rfl:c=0:=h.2.1 rfl
  obtain rfl:m=0:=by omega
  clear h hmc
  go_enter Tryz.func30,Tryz.ntmps30
  go_wp2
  go_loopw [11] (fun i wr=>i= .int .i64 0∧Gr w wr) (fun _ _=>0)
  case atStart=>exact ⟨rfl,hgX⟩
  case round =>
   obtain ⟨rfl,hgr⟩:=hrel
   go_wp2
   go_end0
   exact ⟨rfl,Spl.gr hgr⟩
 | some a =>
  obtain ⟨h1,h2,h3,h4,h5,_⟩:=h.2.2 a rfl
  obtain ⟨b,off,spot⟩:=a
  simp only at h1 h2 h3 h4
  subst h3 h4
  have hcz:(c:Int)≤9223372036854775807:=by unfold maxLen at h5;omega
  have hmz:(m:Int)≤(c:Int):=by omega
  have hc0:(0:Int)≤(c:Int):=by omega
  have hb:Hid (lo≤b∧b<hi):=⟨h1,h2⟩
  have x0:=box1 (Gr.refl (w.alloc (.cells #[.slice none 0 0,.int .i64 9] 90))) (j:=0) rfl
  have x1:=box1 (Gr.refl (w.alloc (.cells #[.slice none 0 0,.int .i64 9] 90))) (j:=1) rfl
  clear h h1 h2 h5
  go_enter Tryz.func30,Tryz.ntmps30
  go_wp2
  go_loopw [11] (fun i wr=>∃k:Nat,k≤c∧i= .int .i64 k∧Spl lo hi (w.alloc (.cells #[.slice none 0 0,.int .i64 9] 90)) wr) (fun i _=>c-(intOf i).toNat)
  case atStart=>exact ⟨0,Nat.zero_le _,rfl,Spl.refl _ _ _⟩
  case round =>
   obtain ⟨k,hk,rfl,hsp⟩:=hrel
   by_cases hlt:k<c
   ·have hltz:(k:Int)<(c:Int):=by omega
    obtain ⟨_,_,_,_,_,cur,hcur0,hsz,_⟩:=((hH.out.spl (Spl.gr (lo:=lo) (hi:=hi) hgX)).spl hsp).2.2 _ rfl
    have hcur:wr.heap[b]? = some (.cells cur 90 (0,0)):=hcur0
    obtain ⟨u0,e0⟩:=blk_any (k:=k*2) hcur (by omega)
    obtain ⟨u1,e1⟩:=blk_any (k:=k*2+1) hcur (by omega)
    have ef:=(blk_cell (k:=k*2) hcur (by omega)).2
    have hst:Hid (Spl lo hi wr ((wr.setCell ⟨b,k*2,none⟩ (.slice none 0 0)).setCell ⟨b,k*2+1,none⟩ (.int .i64 9))):=Spl.setItm hcur hb.out.1 hb.out.2
    have hblk:wr.heap[w.heap.size]? = (w.alloc (.cells #[.slice none 0 0,.int .i64 9] 90)).heap[w.heap.size]? := hsp.out w.heap.size (by simp) (Or.inr hlo)
    have y0:wr.cell? ⟨w.heap.size,0,none⟩=some (.slice none 0 0):=(World.cell?_of_block (a:=⟨w.heap.size,0,none⟩) hblk).trans x0
    have y1:wr.cell? ⟨w.heap.size,1,none⟩=some (.int .i64 9):=(World.cell?_of_block (a:=⟨w.heap.size,1,none⟩) hblk).trans x1
    clear hcur hsz hblk hcur0
    go_wp2
    go_roundw
    case rel=>exact ⟨k+1,by omega,by go_num,hsp.trans hst.out⟩
    case measure=>simp[intOf];omega
   ·have hltz:¬(k:Int)<(c:Int):=by omega
    go_wp2
    go_end0
    exact ⟨rfl,(Spl.gr hgX).trans hsp⟩

set_option maxHeartbeats 2000000 in
theorem spoilSet_any (A:Option Addr) (n k lo hi:Nat) (w:World) (h:SetW w lo hi A n k) (hlo:hi≤w.heap.size) :
  Calls Tryz.prog 19 #[.slice A n k] w fun e w'=>e= .returned (.tuple #[])∧Spl lo hi w w':=by
 have hH:Hid (SetW w lo hi A n k∧hi≤w.heap.size):=⟨h,hlo⟩
 have hnm:n≤9223372036854775807:=by
  have h1:=h.1
  cases A with
  | none=>have:=h.2.1 rfl;omega
  | some a=>have h2:=(h.2.2 a rfl).2.2.2.2.1;unfold maxLen at h2;omega
 clear h hlo
 go_enter Tryz.func19,Tryz.ntmps19
 go_wp2
 go_loopw [6] (fun i wr=>∃j:Nat,j≤n∧i= .int .i64 j∧Spl lo hi w wr) (fun i _=>n-(intOf i).toNat)
 case atStart=>exact ⟨0,Nat.zero_le _,rfl,Spl.refl _ _ _⟩
 case round =>
  obtain ⟨j,hj,rfl,hsp⟩:=hrel
  have hS:=hH.out.1.spl hsp
  by_cases hlt:j<n
  ·have hltz:(j:Int)<(n:Int):=by omega
   cases A with
   | none=>have:=hS.2.1 rfl;have:=hS.1;omega
   | some a =>
    obtain ⟨h1,h2,h3,h4,_,cur,hcur,hsz,hj8⟩:=hS.2.2 a rfl
    obtain ⟨b,off,spot⟩:=a
    simp only at h1 h2 h3 h4 hcur
    subst h3 h4
    obtain ⟨p,m,c,z,e0,hrw,e1⟩:=hj8 j hlt
    have hnk:=hS.1
    have f0:wr.cell? ⟨b,j*2,none⟩=some (.slice p m c):=by
     have:=(blk_cell (k:=j*2) hcur (by omega)).1
     rw[this,←e0,Array.getElem?_eq_getElem (by omega)]
    have f1:wr.cell? ⟨b,j*2+1,none⟩=some (.int .i64 z):=by
     have:=(blk_cell (k:=j*2+1) hcur (by omega)).1
     rw[this,←e1,Array.getElem?_eq_getElem (by omega)]
    have hgX:Gr wr (wr.alloc (.cells #[.slice p m c,.int .i64 z] 90)):=(Gr.refl _).alloc _
    have hsi:=spoilI_any p m c 9 lo hi (wr.alloc (.cells #[.slice p m c,.int .i64 z] 90)) (hrw.spl (Spl.gr (lo:=lo) (hi:=hi) hgX))
    have hsiH:Hid _:=hsi
    clear hsi hcur hsz hj8 e0 e1 hrw hS h1 h2
    go_wp2_with fail
    refine Calls.mono (show Calls _ _ _ _ _ from hsiH.out) ?_
    rintro e w1 ⟨rfl,hs1⟩
    clear hsiH f0 f1
    go_wp2
    go_roundw
    case rel=>exact ⟨j+1,by omega,by go_num,hsp.trans ((Spl.gr hgX).trans hs1)⟩
    case measure=>simp[intOf];omega
  ·have hltz:¬(j:Int)<(n:Int):=by omega
   have hst:=spoilT_any A n k lo hi wr hS (Nat.le_trans hH.out.2 hsp.size)
   have hstH:Hid _:=hst
   clear hst hS
   go_wp2_with fail
   refine Calls.mono (show Calls _ _ _ _ _ from hstH.out) ?_
   rintro e w1 ⟨rfl,hs1⟩
   clear hstH
   go_wp2
   go_end0
   exact ⟨rfl,hsp.trans hs1⟩
end Go.Proofs.YtkadjjmkokhldaaGreat
