/-
  What spoiling leaves: blocks that are kept, and the kinds and sizes of the others; viewkeep.spoil at dots, cells and steps.
  What is handed in, opened: a slice of cells, a table.
  What is handed in, opened: a list of steps.
-/
import Derived.Test.YtkadjjmkokhldaaGreatM39
import Derived.Test.YtkadjjmkokhldaaGreatM25
import Derived.Test.YtkadjjmkokhldaaGreatM13
import Derived.Test.YtkadjjmkokhldaaGreatM03
import Derived.SizedLaws
import Derived.Test.YtkadjjmkokhldaaGreatM14
import Derived.Test.YtkadjjmkokhldaaGreatM17
namespace Go.Proofs.YtkadjjmkokhldaaGreat
open Go.RowKit Go.Sort

/-- The blocks of K, and those of kinds outside of U, are as they were; all have their kinds and sizes. -/
structure Sp (K:Nat→Prop) (U:TypeId→Prop) (w w':World):Prop where
 os:w'.os=w.os
 tape:w'.tape=w.tape
 output:w'.output=w.output
 size:w.heap.size≤w'.heap.size
 keep:∀g:Nat,g<w.heap.size→K g→w'.heap[g]? = w.heap[g]?
 kind:∀(g:Nat) (cur:Array Value) (T:TypeId),w.heap[g]? = some (.cells cur T (0,0))→∃cur':Array Value,w'.heap[g]? = some (.cells cur' T (0,0))∧cur'.size=cur.size
 oth:∀(g:Nat) (cur:Array Value) (T:TypeId),w.heap[g]? = some (.cells cur T (0,0))→¬U T→w'.heap[g]? = w.heap[g]?
section
variable {K K':Nat→Prop} {U U':TypeId→Prop} {a b c w w':World}
theorem Sp.trans (h:Sp K U a b) (k:Sp K U b c):Sp K U a c:=by
 refine ⟨k.os.trans h.os,k.tape.trans h.tape,k.output.trans h.output,Nat.le_trans h.size k.size,fun g hg ho=>(k.keep g (Nat.lt_of_lt_of_le hg h.size) ho).trans (h.keep g hg ho),fun g cur T hc=> ?_,fun g cur T hc hU=> ?_⟩
 ·obtain ⟨c1,h1,h2⟩:=h.kind g cur T hc
  obtain ⟨c2,h3,h4⟩:=k.kind g c1 T h1
  exact ⟨c2,h3,h4.trans h2⟩
 ·have e:=h.oth g cur T hc hU
  exact (k.oth g cur T (e.trans hc) hU).trans e
theorem Sp.of (h:Below w.heap.size w w'):Sp K U w w' :=
 ⟨h.os,h.tape,h.output,h.size,fun g hg _=>h.block g hg,fun g cur _ hc=>⟨cur,(h.block g (Array.getElem?_eq_some_iff.1 hc).1).trans hc,rfl⟩,fun g _ _ hc _=>h.block g (Array.getElem?_eq_some_iff.1 hc).1⟩
theorem Sp.refl (K:Nat→Prop) (U:TypeId→Prop) (w:World):Sp K U w w:=Sp.of (Below.refl _ _)
theorem Sp.mono (h:Sp K U w w') (k1:∀b,K' b→K b) (k2:∀T,U T→U' T):Sp K' U' w w':=⟨h.os,h.tape,h.output,h.size,fun g hg k=>h.keep g hg (k1 g k),h.kind,fun g cur T hc hU=>h.oth g cur T hc fun u=>hU (k2 T u)⟩
theorem Sp.below {n:Nat} (h:Sp K U w w') (hn:n≤w.heap.size) (k:∀b,b<n→K b):Below n w w':=⟨h.os,h.tape,h.output,h.size,fun g hg=>h.keep g (Nat.lt_of_lt_of_le hg hn) (k g hg)⟩
theorem Sp.agr {P:Nat→Prop} (h:Sp K U w w') (k:∀b,P b→K b):Agr P w w':=⟨h.size,fun b hb hl=>h.keep b hl (k b hb)⟩
theorem Sp.ofSpl {lo hi:Nat} (h:Spl lo hi w w') (k:∀b,K b→b<lo∨hi≤b):Sp K (fun T=>T=3∨T=90) w w':=by
 refine ⟨h.os,h.tape,h.output,h.size,fun g hg hk=>h.out g hg (k g hk),fun g cur T hc=> ?_,fun g cur T hc hU=>h.oth g cur T hc (fun e=>hU (Or.inl e)) fun e=>hU (Or.inr e)⟩
 by_cases e1:T=3
 ·subst e1
  exact h.int g cur hc
 ·by_cases e2:T=90
  ·subst e2
   obtain ⟨c,h1,h2,_⟩:=h.itm g cur hc
   exact ⟨c,h1,h2⟩
  ·exact ⟨cur,(h.oth g cur T hc e1 e2).trans hc,rfl⟩
end
/-- One block alone is written, and keeps its kind and size. -/
structure One (B:Nat) (T:TypeId) (n:Nat) (w w':World):Prop where
 gr:w.grownBy w' (some B)
 blk:∃cur:Array Value,w'.heap[B]? = some (.cells cur T (0,0))∧cur.size=n
theorem One.set {B:Nat} {T:TypeId} {n:Nat} {w w':World} (h:One B T n w w') (j:Nat) (v:Value):One B T n w (w'.setCell ⟨B,j,none⟩ v):=by
 obtain ⟨cur,hc,hn⟩:=h.blk
 refine ⟨⟨h.gr.os,h.gr.tape,h.gr.output,by rw[heap_set_size];exact h.gr.size,fun g hg hne=> ?_⟩,⟨_,heap_set v hc,by simpa using hn⟩⟩
 rw[heap_set_other v (fun e=>hne (by rw[e]))]
 exact h.gr.block g hg hne
theorem One.sp {B:Nat} {T:TypeId} {n:Nat} {w w':World} {K:Nat→Prop} (h:One B T n w w') (hB:¬K B) {cur:Array Value} (hc:w.heap[B]? = some (.cells cur T (0,0))) (hn:cur.size=n):Sp K (fun t=>t=T) w w':=by
 refine ⟨h.gr.os,h.gr.tape,h.gr.output,h.gr.size,fun g hg hk=>h.gr.block g hg fun e=>hB (by injection e with e;rw[←e];exact hk),fun g c t hg=> ?_,fun g c t hg ht=>h.gr.block g (Array.getElem?_eq_some_iff.1 hg).1 fun e=> ?_⟩
 ·by_cases e:g=B
  ·subst e
   rw[hc] at hg
   injection hg with hg
   injection hg with h1 h2
   subst h1 h2
   obtain ⟨c',h3,h4⟩:=h.blk
   exact ⟨c',h3,h4.trans hn.symm⟩
  ·exact ⟨c,(h.gr.block g (Array.getElem?_eq_some_iff.1 hg).1 fun e'=>e (by injection e')).trans hg,rfl⟩
 ·injection e with e
  subst e
  rw[hc] at hg
  injection hg with hg
  injection hg with _ h2
  exact ht h2.symm
/-- A row of elements of k cells each that may be spoilt. -/
def RowS (T:TypeId) (k:Nat) (K:Nat→Prop) (w:World) (p:Option Addr) (m c:Nat):Prop:=m≤c∧(p=none→c=0)∧∀a,p=some a→¬K a.block∧a.off=0∧a.spot=none∧c≤maxLen∧∃cur,w.heap[a.block]? = some (.cells cur T (0,0))∧c*k≤cur.size
theorem RowS.sp {T:TypeId} {k:Nat} {K K':Nat→Prop} {U:TypeId→Prop} {w w':World} {p:Option Addr} {m c:Nat} (h:RowS T k K w p m c) (q:Sp K' U w w'):RowS T k K w' p m c:=by
 refine ⟨h.1,h.2.1,fun a ha=> ?_⟩
 obtain ⟨h1,h2,h3,h4,cur,h5,h6⟩:=h.2.2 a ha
 obtain ⟨cur',g1,g2⟩:=q.kind _ cur T h5
 exact ⟨h1,h2,h3,h4,cur',g1,by omega⟩
theorem RowS.below {T:TypeId} {k:Nat} {K:Nat→Prop} {w w':World} {p:Option Addr} {m c:Nat} (h:RowS T k K w p m c) (q:Below w.heap.size w w'):RowS T k K w' p m c:=h.sp (K':=K) (U:=fun _=>True) (Sp.of q)
theorem RowS.of {T:TypeId} {k base:Nat} {K:Nat→Prop} {w:World} {p:Option Addr} {m c:Nat} {l:List Value} (h:w.ownsRow base T k (.slice p m c) m l) (hK:∀g,base≤g→g<w.heap.size→¬K g):RowS T k K w p m c:=by
 rcases h.2 with ⟨h1,h2⟩|⟨g,cap,cur,hv,hb,hc,h1,h2,h3,_⟩
 ·injection h1 with e1 e2 e3
  subst e1 e2 e3
  exact ⟨Nat.le_refl _,fun _=>rfl,fun a ha=>by cases ha⟩
 ·injection hv with e1 _ e3
  subst e1 e3
  refine ⟨h1,(fun h=>by cases h),fun a ha=> ?_⟩
  injection ha with ha
  subst ha
  exact ⟨hK g hb (Array.getElem?_eq_some_iff.1 hc).1,rfl,rfl,h2,cur,hc,by omega⟩
theorem RowS.mono {T:TypeId} {k:Nat} {K K':Nat→Prop} {w:World} {p:Option Addr} {m c:Nat} (h:RowS T k K w p m c) (q:∀a,p=some a→¬K' a.block):RowS T k K' w p m c :=
 ⟨h.1,h.2.1,fun a ha=>⟨q a ha,(h.2.2 a ha).2⟩⟩
/-- A row of numbers. -/
theorem RowS.ints {K:Nat→Prop} {w:World} {p:Option Addr} {m c lo hi:Nat} (h:RowS 3 1 K w p m c) (q:∀a,p=some a→lo≤a.block∧a.block<hi):RowW w lo hi p m c:=by
 refine ⟨h.1,h.2.1,fun a ha=> ?_⟩
 obtain ⟨h1,h2,h3,h4,cur,h5,h6⟩:=h.2.2 a ha
 exact ⟨(q a ha).1,(q a ha).2,h2,h3,h4,cur,h5,by omega⟩
set_option maxRecDepth 100000 in
set_option maxHeartbeats 4000000 in
theorem spoilD_any (p:Option Addr) (m c:Nat) (K:Nat→Prop) (w:World) (h:RowS 52 2 K w p m c) :
  Calls Tryz.prog 17 #[.slice p m c,.agg #[.int .i64 0,.int .i64 0]] w fun e w'=>e= .returned (.tuple #[])∧Sp K (fun t=>t=52) w w':=by
 have hmc:m≤c:=h.1
 have hgX:Hid (Gr w (w.alloc (.cells #[.int .i64 0,.int .i64 0] 52))):=(Gr.refl _).alloc _
 cases p with
 | none =>
  obtain rfl:c=0:=h.2.1 rfl
  obtain rfl:m=0:=by omega
  clear h hmc
  go_enter Tryz.func17,Tryz.ntmps17
  go_wp2
  go_loopw [11] (fun i wr=>i= .int .i64 0∧Hid (Gr w wr)) (fun _ _=>0)
  case atStart=>exact ⟨rfl,hgX⟩
  case round =>
   obtain ⟨rfl,hgr⟩:=hrel
   go_wp2
   go_end0
   exact ⟨rfl,Sp.of hgr.out.below⟩
 | some a =>
  obtain ⟨h1,h2,h3,h5,cur0,hc0,hs0⟩:=h.2.2 a rfl
  obtain ⟨b,off,spot⟩:=a
  simp only at h1 h2 h3 hc0
  subst h2 h3
  have hcz:(c:Int)≤9223372036854775807:=by unfold maxLen at h5;omega
  have hmz:(m:Int)≤(c:Int):=by omega
  have hcn:(0:Int)≤(c:Int):=by omega
  have hlt0:b<w.heap.size:=(Array.getElem?_eq_some_iff.1 hc0).1
  have hcA:Hid ((w.alloc (.cells #[.int .i64 0,.int .i64 0] 52)).heap[b]? = some (.cells cur0 52 (0,0))∧¬K b∧b≠w.heap.size∧c*2≤cur0.size):=⟨(hgX.out.below.block b hlt0).trans hc0,h1,by omega,hs0⟩
  have x0:=box1 (Gr.refl (w.alloc (.cells #[.int .i64 0,.int .i64 0] 52))) (j:=0) rfl
  have x1:=box1 (Gr.refl (w.alloc (.cells #[.int .i64 0,.int .i64 0] 52))) (j:=1) rfl
  have hone:Hid (One b 52 cur0.size (w.alloc (.cells #[.int .i64 0,.int .i64 0] 52)) (w.alloc (.cells #[.int .i64 0,.int .i64 0] 52))):=⟨⟨rfl,rfl,rfl,Nat.le_refl _,fun _ _ _=>rfl⟩,⟨cur0,hcA.out.1,rfl⟩⟩
  clear h h1 h5 hc0 hs0 hlt0
  go_enter Tryz.func17,Tryz.ntmps17
  go_wp2
  go_loopw [11] (fun i wr=>∃k:Nat,k≤c∧i= .int .i64 k∧One b 52 cur0.size (w.alloc (.cells #[.int .i64 0,.int .i64 0] 52)) wr) (fun i _=>c-(intOf i).toNat)
  case atStart=>exact ⟨0,Nat.zero_le _,rfl,hone.out⟩
  case round =>
   obtain ⟨k,hk,rfl,hsp⟩:=hrel
   by_cases hlt:k<c
   ·have hltz:(k:Int)<(c:Int):=by omega
    obtain ⟨cur,hcur,hsz⟩:=hsp.blk
    have hcs:=hcA.out.2.2.2
    obtain ⟨u0,e0⟩:=blk_any (k:=k*2) hcur (by omega)
    obtain ⟨u1,e1⟩:=blk_any (k:=k*2+1) hcur (by omega)
    have ef:=(blk_cell (k:=k*2) hcur (by omega)).2
    have hst:Hid (One b 52 cur0.size (w.alloc (.cells #[.int .i64 0,.int .i64 0] 52)) ((wr.setCell ⟨b,k*2,none⟩ (.int .i64 0)).setCell ⟨b,k*2+1,none⟩ (.int .i64 0))):=((hsp.set (k*2) (.int .i64 0)).set (k*2+1) (.int .i64 0))
    have hblk:wr.heap[w.heap.size]? = (w.alloc (.cells #[.int .i64 0,.int .i64 0] 52)).heap[w.heap.size]? := hsp.gr.block w.heap.size (by simp) (fun e=>hcA.out.2.2.1 (by injection e with e;exact e.symm))
    have y0:wr.cell? ⟨w.heap.size,0,none⟩=some (.int .i64 0):=(World.cell?_of_block (a:=⟨w.heap.size,0,none⟩) hblk).trans x0
    have y1:wr.cell? ⟨w.heap.size,1,none⟩=some (.int .i64 0):=(World.cell?_of_block (a:=⟨w.heap.size,1,none⟩) hblk).trans x1
    clear hcur hsz hblk hcs
    go_wp2
    go_roundw
    case rel=>exact ⟨k+1,by omega,by go_num,hst.out⟩
    case measure=>simp[intOf];omega
   ·have hltz:¬(k:Int)<(c:Int):=by omega
    go_wp2
    go_end0
    exact ⟨rfl,(Sp.of hgX.out.below).trans (hsp.sp hcA.out.2.1 hcA.out.1 rfl)⟩
set_option maxRecDepth 100000 in
set_option maxHeartbeats 4000000 in
theorem spoilC_any (p:Option Addr) (m c:Nat) (K:Nat→Prop) (w:World) (h:RowS 55 5 K w p m c) :
  Calls Tryz.prog 16 #[.slice p m c,.agg #[.int .i64 0,.int .i64 0,.int .i64 0,.int .i64 0,.int .i64 0]] w fun e w'=>e= .returned (.tuple #[])∧Sp K (fun t=>t=55) w w':=by
 have hmc:m≤c:=h.1
 have hgX:Hid (Gr w (w.alloc (.cells #[.int .i64 0,.int .i64 0,.int .i64 0,.int .i64 0,.int .i64 0] 55))):=(Gr.refl _).alloc _
 cases p with
 | none =>
  obtain rfl:c=0:=h.2.1 rfl
  obtain rfl:m=0:=by omega
  clear h hmc
  go_enter Tryz.func16,Tryz.ntmps16
  go_wp2
  go_loopw [11] (fun i wr=>i= .int .i64 0∧Hid (Gr w wr)) (fun _ _=>0)
  case atStart=>exact ⟨rfl,hgX⟩
  case round =>
   obtain ⟨rfl,hgr⟩:=hrel
   go_wp2
   go_end0
   exact ⟨rfl,Sp.of hgr.out.below⟩
 | some a =>
  obtain ⟨h1,h2,h3,h5,cur0,hc0,hs0⟩:=h.2.2 a rfl
  obtain ⟨b,off,spot⟩:=a
  simp only at h1 h2 h3 hc0
  subst h2 h3
  have hcz:(c:Int)≤9223372036854775807:=by unfold maxLen at h5;omega
  have hmz:(m:Int)≤(c:Int):=by omega
  have hcn:(0:Int)≤(c:Int):=by omega
  have hlt0:b<w.heap.size:=(Array.getElem?_eq_some_iff.1 hc0).1
  have hcA:Hid ((w.alloc (.cells #[.int .i64 0,.int .i64 0,.int .i64 0,.int .i64 0,.int .i64 0] 55)).heap[b]? = some (.cells cur0 55 (0,0))∧¬K b∧b≠w.heap.size∧c*5≤cur0.size):=⟨(hgX.out.below.block b hlt0).trans hc0,h1,by omega,hs0⟩
  have x0:=box1 (Gr.refl (w.alloc (.cells #[.int .i64 0,.int .i64 0,.int .i64 0,.int .i64 0,.int .i64 0] 55))) (j:=0) rfl
  have x1:=box1 (Gr.refl (w.alloc (.cells #[.int .i64 0,.int .i64 0,.int .i64 0,.int .i64 0,.int .i64 0] 55))) (j:=1) rfl
  have x2:=box1 (Gr.refl (w.alloc (.cells #[.int .i64 0,.int .i64 0,.int .i64 0,.int .i64 0,.int .i64 0] 55))) (j:=2) rfl
  have x3:=box1 (Gr.refl (w.alloc (.cells #[.int .i64 0,.int .i64 0,.int .i64 0,.int .i64 0,.int .i64 0] 55))) (j:=3) rfl
  have x4:=box1 (Gr.refl (w.alloc (.cells #[.int .i64 0,.int .i64 0,.int .i64 0,.int .i64 0,.int .i64 0] 55))) (j:=4) rfl
  have hone:Hid (One b 55 cur0.size (w.alloc (.cells #[.int .i64 0,.int .i64 0,.int .i64 0,.int .i64 0,.int .i64 0] 55)) (w.alloc (.cells #[.int .i64 0,.int .i64 0,.int .i64 0,.int .i64 0,.int .i64 0] 55))):=⟨⟨rfl,rfl,rfl,Nat.le_refl _,fun _ _ _=>rfl⟩,⟨cur0,hcA.out.1,rfl⟩⟩
  clear h h1 h5 hc0 hs0 hlt0
  go_enter Tryz.func16,Tryz.ntmps16
  go_wp2
  go_loopw [11] (fun i wr=>∃k:Nat,k≤c∧i= .int .i64 k∧One b 55 cur0.size (w.alloc (.cells #[.int .i64 0,.int .i64 0,.int .i64 0,.int .i64 0,.int .i64 0] 55)) wr) (fun i _=>c-(intOf i).toNat)
  case atStart=>exact ⟨0,Nat.zero_le _,rfl,hone.out⟩
  case round =>
   obtain ⟨k,hk,rfl,hsp⟩:=hrel
   by_cases hlt:k<c
   ·have hltz:(k:Int)<(c:Int):=by omega
    obtain ⟨cur,hcur,hsz⟩:=hsp.blk
    have hcs:=hcA.out.2.2.2
    obtain ⟨u0,e0⟩:=blk_any (k:=k*5) hcur (by omega)
    obtain ⟨u1,e1⟩:=blk_any (k:=k*5+1) hcur (by omega)
    obtain ⟨u2,e2⟩:=blk_any (k:=k*5+2) hcur (by omega)
    obtain ⟨u3,e3⟩:=blk_any (k:=k*5+3) hcur (by omega)
    obtain ⟨u4,e4⟩:=blk_any (k:=k*5+4) hcur (by omega)
    have ef:=(blk_cell (k:=k*5) hcur (by omega)).2
    have hst:Hid (One b 55 cur0.size (w.alloc (.cells #[.int .i64 0,.int .i64 0,.int .i64 0,.int .i64 0,.int .i64 0] 55)) (((((wr.setCell ⟨b,k*5,none⟩ (.int .i64 0)).setCell ⟨b,k*5+1,none⟩ (.int .i64 0)).setCell ⟨b,k*5+2,none⟩ (.int .i64 0)).setCell ⟨b,k*5+3,none⟩ (.int .i64 0)).setCell ⟨b,k*5+4,none⟩ (.int .i64 0))):=(((((hsp.set (k*5) (.int .i64 0)).set (k*5+1) (.int .i64 0)).set (k*5+2) (.int .i64 0)).set (k*5+3) (.int .i64 0)).set (k*5+4) (.int .i64 0))
    have hblk:wr.heap[w.heap.size]? = (w.alloc (.cells #[.int .i64 0,.int .i64 0,.int .i64 0,.int .i64 0,.int .i64 0] 55)).heap[w.heap.size]? := hsp.gr.block w.heap.size (by simp) (fun e=>hcA.out.2.2.1 (by injection e with e;exact e.symm))
    have y0:wr.cell? ⟨w.heap.size,0,none⟩=some (.int .i64 0):=(World.cell?_of_block (a:=⟨w.heap.size,0,none⟩) hblk).trans x0
    have y1:wr.cell? ⟨w.heap.size,1,none⟩=some (.int .i64 0):=(World.cell?_of_block (a:=⟨w.heap.size,1,none⟩) hblk).trans x1
    have y2:wr.cell? ⟨w.heap.size,2,none⟩=some (.int .i64 0):=(World.cell?_of_block (a:=⟨w.heap.size,2,none⟩) hblk).trans x2
    have y3:wr.cell? ⟨w.heap.size,3,none⟩=some (.int .i64 0):=(World.cell?_of_block (a:=⟨w.heap.size,3,none⟩) hblk).trans x3
    have y4:wr.cell? ⟨w.heap.size,4,none⟩=some (.int .i64 0):=(World.cell?_of_block (a:=⟨w.heap.size,4,none⟩) hblk).trans x4
    clear hcur hsz hblk hcs
    go_wp2
    go_roundw
    case rel=>exact ⟨k+1,by omega,by go_num,hst.out⟩
    case measure=>simp[intOf];omega
   ·have hltz:¬(k:Int)<(c:Int):=by omega
    go_wp2
    go_end0
    exact ⟨rfl,(Sp.of hgX.out.below).trans (hsp.sp hcA.out.2.1 hcA.out.1 rfl)⟩
set_option maxRecDepth 100000 in
set_option maxHeartbeats 4000000 in
theorem spoilQ_any (p:Option Addr) (m c:Nat) (K:Nat→Prop) (w:World) (h:RowS 48 7 K w p m c) :
  Calls Tryz.prog 15 #[.slice p m c,.agg #[.int .i64 1,.int .i64 1,.int .i64 0,.int .i64 0,.int .i64 0,.int .i64 0,.slice none 0 0]] w fun e w'=>e= .returned (.tuple #[])∧Sp K (fun t=>t=48) w w':=by
 have hmc:m≤c:=h.1
 have hgX:Hid (Gr w (w.alloc (.cells #[.int .i64 1,.int .i64 1,.int .i64 0,.int .i64 0,.int .i64 0,.int .i64 0,.slice none 0 0] 48))):=(Gr.refl _).alloc _
 cases p with
 | none =>
  obtain rfl:c=0:=h.2.1 rfl
  obtain rfl:m=0:=by omega
  clear h hmc
  go_enter Tryz.func15,Tryz.ntmps15
  go_wp2
  go_loopw [11] (fun i wr=>i= .int .i64 0∧Hid (Gr w wr)) (fun _ _=>0)
  case atStart=>exact ⟨rfl,hgX⟩
  case round =>
   obtain ⟨rfl,hgr⟩:=hrel
   go_wp2
   go_end0
   exact ⟨rfl,Sp.of hgr.out.below⟩
 | some a =>
  obtain ⟨h1,h2,h3,h5,cur0,hc0,hs0⟩:=h.2.2 a rfl
  obtain ⟨b,off,spot⟩:=a
  simp only at h1 h2 h3 hc0
  subst h2 h3
  have hcz:(c:Int)≤9223372036854775807:=by unfold maxLen at h5;omega
  have hmz:(m:Int)≤(c:Int):=by omega
  have hcn:(0:Int)≤(c:Int):=by omega
  have hlt0:b<w.heap.size:=(Array.getElem?_eq_some_iff.1 hc0).1
  have hcA:Hid ((w.alloc (.cells #[.int .i64 1,.int .i64 1,.int .i64 0,.int .i64 0,.int .i64 0,.int .i64 0,.slice none 0 0] 48)).heap[b]? = some (.cells cur0 48 (0,0))∧¬K b∧b≠w.heap.size∧c*7≤cur0.size):=⟨(hgX.out.below.block b hlt0).trans hc0,h1,by omega,hs0⟩
  have x0:=box1 (Gr.refl (w.alloc (.cells #[.int .i64 1,.int .i64 1,.int .i64 0,.int .i64 0,.int .i64 0,.int .i64 0,.slice none 0 0] 48))) (j:=0) rfl
  have x1:=box1 (Gr.refl (w.alloc (.cells #[.int .i64 1,.int .i64 1,.int .i64 0,.int .i64 0,.int .i64 0,.int .i64 0,.slice none 0 0] 48))) (j:=1) rfl
  have x2:=box1 (Gr.refl (w.alloc (.cells #[.int .i64 1,.int .i64 1,.int .i64 0,.int .i64 0,.int .i64 0,.int .i64 0,.slice none 0 0] 48))) (j:=2) rfl
  have x3:=box1 (Gr.refl (w.alloc (.cells #[.int .i64 1,.int .i64 1,.int .i64 0,.int .i64 0,.int .i64 0,.int .i64 0,.slice none 0 0] 48))) (j:=3) rfl
  have x4:=box1 (Gr.refl (w.alloc (.cells #[.int .i64 1,.int .i64 1,.int .i64 0,.int .i64 0,.int .i64 0,.int .i64 0,.slice none 0 0] 48))) (j:=4) rfl
  have x5:=box1 (Gr.refl (w.alloc (.cells #[.int .i64 1,.int .i64 1,.int .i64 0,.int .i64 0,.int .i64 0,.int .i64 0,.slice none 0 0] 48))) (j:=5) rfl
  have x6:=box1 (Gr.refl (w.alloc (.cells #[.int .i64 1,.int .i64 1,.int .i64 0,.int .i64 0,.int .i64 0,.int .i64 0,.slice none 0 0] 48))) (j:=6) rfl
  have hone:Hid (One b 48 cur0.size (w.alloc (.cells #[.int .i64 1,.int .i64 1,.int .i64 0,.int .i64 0,.int .i64 0,.int .i64 0,.slice none 0 0] 48)) (w.alloc (.cells #[.int .i64 1,.int .i64 1,.int .i64 0,.int .i64 0,.int .i64 0,.int .i64 0,.slice none 0 0] 48))):=⟨⟨rfl,rfl,rfl,Nat.le_refl _,fun _ _ _=>rfl⟩,⟨cur0,hcA.out.1,rfl⟩⟩
  clear h h1 h5 hc0 hs0 hlt0
  go_enter Tryz.func15,Tryz.ntmps15
  go_wp2
  go_loopw [11] (fun i wr=>∃k:Nat,k≤c∧i= .int .i64 k∧One b 48 cur0.size (w.alloc (.cells #[.int .i64 1,.int .i64 1,.int .i64 0,.int .i64 0,.int .i64 0,.int .i64 0,.slice none 0 0] 48)) wr) (fun i _=>c-(intOf i).toNat)
  case atStart=>exact ⟨0,Nat.zero_le _,rfl,hone.out⟩
  case round =>
   obtain ⟨k,hk,rfl,hsp⟩:=hrel
   by_cases hlt:k<c
   ·have hltz:(k:Int)<(c:Int):=by omega
    obtain ⟨cur,hcur,hsz⟩:=hsp.blk
    have hcs:=hcA.out.2.2.2
    obtain ⟨u0,e0⟩:=blk_any (k:=k*7) hcur (by omega)
    obtain ⟨u1,e1⟩:=blk_any (k:=k*7+1) hcur (by omega)
    obtain ⟨u2,e2⟩:=blk_any (k:=k*7+2) hcur (by omega)
    obtain ⟨u3,e3⟩:=blk_any (k:=k*7+3) hcur (by omega)
    obtain ⟨u4,e4⟩:=blk_any (k:=k*7+4) hcur (by omega)
    obtain ⟨u5,e5⟩:=blk_any (k:=k*7+5) hcur (by omega)
    obtain ⟨u6,e6⟩:=blk_any (k:=k*7+6) hcur (by omega)
    have ef:=(blk_cell (k:=k*7) hcur (by omega)).2
    have hst:Hid (One b 48 cur0.size (w.alloc (.cells #[.int .i64 1,.int .i64 1,.int .i64 0,.int .i64 0,.int .i64 0,.int .i64 0,.slice none 0 0] 48)) (((((((wr.setCell ⟨b,k*7,none⟩ (.int .i64 1)).setCell ⟨b,k*7+1,none⟩ (.int .i64 1)).setCell ⟨b,k*7+2,none⟩ (.int .i64 0)).setCell ⟨b,k*7+3,none⟩ (.int .i64 0)).setCell ⟨b,k*7+4,none⟩ (.int .i64 0)).setCell ⟨b,k*7+5,none⟩ (.int .i64 0)).setCell ⟨b,k*7+6,none⟩ (.slice none 0 0))):=(((((((hsp.set (k*7) (.int .i64 1)).set (k*7+1) (.int .i64 1)).set (k*7+2) (.int .i64 0)).set (k*7+3) (.int .i64 0)).set (k*7+4) (.int .i64 0)).set (k*7+5) (.int .i64 0)).set (k*7+6) (.slice none 0 0))
    have hblk:wr.heap[w.heap.size]? = (w.alloc (.cells #[.int .i64 1,.int .i64 1,.int .i64 0,.int .i64 0,.int .i64 0,.int .i64 0,.slice none 0 0] 48)).heap[w.heap.size]? := hsp.gr.block w.heap.size (by simp) (fun e=>hcA.out.2.2.1 (by injection e with e;exact e.symm))
    have y0:wr.cell? ⟨w.heap.size,0,none⟩=some (.int .i64 1):=(World.cell?_of_block (a:=⟨w.heap.size,0,none⟩) hblk).trans x0
    have y1:wr.cell? ⟨w.heap.size,1,none⟩=some (.int .i64 1):=(World.cell?_of_block (a:=⟨w.heap.size,1,none⟩) hblk).trans x1
    have y2:wr.cell? ⟨w.heap.size,2,none⟩=some (.int .i64 0):=(World.cell?_of_block (a:=⟨w.heap.size,2,none⟩) hblk).trans x2
    have y3:wr.cell? ⟨w.heap.size,3,none⟩=some (.int .i64 0):=(World.cell?_of_block (a:=⟨w.heap.size,3,none⟩) hblk).trans x3
    have y4:wr.cell? ⟨w.heap.size,4,none⟩=some (.int .i64 0):=(World.cell?_of_block (a:=⟨w.heap.size,4,none⟩) hblk).trans x4
    have y5:wr.cell? ⟨w.heap.size,5,none⟩=some (.int .i64 0):=(World.cell?_of_block (a:=⟨w.heap.size,5,none⟩) hblk).trans x5
    have y6:wr.cell? ⟨w.heap.size,6,none⟩=some (.slice none 0 0):=(World.cell?_of_block (a:=⟨w.heap.size,6,none⟩) hblk).trans x6
    clear hcur hsz hblk hcs
    go_wp2
    go_roundw
    case rel=>exact ⟨k+1,by omega,by go_num,hst.out⟩
    case measure=>simp[intOf];omega
   ·have hltz:¬(k:Int)<(c:Int):=by omega
    go_wp2
    go_end0
    exact ⟨rfl,(Sp.of hgX.out.below).trans (hsp.sp hcA.out.2.1 hcA.out.1 rfl)⟩
end Go.Proofs.YtkadjjmkokhldaaGreat

namespace Go.Proofs.YtkadjjmkokhldaaGreat
open Go.ChangeShapes Go.WideShapes Go.ChangeAt Go.RowKit Go.Deep

variable {H:Type} {enc:TypeId×Value→H} {W:World}

set_option maxRecDepth 100000 in
theorem open_cel {fuel:Nat} {cs:List Value} {x:DataW H×List MemPlace} (hl:cs.length=5) (h:DataW.trod enc Tryz.prog W 0 (fun _=>true) true fuel 55 cs=some x):∃y:Cel,cs=encC y:=by
 match cs,hl with
 | [v0,v1,v2,v3,v4],_ =>
  obtain ⟨xs,n,_,_,_,hxl,hf⟩:=DataW.trod_struct Tryz.underlying55 h
  have c2:Tryz.prog.cellsOf 52=2:=by kernel_rfl
  have c1:Tryz.prog.cellsOf 3=1:=by kernel_rfl
  have hx4:xs.length=4:=hxl
  match xs,hx4 with
  | [y0,y1,y2,y3],_ =>
   have g0:=hf 0 _ rfl
   have g1:=hf 1 _ rfl
   have g2:=hf 2 _ rfl
   have g3:=hf 3 _ rfl
   simp[c1,c2] at g0 g1 g2 g3
   obtain ⟨z2,e2,_⟩:=DataW.trod_int Tryz.underlying3 g1
   obtain ⟨z3,e3,_⟩:=DataW.trod_int Tryz.underlying3 g2
   obtain ⟨z4,e4,_⟩:=DataW.trod_int Tryz.underlying3 g3
   obtain ⟨ys,m,_,_,_,hyl,hd⟩:=DataW.trod_struct Tryz.underlying52 g0
   have hy2:ys.length=2:=hyl
   match ys,hy2 with
   | [u0,u1],_ =>
    have k0:=hd 0 _ rfl
    have k1:=hd 1 _ rfl
    simp[c1] at k0 k1
    obtain ⟨z0,e0,_⟩:=DataW.trod_int Tryz.underlying3 k0
    obtain ⟨z1,e1,_⟩:=DataW.trod_int Tryz.underlying3 k1
    simp only[List.cons.injEq,and_true] at e0 e1 e2 e3 e4
    exact ⟨((z0,z1),z2,z3,z4),by rw[e0,e1,e2,e3,e4];rfl⟩

set_option maxRecDepth 100000 in
theorem open_cels {fuel:Nat} {cs:List Value} {x:DataW H×List MemPlace} (h:DataW.trod enc Tryz.prog W 0 (fun _=>true) true fuel 35 cs=some x) :
  ∃A cap l,cs=[.slice A l.length cap]∧(A=none→cap=0)∧RowC W A l∧l.length≤maxLen∧((∀n∈x.1.weights Tryz.prog 35,n≤reachBytes)→l.length*40≤140737488355328):=by
 rcases open_slice Tryz.underlying35 h with ⟨hcs,_⟩|⟨a,len,cap,m,n,D,Pl,hcs,_,hl,hm,hmm,hx,hi⟩
 ·exact ⟨none,0,[],hcs,fun _=>rfl,Or.inl rfl,by simp,fun _=>by simp⟩
 ·have c5:Tryz.prog.cellsOf 55=5:=by kernel_rfl
  have b40:Tryz.prog.bytesOf 55=40:=by kernel_rfl
  have hlm:len≤m:=by rw[hmm];simp;exact hl
  obtain ⟨Z,hZ⟩:=choose_lt (α := Cel) (n:=len) (p:=fun i z=>∀j,j<5→W.cell? (a.add (i*5+j))=(encC z)[j]?) (fun i hi'=>by
   obtain ⟨cs',h1,h2⟩:=hi i (by omega)
   rw[c5] at h1
   obtain ⟨_,hlen,hcell⟩:=World.cells?_some h1
   obtain ⟨y,hy⟩:=open_cel hlen h2
   refine ⟨y,fun j hj=> ?_⟩
   have:=hcell j (by omega)
   rw[add_add] at this
   rw[this,←hy,List.getElem?_eq_getElem (by omega)])
  refine ⟨some a,cap,(List.range len).map Z,by rw[hcs];simp,(fun h=>by cases h),?_,by simp;omega,fun hw=> ?_⟩
  ·by_cases h0:len=0
   ·exact Or.inl (by rw[h0];rfl)
   ·have hc0:=hZ 0 (by omega) 0 (by omega)
    obtain ⟨b,off,spot⟩:=a
    have hc1:W.cell? (Addr.add ⟨b,off,spot⟩ (0*5+0))=some (.int .i64 (Z 0).1.1):=hc0
    have hspot:spot=none:=by simpa[Addr.add] using World.cell?_spot hc1
    subst hspot
    refine Or.inr ⟨b,off,rfl,?_,fun j hj i hi5=> ?_⟩
    ·have:=World.block_lt_of_cell? W _ hc1
     simpa[Addr.add_lit] using this
    ·have hj':j<len:=by simpa using hj
     have:=hZ j hj' i hi5
     simp only[Addr.add_lit,←Nat.add_assoc] at this
     simpa using this
  ·rw[hx] at hw
   have:=hw ((((List.range len).map D).length+((List.range (m-len)).map fun j=>D (len+j)).length)*Tryz.prog.bytesOf 55) (by simp[DataW.weights,Tryz.underlying35])
   have hb:=reachBytes_lt
   rw[b40] at this
   simp only[List.length_map,List.length_range] at this ⊢
   omega

theorem open_ctxc {fuel:Nat} {cs:List Value} {x:DataW H×List MemPlace} (hlen:cs.length=5) (hf:DataW.trod enc Tryz.prog W 0 (fun _=>true) true fuel 34 cs=some x) :
  ∃(c:Ctx) (A:Option Addr) (cap:Nat),cs=[.int .i64 c.c0,.int .i64 c.c1,.int .i64 c.c2,.int .i64 c.c3,.slice A c.l.length cap]∧(A=none→cap=0)∧Row W A c.l∧c.l.length≤maxLen:=by
 match cs,hlen with
 | [v0,v1,v2,v3,v4],_ =>
  obtain ⟨y0,y1,n,_,_,t0,t1⟩:=trod_struct2 Tryz.underlying34 hf
  have c22:Tryz.prog.cellsOf 31=4:=by kernel_rfl
  have c23:Tryz.prog.cellsOf 32=1:=by kernel_rfl
  have c3:Tryz.prog.cellsOf 3=1:=by kernel_rfl
  simp only[c22,c23] at t0 t1
  obtain ⟨A,cap,l,hl,hA,hr,hm⟩:=open_dots t1
  obtain ⟨xs,m,_,_,_,hlen,hi⟩:=DataW.trod_array Tryz.underlying31 t0
  have each:∀(i:Nat) (u:Value),i<4→((([v0,v1,v2,v3,v4]:List Value).drop 0).take 4)[i]? = some u→∃z,u= .int .i64 z:=by
   intro i u h4 hu
   have ht:=hi i h4
   rw[c3] at ht
   obtain ⟨y,hy⟩:∃y,xs[i]? = some y:=⟨xs[i]'(by omega),List.getElem?_eq_getElem (by omega)⟩
   rw[hy] at ht
   obtain ⟨z,e,_⟩:=DataW.trod_int Tryz.underlying3 ht
   refine ⟨z,?_⟩
   match i,h4,hu,e with
   | 0,_,hu,e=>simp at hu e;rw[←hu,e]
   | 1,_,hu,e=>simp at hu e;rw[←hu,e]
   | 2,_,hu,e=>simp at hu e;rw[←hu,e]
   | 3,_,hu,e=>simp at hu e;rw[←hu,e]
  obtain ⟨z0,rfl⟩:=each 0 v0 (by omega) rfl
  obtain ⟨z1,rfl⟩:=each 1 v1 (by omega) rfl
  obtain ⟨z2,rfl⟩:=each 2 v2 (by omega) rfl
  obtain ⟨z3,rfl⟩:=each 3 v3 (by omega) rfl
  simp at hl
  exact ⟨⟨z0,z1,z2,z3,l⟩,A,cap,by rw[hl],hA,hr,hm⟩

end Go.Proofs.YtkadjjmkokhldaaGreat

namespace Go.Proofs.YtkadjjmkokhldaaGreat
open Go.ChangeShapes Go.WideShapes Go.ChangeAt Go.RowKit Go.Deep

variable {H:Type} {enc:TypeId×Value→H} {W:World}

theorem list7 {cs:List Value} (h:cs.length=7):∃a b c d e f g,cs=[a,b,c,d,e,f,g]:=by
 match cs,h with
 | [a,b,c,d,e,f,g],_=>exact ⟨a,b,c,d,e,f,g,rfl⟩

set_option maxRecDepth 100000 in
theorem open_step {fuel:Nat} {cs:List Value} {x:DataW H×List MemPlace} (hl:cs.length=7) (h:DataW.trod enc Tryz.prog W 0 (fun _=>true) true fuel 48 cs=some x):∃y:Stp,cs=encQ y∧RowI W y.p y.l∧y.l.length≤maxLen∧(y.p=none→y.n=0):=by
 obtain ⟨v0,v1,v2,v3,v4,v5,v6,rfl⟩:=list7 hl
 obtain ⟨xs,n,_,_,_,hxl,hf⟩:=DataW.trod_struct Tryz.underlying48 h
 have c1:Tryz.prog.cellsOf 3=1:=by kernel_rfl
 have c2:Tryz.prog.cellsOf 46=1:=by kernel_rfl
 have hx7:xs.length=7:=hxl
 match xs,hx7 with
 | [y0,y1,y2,y3,y4,y5,y6],_ =>
  have g0:=hf 0 _ rfl
  have g1:=hf 1 _ rfl
  have g2:=hf 2 _ rfl
  have g3:=hf 3 _ rfl
  have g4:=hf 4 _ rfl
  have g5:=hf 5 _ rfl
  have g6:=hf 6 _ rfl
  simp[c1,c2] at g0 g1 g2 g3 g4 g5 g6
  obtain ⟨z0,e0,_⟩:=DataW.trod_int Tryz.underlying3 g0
  obtain ⟨z1,e1,_⟩:=DataW.trod_int Tryz.underlying3 g1
  obtain ⟨z2,e2,_⟩:=DataW.trod_int Tryz.underlying3 g2
  obtain ⟨z3,e3,_⟩:=DataW.trod_int Tryz.underlying3 g3
  obtain ⟨z4,e4,_⟩:=DataW.trod_int Tryz.underlying3 g4
  obtain ⟨z5,e5,_⟩:=DataW.trod_int Tryz.underlying3 g5
  obtain ⟨A,cap,l,e6,hA,hr,hm⟩:=open_row g6
  simp only[List.cons.injEq,and_true] at e0 e1 e2 e3 e4 e5 e6
  exact ⟨⟨z0,z1,z2,z3,z4,z5,A,cap,l⟩,by rw[e0,e1,e2,e3,e4,e5,e6];rfl,hr,hm,hA⟩

end Go.Proofs.YtkadjjmkokhldaaGreat
