/-
  The numbers of a step that may stand in a query are small.
  inc.copySteps: the same steps, in memory of their own.
  Memory that a node keeps: the blocks that it lies in (P), what writing one block leaves, and a block's cells.
-/
import Derived.Test.YtkadjjmkokhldaaGreatM18
import Derived.Test.YtkadjjmkokhldaaGreatM24
import Derived.Test.YtkadjjmkokhldaaGreatM23
import Derived.Test.YtkadjjmkokhldaaGreatM03
namespace Go.Proofs.YtkadjjmkokhldaaGreat

/-- A small number. -/
def Small (n:Int):Prop:= -1073741824≤n∧n≤1073741824
/-- All numbers of a step are small, and its list is short. -/
structure Fine (s:Stp):Prop where
 a:Small s.a
 b:Small s.b
 c:Small s.c
 o:Small s.o
 v:Small s.v
 l:s.l.length≤8∧∀x∈s.l,Small x
theorem small_in {n lo hi:Int} (h:inB n lo hi=true) (h1: -1073741824≤lo) (h2:hi≤1073741824):Small n:=by
 simp only[inB,Bool.and_eq_true,decide_eq_true_eq] at h
 exact ⟨by omega,by omega⟩
theorem small_zero {n:Int} (h:decide (n=0)=true):Small n:=by
 have:n=0:=by simpa using h
 exact ⟨by omega,by omega⟩
theorem fine_nil {l:List Int} (h:l.isEmpty=true):l.length≤8∧∀x∈l,Small x:=by
 have:l=[]:=by simpa using h
 subst this
 exact ⟨by simp,fun x hx=>by cases hx⟩
theorem widW_fine {s:Stp} {ah:List Int} (h:widW s ah≠0) (hl:ah.length≤8) (hah:∀x∈ah,0≤x∧x≤8):Fine s:=by
 have ga:=getD_b hah s.a.toNat
 have gb:=getD_b hah s.b.toNat
 by_cases h9:1≤s.k∧s.k≤9
 ·have hk:s.k=1∨s.k=2∨s.k=3∨s.k=4∨s.k=5∨s.k=6∨s.k=7∨s.k=8∨s.k=9:=by omega
  rcases hk with hk|hk|hk|hk|hk|hk|hk|hk|hk
  ·rw[wid1 hk] at h
   have t:=Classical.not_not.1 (fun e=>h (if_neg e))
   simp only[Bool.and_eq_true] at t
   obtain ⟨⟨⟨⟨⟨t1,t2⟩,t3⟩,t4⟩,t5⟩,t6⟩:=t
   exact ⟨small_in t1 (by omega) (by omega),small_zero t2,small_zero t3,small_zero t4,small_zero t5,fine_nil t6⟩
  ·rw[wid2 hk] at h
   have t:=Classical.not_not.1 (fun e=>h (if_neg e))
   simp only[Bool.and_eq_true] at t
   obtain ⟨⟨⟨⟨⟨t1,t2⟩,t3⟩,t4⟩,t5⟩,t6⟩:=t
   exact ⟨small_in t1 (by omega) (by omega),small_zero t2,small_in t6 (by omega) (by omega),small_in t4 (by omega) (by omega),small_in t5 (by omega) (by omega),fine_nil t3⟩
  ·rw[wid3 hk] at h
   have t:=Classical.not_not.1 (fun e=>h (if_neg e))
   simp only[Bool.and_eq_true] at t
   obtain ⟨⟨⟨⟨⟨⟨t1,t2⟩,t3⟩,t4⟩,t5⟩,t6⟩,t7⟩:=t
   exact ⟨small_in t1 (by omega) (by omega),small_zero t2,small_zero t5,small_zero t6,small_zero t7,⟨by simp only[inB,Bool.and_eq_true,decide_eq_true_eq] at t3;omega,fun x hx=>small_in (List.all_eq_true.1 t4 x hx) (by omega) (by omega)⟩⟩
  ·rw[wid4 hk] at h
   have t:=Classical.not_not.1 (fun e=>h (if_neg e))
   simp only[Bool.and_eq_true] at t
   obtain ⟨⟨⟨⟨⟨⟨t1,t2⟩,t3⟩,t4⟩,t5⟩,t6⟩,t7⟩:=t
   exact ⟨small_in t1 (by omega) (by omega),small_in t2 (by omega) (by omega),small_in t6 (by omega) (by omega),small_zero t7,small_in t5 (by omega) (by omega),fine_nil t3⟩
  ·rw[wid5 hk] at h
   have t:=Classical.not_not.1 (fun e=>h (if_neg e))
   simp only[Bool.and_eq_true] at t
   obtain ⟨⟨⟨⟨⟨⟨t1,t2⟩,t3⟩,t4⟩,t5⟩,t6⟩,t7⟩:=t
   exact ⟨small_in t1 (by omega) (by omega),small_in t2 (by omega) (by omega),small_zero t5,small_zero t6,small_zero t7,fine_nil t3⟩
  ·rw[wid6 hk] at h
   have t:=Classical.not_not.1 (fun e=>h (if_neg e))
   simp only[Bool.and_eq_true] at t
   obtain ⟨⟨⟨⟨⟨⟨t1,t2⟩,t3⟩,t4⟩,t5⟩,t6⟩,t7⟩:=t
   exact ⟨small_in t1 (by omega) (by omega),small_in t2 (by omega) (by omega),small_zero t5,small_zero t6,small_zero t7,fine_nil t3⟩
  ·rw[wid7 hk] at h
   have t:=Classical.not_not.1 (fun e=>h (if_neg e))
   simp only[Bool.and_eq_true] at t
   obtain ⟨⟨⟨⟨⟨t1,t2⟩,t3⟩,t4⟩,t5⟩,t6⟩:=t
   exact ⟨small_in t1 (by omega) (by omega),small_zero t2,small_zero t4,small_zero t5,small_zero t6,fine_nil t3⟩
  ·rw[wid8 hk] at h
   have t:=Classical.not_not.1 (fun e=>h (if_neg e))
   simp only[Bool.and_eq_true] at t
   obtain ⟨⟨⟨⟨⟨t1,t2⟩,t3⟩,t4⟩,t5⟩,t6⟩:=t
   exact ⟨small_in t1 (by omega) (by omega),small_zero t2,small_in t4 (by omega) (by omega),small_zero t5,small_zero t6,fine_nil t3⟩
  ·rw[wid9 hk] at h
   have t:=Classical.not_not.1 (fun e=>h (if_neg e))
   simp only[Bool.and_eq_true] at t
   obtain ⟨⟨⟨⟨⟨t1,t2⟩,t3⟩,t4⟩,t5⟩,t6⟩:=t
   exact ⟨small_in t1 (by omega) (by omega),small_zero t2,small_in t5 (by omega) (by omega),small_zero t6,small_in t4 (by omega) (by omega),fine_nil t3⟩
 ·exact absurd (alone0 h9) h

end Go.Proofs.YtkadjjmkokhldaaGreat

namespace Go.Proofs.YtkadjjmkokhldaaGreat
open Go.RowKit Go.Sort

theorem widsF_short:∀(q:List Stp) (ah:List Int),(∀x∈ah,0≤x∧x≤8)→ah.length+q.length≤8→(widsF q ah).isSome=true→∀s∈q,s.l.length≤8
 | [],_,_,_,_=>fun s hs=>by cases hs
 | s::t,ah,h1,h2,h3=>by
  have h3':(if widW s ah=0 then none else widsF t (ah++[widW s ah])).isSome=true:=h3
  by_cases e:widW s ah=0
  ·rw[if_pos e] at h3';cases h3'
  ·rw[if_neg e] at h3'
   have hb:=widW_b s h1
   have ih:=widsF_short t (ah++[widW s ah]) (fun x hx=>by
    rcases List.mem_append.1 hx with k|k
    ·exact h1 x k
    ·rw[List.mem_singleton.1 k];exact hb) (by simp at h2 ⊢;omega) h3'
   intro u hu
   rcases List.mem_cons.1 hu with k|k
   ·subst k
    simp at h2
    exact (widW_fine e (by omega) h1).l.1
   ·exact ih u k
theorem errQ_short {q:List Stp} (h:errQ q=0):q.length≤8∧∀s∈q,s.l.length≤8:=by
 obtain ⟨h1,h2,h3⟩:=errQ_wids h
 exact ⟨h2,widsF_short q [] (fun x hx=>by cases hx) (by simpa using h2) h3⟩
/-- Steps that lie in blocks from n on, below m. -/
def NewQ (n m:Nat) (C:Option Addr) (q:List Stp):Prop:=(∀a,C=some a→n≤a.block∧a.block<m)∧∀s∈q,∀a,s.p=some a→n≤a.block∧a.block<m
theorem row_litS {W:World} {s:Stp} {C:Option Addr} {c:Nat}:RowG encQ 7 (W.alloc (.cells #[.int .i64 s.k,.int .i64 s.a,.int .i64 s.b,.int .i64 s.c,.int .i64 s.o,.int .i64 s.v,.slice C s.l.length c] 48)) (some ⟨W.heap.size,0,none⟩) [{ s with p:=C,n:=c }]:=by
 refine Or.inr ⟨W.heap.size,0,rfl,by simp,fun j hj i hi=> ?_⟩
 obtain rfl:j=0:=by simp at hj;omega
 rw[show 0+0*7+i=i by omega]
 match i,hi with
 | 0,_=>exact box1 (w:=W) (Gr.refl _) rfl
 | 1,_=>exact box1 (w:=W) (Gr.refl _) rfl
 | 2,_=>exact box1 (w:=W) (Gr.refl _) rfl
 | 3,_=>exact box1 (w:=W) (Gr.refl _) rfl
 | 4,_=>exact box1 (w:=W) (Gr.refl _) rfl
 | 5,_=>exact box1 (w:=W) (Gr.refl _) rfl
 | 6,_=>exact box1 (w:=W) (Gr.refl _) rfl
theorem copy_take {q:List Stp} {k:Nat} (h:k<q.length) {s s':Stp} (hs:q[k]=s) {r:List Stp} (hr:r.map bare=(q.take k).map bare) (hb:bare s'=bare s):(r++[s']).map bare=(q.take (k+1)).map bare:=by
 rw[List.take_succ_eq_append_getElem h,List.map_append,List.map_append,hr,hs]
 simp[hb]

set_option maxRecDepth 100000 in
set_option maxHeartbeats 2000000 in
theorem copyS_any (q:List Stp) (A:Option Addr) (ca:Nat) (w:World) (hl:q.length≤8) (hs:∀s∈q,s.l.length≤8) (hq:Stps w A q) :
  Calls Tryz.prog 44 #[.slice A q.length ca] w fun e w'=>∃(q':List Stp) (C:Option Addr) (k:Nat),e= .returned (.slice C q'.length k)∧q'.map bare=q.map bare∧Stps w' C q'∧(C=none→k=0)∧NewQ w.heap.size w'.heap.size C q'∧Below w.heap.size w w':=by
 have hH:Hid (Stps w A q∧∀s∈q,s.l.length≤8):=⟨hq,hs⟩
 clear hq hs
 go_enter Tryz.func44,Tryz.ntmps44
 go_wp2
 go_loopw [3,8] (fun u i wr=>∃(k:Nat) (r:List Stp),k≤q.length∧i= .int .i64 k∧Hid (r.map bare=(q.take k).map bare∧OwnS wr w.heap.size u r∧Below w.heap.size w wr)) (fun _ i _=>q.length-(intOf i).toNat)
 case atStart=>exact ⟨0,[],Nat.zero_le _,rfl,rfl,OwnS.nil _ _,Below.refl _ _⟩
 case round =>
  obtain ⟨k,r,hk,rfl,hR⟩:=hrel
  have hrl:Hid (r.length=k):=by
   have:=congrArg List.length hR.out.1
   simp at this
   show _=_
   omega
  by_cases hlt:k<q.length
  ·have hltz:(k:Int)<(q.length:Int):=by omega
   have hI:Hid (Stps wr A q):=hH.out.1.below hR.out.2.2
   obtain ⟨bb,off,rfl,hb,hcs⟩:=hI.out.at hlt
   obtain ⟨s,hs⟩:∃s,q[k]=s:=⟨_,rfl⟩
   have hsm:s∈q:=by rw[←hs];exact List.getElem_mem hlt
   have hs8:s.l.length≤8:=hH.out.2 s hsm
   have hse:Hid (RowI wr s.p s.l∧s.l.length≤maxLen∧(s.p=none→s.n=0)):=hI.out.each s hsm
   have htk:Hid (∀s',bare s'=bare s→(r++[s']).map bare=(q.take (k+1)).map bare):=fun s' h=>copy_take hlt hs hR.out.1 h
   rw[hs] at hcs
   have m0:wr.cell? ⟨bb,off+k*7,none⟩=some (.int .i64 s.k):=hcs 0 (by omega)
   have m1:wr.cell? ⟨bb,off+k*7+1,none⟩=some (.int .i64 s.a):=hcs 1 (by omega)
   have m2:wr.cell? ⟨bb,off+k*7+2,none⟩=some (.int .i64 s.b):=hcs 2 (by omega)
   have m3:wr.cell? ⟨bb,off+k*7+3,none⟩=some (.int .i64 s.c):=hcs 3 (by omega)
   have m4:wr.cell? ⟨bb,off+k*7+4,none⟩=some (.int .i64 s.o):=hcs 4 (by omega)
   have m5:wr.cell? ⟨bb,off+k*7+5,none⟩=some (.int .i64 s.v):=hcs 5 (by omega)
   have m6:wr.cell? ⟨bb,off+k*7+6,none⟩=some (.slice s.p s.l.length s.n):=hcs 6 (by omega)
   obtain ⟨WX,hWX⟩:∃WX,(wr.alloc (.cells #[.int .i64 s.k,.int .i64 s.a,.int .i64 s.b,.int .i64 s.c,.int .i64 s.o,.int .i64 s.v,.slice s.p s.l.length s.n] 48))=WX:=⟨_,rfl⟩
   have hgX:Hid (Gr wr WX):=by show Gr _ _;rw[←hWX];exact (Gr.refl _).alloc _
   have hXs:Hid (wr.heap.size<WX.heap.size):=by show _<_;rw[←hWX];simp
   have x0:WX.cell? ⟨wr.heap.size,0,none⟩=some (.int .i64 s.k):=by rw[←hWX];exact box1 (w:=wr) (Gr.refl _) rfl
   have x1:WX.cell? ⟨wr.heap.size,1,none⟩=some (.int .i64 s.a):=by rw[←hWX];exact box1 (w:=wr) (Gr.refl _) rfl
   have x2:WX.cell? ⟨wr.heap.size,2,none⟩=some (.int .i64 s.b):=by rw[←hWX];exact box1 (w:=wr) (Gr.refl _) rfl
   have x3:WX.cell? ⟨wr.heap.size,3,none⟩=some (.int .i64 s.c):=by rw[←hWX];exact box1 (w:=wr) (Gr.refl _) rfl
   have x4:WX.cell? ⟨wr.heap.size,4,none⟩=some (.int .i64 s.o):=by rw[←hWX];exact box1 (w:=wr) (Gr.refl _) rfl
   have x5:WX.cell? ⟨wr.heap.size,5,none⟩=some (.int .i64 s.v):=by rw[←hWX];exact box1 (w:=wr) (Gr.refl _) rfl
   have x6:WX.cell? ⟨wr.heap.size,6,none⟩=some (.slice s.p s.l.length s.n):=by rw[←hWX];exact box1 (w:=wr) (Gr.refl _) rfl
   have f6:WX.frozen? ⟨wr.heap.size,6,none⟩=false:=by rw[←hWX];exact box1f (w:=wr) (Gr.refl _) 6
   have hap:Hid (RowI WX s.p s.l∧(s.p=none→s.n=0)∧0+s.l.length≤maxLen∧(0+s.l.length)*8≤140737488355328):=⟨hse.out.1.gr hgX.out,hse.out.2.2,by unfold maxLen;omega,by omega⟩
   clear hcs hs hsm
   have hX6:Hid (∀w3,Below WX.heap.size WX w3→∀v,(w3.setCell ⟨wr.heap.size,6,none⟩ v).cell? ⟨wr.heap.size,0,none⟩=some (.int .i64 s.k)∧(w3.setCell ⟨wr.heap.size,6,none⟩ v).cell? ⟨wr.heap.size,1,none⟩=some (.int .i64 s.a)∧(w3.setCell ⟨wr.heap.size,6,none⟩ v).cell? ⟨wr.heap.size,2,none⟩=some (.int .i64 s.b)∧(w3.setCell ⟨wr.heap.size,6,none⟩ v).cell? ⟨wr.heap.size,3,none⟩=some (.int .i64 s.c)∧(w3.setCell ⟨wr.heap.size,6,none⟩ v).cell? ⟨wr.heap.size,4,none⟩=some (.int .i64 s.o)∧(w3.setCell ⟨wr.heap.size,6,none⟩ v).cell? ⟨wr.heap.size,5,none⟩=some (.int .i64 s.v)∧(w3.setCell ⟨wr.heap.size,6,none⟩ v).cell? ⟨wr.heap.size,6,none⟩=some v):=fun w3 h v=>by
    have hc:∀i u,WX.cell? ⟨wr.heap.size,i,none⟩=some u→w3.cell? ⟨wr.heap.size,i,none⟩=some u:=fun i u e=>(h.cell (p:=⟨wr.heap.size,i,none⟩) hXs.out).trans e
    have ho:∀i:Nat,i<6→(w3.setCell ⟨wr.heap.size,6,none⟩ v).cell? ⟨wr.heap.size,i,none⟩=w3.cell? ⟨wr.heap.size,i,none⟩:=fun i hi=>World.cell?_setCell_other _ _ _ _ (by intro e;injection e with _ e;omega)
    exact ⟨(ho 0 (by omega)).trans (hc 0 _ x0),(ho 1 (by omega)).trans (hc 1 _ x1),(ho 2 (by omega)).trans (hc 2 _ x2),(ho 3 (by omega)).trans (hc 3 _ x3),(ho 4 (by omega)).trans (hc 4 _ x4),(ho 5 (by omega)).trans (hc 5 _ x5),World.cell?_setCell_same _ _ _ (hc 6 _ x6)⟩
   have hoF:Hid (∀w3 C c,Below WX.heap.size WX w3→RowI w3 C s.l→(C=none→c=0)→(∀a,C=some a→WX.heap.size≤a.block∧a.block<w3.heap.size)→∀w4,w3.setCell ⟨wr.heap.size,6,none⟩ (.slice C s.l.length c)=w4 →
     OwnS (w4.alloc (.cells #[.int .i64 s.k,.int .i64 s.a,.int .i64 s.b,.int .i64 s.c,.int .i64 s.o,.int .i64 s.v,.slice C s.l.length c] 48)) w.heap.size u3 r∧RowG encQ 7 (w4.alloc (.cells #[.int .i64 s.k,.int .i64 s.a,.int .i64 s.b,.int .i64 s.c,.int .i64 s.o,.int .i64 s.v,.slice C s.l.length c] 48)) (some ⟨w4.heap.size,0,none⟩) [{ s with p:=C,n:=c }]∧ApartS (w4.alloc (.cells #[.int .i64 s.k,.int .i64 s.a,.int .i64 s.b,.int .i64 s.c,.int .i64 s.o,.int .i64 s.v,.slice C s.l.length c] 48)) w.heap.size u3.ownBlock { s with p:=C,n:=c }∧(r.length+1≤maxLen∧(r.length+1)*72≤140737488355328)∧Below w.heap.size w (w4.alloc (.cells #[.int .i64 s.k,.int .i64 s.a,.int .i64 s.b,.int .i64 s.c,.int .i64 s.o,.int .i64 s.v,.slice C s.l.length c] 48))):=fun w3 C c hb3 hrow hC hlt w4 hw4=>by
    subst hw4
    have hb4:Below wr.heap.size wr (w3.setCell ⟨wr.heap.size,6,none⟩ (.slice C s.l.length c)):=(hgX.out.below.trans (hb3.mono hgX.out.size)).setCell (Nat.le_refl _) _
    have hbA:=hb4.alloc hb4.size (.cells #[.int .i64 s.k,.int .i64 s.a,.int .i64 s.b,.int .i64 s.c,.int .i64 s.o,.int .i64 s.v,.slice C s.l.length c] 48)
    have hrowA:RowI (w3.setCell ⟨wr.heap.size,6,none⟩ (.slice C s.l.length c)) C s.l:=by
     rcases hrow with e|⟨b,o,hA,hb,hc⟩
     ·exact Or.inl e
     ·refine Or.inr ⟨b,o,hA,by simpa using hb,fun j hj i hi=> ?_⟩
      have h1:=(hlt _ hA).1
      have h2:=hXs.out
      have h3:b≠wr.heap.size:=fun e=>by simp only at h1;omega
      rw[World.cell?_setCell_other _ _ _ _ (by intro e;injection e with e _;exact h3 e.symm)]
      exact hc j hj i hi
    have hrl:=hrl.out
    have hsz:=hR.out.2.2.size
    have h2:=hXs.out
    refine ⟨hR.out.2.1.below hbA,row_litS,⟨hrowA.gr ((Gr.refl _).alloc _),by show s.l.length≤_;unfold maxLen;omega,hC,fun a ha=>⟨?_,?_,?_⟩⟩,⟨by unfold maxLen;omega,by omega⟩,hR.out.2.2.trans (hbA.mono hR.out.2.2.size)⟩
    ·have h1:=(hlt a ha).1;omega
    ·have h1:=(hlt a ha).2;simp;omega
    ·intro e
     have h1:=(hlt a ha).1
     have h3:=(World.ownsRow.lt hR.out.2.1.own a.block e).2
     omega
   go_wp2_with (first|(at_builtin;refine wpList_append_i _ rfl (.const (.slice none 0 0)) (.tmp 13) rfl WX.heap.size (.slice none 0 0) [] s.l s.p s.n rfl rfl (OwnG.nil _ _ _ _ _) hap.out.1 hap.out.2.1 hap.out.2.2.1 hap.out.2.2.2 (Nat.le_refl _) ?_;intro v1 w3 hown1 hgr1;obtain ⟨C,c,rfl,hC,hrow,hlt⟩:=OwnG.row encI_len hown1;have hb3:Below WX.heap.size WX w3:=below_none hgr1;have y6:w3.cell? ⟨wr.heap.size,6,none⟩=some (.slice s.p s.l.length s.n):=(hb3.cell (p:=⟨wr.heap.size,6,none⟩) hXs.out).trans x6;have g6:w3.frozen? ⟨wr.heap.size,6,none⟩=false:=(hb3.frozen (p:=⟨wr.heap.size,6,none⟩) hXs.out).trans f6;obtain ⟨w4,hw4⟩:∃W,w3.setCell ⟨wr.heap.size,6,none⟩ (.slice C s.l.length c)=W:=⟨_,rfl⟩;have hoX:=hoF.out w3 C c hb3 (by simpa using hrow) hC hlt w4 hw4;have hoXH:Hid _:=hoX;obtain ⟨z0,z1,z2,z3,z4,z5,z6⟩:=hX6.out w3 hb3 (.slice C s.l.length c);rw[hw4] at z0 z1 z2 z3 z4 z5 z6;clear hown1 hgr1 hC hrow hlt hb3 hoX)|(at_builtin;refine wpList_append_s2 _ rfl (.tmp 16) (.tmp 18) rfl w.heap.size u3 r { s with p:=C,n:=c } ⟨w4.heap.size,0,none⟩ 1 rfl rfl hoXH.out.1 hoXH.out.2.1 hoXH.out.2.2.1 hoXH.out.2.2.2.1.1 hoXH.out.2.2.2.1.2 hoXH.out.2.2.2.2.size ?_;intro v5 w5 hown5 hb5))
   have hfin:Hid ((r++[{ s with p:=C,n:=c }]).map bare=(q.take (k+1)).map bare∧OwnS w5 w.heap.size v5 (r++[{ s with p:=C,n:=c }])∧Below w.heap.size w w5):=⟨htk.out _ rfl,hown5,hoXH.out.2.2.2.2.trans hb5⟩
   clear hown5 hb5
   go_roundw
   case rel=>exact ⟨k+1,r++[{ s with p:=C,n:=c }],by omega,by go_num,hfin⟩
   case measure=>simp[intOf];omega
  ·have hltz:¬(k:Int)<(q.length:Int):=by omega
   have hke:q.take k=q:=List.take_of_length_le (by omega)
   obtain ⟨C,cap,hv,hC,hst⟩:=hR.out.2.1.stps
   obtain ⟨C',cap',hv',_,_,hab⟩:=hR.out.2.1.own.row encQ_len
   have hfin:Hid (r.map bare=q.map bare∧Stps wr C r∧(C=none→cap=0)∧NewQ w.heap.size wr.heap.size C r∧Below w.heap.size w wr):=by
    have h1:=hR.out.1
    rw[hke] at h1
    have hCC:C=C':=by rw[hv] at hv';injection hv'
    exact ⟨h1,hst,hC,⟨fun a ha=>hab a (by rw[←hCC];exact ha),fun x hx a ha=>⟨((hR.out.2.1.each x hx).own a ha).1,((hR.out.2.1.each x hx).own a ha).2.1⟩⟩,hR.out.2.2⟩
   subst hv
   clear hke hC hst hv' hab
   go_wp2
   go_ret
   exact ⟨r,C,cap,rfl,hfin.out⟩
end Go.Proofs.YtkadjjmkokhldaaGreat

namespace Go.Proofs.YtkadjjmkokhldaaGreat
open Go.RowKit Go.Sort

/-- What is read of a list lies in a block that P names. -/
def PIn {α : Type} (P:Nat→Prop) (A:Option Addr) (l:List α):Prop:=∀a,A=some a→l≠[]→P a.block
theorem PIn.mono {α : Type} {P Q:Nat→Prop} {A:Option Addr} {l:List α} (h:PIn P A l) (k:∀b,P b→Q b):PIn Q A l:=fun a ha hl=>k _ (h a ha hl)
/-- The blocks that P names are as they were. -/
structure Agr (P:Nat→Prop) (w w':World):Prop where
 size:w.heap.size≤w'.heap.size
 block:∀b,P b→b<w.heap.size→w'.heap[b]? = w.heap[b]?
theorem Agr.refl (P:Nat→Prop) (w:World):Agr P w w:=⟨Nat.le_refl _,fun _ _ _=>rfl⟩
theorem Agr.trans {P:Nat→Prop} {a b c:World} (h:Agr P a b) (k:Agr P b c):Agr P a c:=⟨Nat.le_trans h.size k.size,fun g hg hl=>(k.block g hg (Nat.lt_of_lt_of_le hl h.size)).trans (h.block g hg hl)⟩
theorem Agr.of {P:Nat→Prop} {w w':World} (h:Below w.heap.size w w'):Agr P w w':=⟨h.size,fun b _ hb=>h.block b hb⟩
theorem Agr.mono {P Q:Nat→Prop} {w w':World} (h:Agr Q w w') (k:∀b,P b→Q b):Agr P w w':=⟨h.size,fun b hb=>h.block b (k b hb)⟩
theorem RowG.agr {α : Type} {enc: α → List Value} {k:Nat} {P:Nat→Prop} {w w':World} {A:Option Addr} {l:List α} (h:RowG enc k w A l) (hP:PIn P A l) (q:Agr P w w'):RowG enc k w' A l:=by
 rcases h with h|⟨b,off,hA,hb,hc⟩
 ·exact Or.inl h
 ·by_cases hl:l=[]
  ·exact Or.inl hl
  ·refine Or.inr ⟨b,off,hA,Nat.lt_of_lt_of_le hb q.size,fun j hj i hi=> ?_⟩
   rw[World.cell?_of_block (a:=⟨b,off+j*k+i,none⟩) (q.block b (hP _ hA hl) hb)]
   exact hc j hj i hi
theorem Row.agr {P:Nat→Prop} {w w':World} {A:Option Addr} {l:List (Int×Int)} (h:Row w A l) (hP:PIn P A l) (q:Agr P w w'):Row w' A l:=by
 rcases h with h|⟨b,off,hA,hb,hc⟩
 ·exact Or.inl h
 ·by_cases hl:l=[]
  ·exact Or.inl hl
  ·refine Or.inr ⟨b,off,hA,Nat.lt_of_lt_of_le hb q.size,fun j hj=> ?_⟩
   rw[World.cell?_of_block (a:=⟨b,off+j*2,none⟩) (q.block b (hP _ hA hl) hb),World.cell?_of_block (a:=⟨b,off+j*2+1,none⟩) (q.block b (hP _ hA hl) hb)]
   exact hc j hj
/-- A set in memory, within P. -/
structure LvP (P:Nat→Prop) (w:World) (A:Option Addr) (c:Nat) (l:List Itm):Prop where
 lv:Lv w A c l
 arr:PIn P A l
 rows:∀x∈l,PIn P x.p x.r
theorem LvP.agr {P:Nat→Prop} {w w':World} {A:Option Addr} {c:Nat} {l:List Itm} (h:LvP P w A c l) (q:Agr P w w'):LvP P w' A c l :=
 ⟨⟨⟨h.lv.items.row.agr h.arr q,fun x hx=>⟨(h.lv.items.each x hx).1.agr (h.rows x hx) q,(h.lv.items.each x hx).2⟩⟩,h.lv.nilc,h.lv.len⟩,h.arr,h.rows⟩
theorem LvP.below {P:Nat→Prop} {w w':World} {A:Option Addr} {c:Nat} {l:List Itm} (h:LvP P w A c l) (q:Below w.heap.size w w'):LvP P w' A c l:=h.agr (Agr.of q)
theorem LvP.mono {P Q:Nat→Prop} {w:World} {A:Option Addr} {c:Nat} {l:List Itm} (h:LvP P w A c l) (k:∀b,P b→Q b):LvP Q w A c l:=⟨h.lv,h.arr.mono k,fun x hx=>(h.rows x hx).mono k⟩
theorem LvP.none (P:Nat→Prop) (w:World):LvP P w none 0 []:=⟨⟨⟨Or.inl rfl,fun x hx=>(by cases hx)⟩,NilC.mk (fun _=>rfl) (Nat.zero_le _),Nat.zero_le _⟩,fun a ha=>(by cases ha),fun x hx=>(by cases hx)⟩
/-- What is new lies in the blocks made meanwhile. -/
theorem LvP.new {w:World} {A:Option Addr} {c n:Nat} {l:List Itm} (h:Lv w A c l) (k:NewT n A l):LvP (fun b=>n≤b∧b<w.heap.size) w A c l :=
 ⟨h,fun a ha hl=>⟨k.1 a ha,h.items.row.lt a ha hl⟩,fun x hx a ha hl=>⟨k.2 x hx a ha,(h.items.each x hx).1.lt a ha hl⟩⟩
theorem LvP.all {w:World} {A:Option Addr} {c:Nat} {l:List Itm} (h:Lv w A c l):LvP (fun b=>b<w.heap.size) w A c l :=
 ⟨h,fun a ha hl=>h.items.row.lt a ha hl,fun x hx a ha hl=>(h.items.each x hx).1.lt a ha hl⟩
/-- Steps in memory, within P. -/
structure StP (P:Nat→Prop) (w:World) (A:Option Addr) (q:List Stp):Prop where
 st:Stps w A q
 arr:PIn P A q
 rows:∀s∈q,PIn P s.p s.l
theorem StP.agr {P:Nat→Prop} {w w':World} {A:Option Addr} {q:List Stp} (h:StP P w A q) (k:Agr P w w'):StP P w' A q :=
 ⟨⟨h.st.row.agr h.arr k,fun x hx=>⟨(h.st.each x hx).1.agr (h.rows x hx) k,(h.st.each x hx).2⟩⟩,h.arr,h.rows⟩
theorem StP.below {P:Nat→Prop} {w w':World} {A:Option Addr} {q:List Stp} (h:StP P w A q) (k:Below w.heap.size w w'):StP P w' A q:=h.agr (Agr.of k)
theorem StP.mono {P Q:Nat→Prop} {w:World} {A:Option Addr} {q:List Stp} (h:StP P w A q) (k:∀b,P b→Q b):StP Q w A q:=⟨h.st,h.arr.mono k,fun x hx=>(h.rows x hx).mono k⟩
theorem StP.new {w:World} {A:Option Addr} {n m:Nat} {q:List Stp} (h:Stps w A q) (k:NewQ n m A q):StP (fun b=>n≤b∧b<m) w A q :=
 ⟨h,fun a ha _=>k.1 a ha,fun s hs a ha _=>k.2 s hs a ha⟩
/-- P, and what was made meanwhile. -/
def plusP (P:Nat→Prop) (m n:Nat):Nat→Prop:=fun b=>P b∨(m≤b∧b<n)
theorem plusP.old {P:Nat→Prop} {m n:Nat} (b:Nat) (h:P b):plusP P m n b:=Or.inl h
theorem plusP.new {P:Nat→Prop} {m n m' n':Nat} (hm:m≤m') (hn:n'≤n) (b:Nat) (h:m'≤b∧b<n'):plusP P m n b:=Or.inr ⟨Nat.le_trans hm h.1,Nat.lt_of_lt_of_le h.2 hn⟩
theorem plusP.more {P:Nat→Prop} {m n m' n':Nat} (hm:m'≤m) (hn:n≤n') (b:Nat) (h:plusP P m n b):plusP P m' n' b:=h.elim Or.inl fun k=>Or.inr ⟨Nat.le_trans hm k.1,Nat.lt_of_lt_of_le k.2 hn⟩
theorem plusP.two {P:Nat→Prop} {m n m' n':Nat} (hm:m≤m') (hn:n≤n') (b:Nat) (h:plusP (plusP P m n) m' n' b):plusP P m n' b:=by
 rcases h with (h|h)|h
 ·exact Or.inl h
 ·exact Or.inr ⟨h.1,by omega⟩
 ·exact Or.inr ⟨by omega,h.2⟩

theorem cell_heap {w:World} {V:Nat} {cur:Array Value} {T:TypeId} {f:Nat×Nat} (h:w.heap[V]? = some (.cells cur T f)) (j:Nat):w.cell? ⟨V,j,none⟩=cur[j]? := by simp[World.cell?,h]
theorem frozen_heap {w:World} {V:Nat} {cur:Array Value} {T:TypeId} (h:w.heap[V]? = some (.cells cur T (0,0))) (j:Nat):w.frozen? ⟨V,j,none⟩=false:=by simp[World.frozen?,h]
/-- A block of its own type and size, that may be written. -/
def Blk (w:World) (V:Nat) (T:TypeId) (n:Nat):Prop:=∃cur,w.heap[V]? = some (.cells cur T (0,0))∧cur.size=n
theorem Blk.lt {w:World} {V n:Nat} {T:TypeId} (h:Blk w V T n):V<w.heap.size:=by
 obtain ⟨cur,hc,_⟩:=h
 exact (Array.getElem?_eq_some_iff.1 hc).1
theorem Blk.fz {w:World} {V n:Nat} {T:TypeId} (h:Blk w V T n) (j:Nat):w.frozen? ⟨V,j,none⟩=false:=by
 obtain ⟨cur,hc,_⟩:=h
 exact frozen_heap hc j
theorem Blk.some {w:World} {V n:Nat} {T:TypeId} (h:Blk w V T n) {j:Nat} (hj:j<n):∃v,w.cell? ⟨V,j,none⟩=some v:=by
 obtain ⟨cur,hc,hn⟩:=h
 rw[cell_heap hc]
 exact ⟨cur[j]'(by omega),Array.getElem?_eq_getElem (by omega)⟩
theorem Blk.below {w w':World} {V n:Nat} {T:TypeId} (h:Blk w V T n) (k:Below w.heap.size w w'):Blk w' V T n:=by
 obtain ⟨cur,hc,hn⟩:=h
 exact ⟨cur,(k.block V (Array.getElem?_eq_some_iff.1 hc).1).trans hc,hn⟩
/-- Only the cells lo .. hi of the block V are written; all else that was there is as it was. -/
structure Wr (V lo hi:Nat) (w w':World):Prop where
 os:w'.os=w.os
 tape:w'.tape=w.tape
 output:w'.output=w.output
 size:w.heap.size≤w'.heap.size
 oth:∀g,g<w.heap.size→g≠V→w'.heap[g]? = w.heap[g]?
 blk:∀(cur:Array Value) (T:TypeId),w.heap[V]? = some (.cells cur T (0,0))→∃cur':Array Value,w'.heap[V]? = some (.cells cur' T (0,0))∧cur'.size=cur.size∧∀j,(j<lo∨hi≤j)→cur'[j]? = cur[j]?
theorem Wr.refl (V lo hi:Nat) (w:World):Wr V lo hi w w:=⟨rfl,rfl,rfl,Nat.le_refl _,fun _ _ _=>rfl,fun cur _ h=>⟨cur,h,rfl,fun _ _=>rfl⟩⟩
theorem Wr.trans {V lo hi:Nat} {a b c:World} (h:Wr V lo hi a b) (k:Wr V lo hi b c):Wr V lo hi a c :=
 ⟨k.os.trans h.os,k.tape.trans h.tape,k.output.trans h.output,Nat.le_trans h.size k.size,fun g hg hn=>(k.oth g (Nat.lt_of_lt_of_le hg h.size) hn).trans (h.oth g hg hn),fun cur T hc=>by
  obtain ⟨c1,h1,h2,h3⟩:=h.blk cur T hc
  obtain ⟨c2,k1,k2,k3⟩:=k.blk c1 T h1
  exact ⟨c2,k1,k2.trans h2,fun j hj=>(k3 j hj).trans (h3 j hj)⟩⟩
theorem Wr.of {V lo hi:Nat} {w w':World} (h:Below w.heap.size w w') (_hV:V<w.heap.size):Wr V lo hi w w' :=
 ⟨h.os,h.tape,h.output,h.size,fun g hg _=>h.block g hg,fun cur _ hc=>⟨cur,(h.block V (Array.getElem?_eq_some_iff.1 hc).1).trans hc,rfl,fun _ _=>rfl⟩⟩
theorem Wr.mono {V lo hi lo' hi':Nat} {w w':World} (h:Wr V lo hi w w') (h1:lo'≤lo) (h2:hi≤hi'):Wr V lo' hi' w w' :=
 ⟨h.os,h.tape,h.output,h.size,h.oth,fun cur T hc=>by
  obtain ⟨c1,k1,k2,k3⟩:=h.blk cur T hc
  exact ⟨c1,k1,k2,fun j hj=>k3 j (by omega)⟩⟩
theorem Wr.set {V lo hi j:Nat} (w:World) (v:Value) (h1:lo≤j) (h2:j<hi):Wr V lo hi w (w.setCell ⟨V,j,none⟩ v):=by
 refine ⟨rfl,rfl,rfl,by simp,fun g _ hn=>Below.heap_setCell _ _ _ _ hn,fun cur T hc=>⟨cur.setIfInBounds j v,?_,by simp,fun i hi'=> ?_⟩⟩
 ·show (w.heap.modify V _)[V]? = _
  rw[Array.getElem?_modify,if_pos rfl,hc]
  rfl
 ·rw[Array.getElem?_setIfInBounds,if_neg (by omega)]
theorem Wr.grown {V lo hi:Nat} {w w':World} (h:Wr V lo hi w w'):w.grownBy w' (some V):=⟨h.os,h.tape,h.output,h.size,fun g hg hn=>h.oth g hg fun e=>hn (by rw[e])⟩
theorem Wr.agr {V lo hi:Nat} {w w':World} {P:Nat→Prop} (h:Wr V lo hi w w') (hP:¬P V):Agr P w w':=⟨h.size,fun b hb hl=>h.oth b hl fun e=>hP (e▸hb)⟩
theorem Wr.cell {V lo hi n:Nat} {w w':World} {T:TypeId} (h:Wr V lo hi w w') (hb:Blk w V T n) {j:Nat} (hj:j<lo∨hi≤j):w'.cell? ⟨V,j,none⟩=w.cell? ⟨V,j,none⟩:=by
 obtain ⟨cur,hc,_⟩:=hb
 obtain ⟨c1,k1,_,k3⟩:=h.blk cur T hc
 rw[cell_heap k1,cell_heap hc]
 exact k3 j hj
theorem Wr.block {V lo hi n:Nat} {w w':World} {T:TypeId} (h:Wr V lo hi w w') (hb:Blk w V T n):Blk w' V T n:=by
 obtain ⟨cur,hc,hn⟩:=hb
 obtain ⟨c1,k1,k2,_⟩:=h.blk cur T hc
 exact ⟨c1,k1,k2.trans hn⟩
theorem cell_oth {w:World} {V i j:Nat} {v:Value} (h:i≠j):(w.setCell ⟨V,i,none⟩ v).cell? ⟨V,j,none⟩=w.cell? ⟨V,j,none⟩:=World.cell?_setCell_other _ _ _ _ (by intro e;injection e with _ e;exact h e)
end Go.Proofs.YtkadjjmkokhldaaGreat
