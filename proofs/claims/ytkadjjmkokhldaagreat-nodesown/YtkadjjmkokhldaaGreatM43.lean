/-
  (*Node).Do: a node's edit.
  (*Node).Do: an edit of the table 0.
  (*Node).Do: an edit of the table 1.
-/
import Derived.Test.YtkadjjmkokhldaaGreatM42
import Derived.Test.YtkadjjmkokhldaaGreatM35
import Derived.Test.YtkadjjmkokhldaaGreatM39
import Derived.Deep.Cut
import Derived.Deep.RegionHeld3
namespace Go.Proofs.YtkadjjmkokhldaaGreat
open Go.RowKit Go.Sort

/-- What an edit of a table tells, and what the table is then. -/
def doE (t:Tab) (id k key col v:Int):Int:=if edE t id k key col v=0 then mergeE t (edT t id k key col v) else edE t id k key col v
def doT (t:Tab) (id k key col v:Int):Tab:=if doE t id k key col v=0 then mergeT t (edT t id k key col v) else t
/-- .. of a node. -/
def ndE (s t:Tab) (id k x2 key col v:Int):Int:=if x2=0 then doE s id k key col v else if x2=1 then doE t id k key col v else 1
def ndS (s:Tab) (id k x2 key col v:Int):Tab:=if x2=0 then doT s id k key col v else s
def ndT (t:Tab) (id k x2 key col v:Int):Tab:=if x2=1 then doT t id k key col v else t
theorem edT_len (t:Tab) (id k key col v:Int):(edT t id k key col v).c.l.length≤maxLen∧(edT t id k key col v).e.length≤maxLen:=by
 unfold edT
 by_cases h1:k=1
 ·rw[if_pos h1];exact putT_lenK t id key col v
 ·rw[if_neg h1]
  by_cases h2:k=2
  ·rw[if_pos h2];exact ⟨delC_lenK t key,Nat.zero_le _⟩
  ·rw[if_neg h2];exact ⟨Nat.zero_le _,Nat.zero_le _⟩
/-- What region 3 leaves. -/
def DoR (w1 wx:World) (m:Nat) (Bm:Nat) (r:Tab) (id k x3 x4 x5:Int):Prop:=∃(u:Tab) (E:Option Addr) (ce:Nat) (F:Option Addr) (cf:Nat),u=edT r id k x3 x4 x5∧Cls wx Bm [.int .i64 u.c.c0,.int .i64 u.c.c1,.int .i64 u.c.c2,.int .i64 u.c.c3,.slice E u.c.l.length ce,.slice F u.e.length cf]∧TbW m wx u E ce F cf∧Below w1.heap.size w1 wx∧w1.heap.size≤Bm
theorem do_early {w1 w2:World} {r:Tab} {id k x3 x4 x5:Int} {u:Tab} {E:Option Addr} {ce:Nat} {F:Option Addr} {cf:Nat} (hu:u=edT r id k x3 x4 x5) (hB:Cls w2 w1.heap.size [.int .i64 0,.int .i64 0,.int .i64 0,.int .i64 0,.slice none 0 0,.slice none 0 0]) (hT:TbW (w1.heap.size+1) w2 u E ce F cf) (hb:Below w1.heap.size w1 w2) :
  DoR w1 ((((((w2.setCell ⟨w1.heap.size,0,none⟩ (.int .i64 u.c.c0)).setCell ⟨w1.heap.size,1,none⟩ (.int .i64 u.c.c1)).setCell ⟨w1.heap.size,2,none⟩ (.int .i64 u.c.c2)).setCell ⟨w1.heap.size,3,none⟩ (.int .i64 u.c.c3)).setCell ⟨w1.heap.size,4,none⟩ (.slice E u.c.l.length ce)).setCell ⟨w1.heap.size,5,none⟩ (.slice F u.e.length cf)) w1.heap.size w1.heap.size r id k x3 x4 x5 :=
 ⟨u,E,ce,F,cf,hu,(((((hB.put 0 _).put 1 _).put 2 _).put 3 _).put 4 _).put 5 _,(hT.agr (set6_agr (fun h=>by omega) _ _ _ _ _ _)).mono (by omega),below_set6 hb (Nat.le_refl _) _ _ _ _ _ _,Nat.le_refl _⟩
theorem do_late {w1 w2:World} {r:Tab} {id k x3 x4 x5:Int} {u:Tab} {E:Option Addr} {ce:Nat} {F:Option Addr} {cf:Nat} {T:TypeId} (hu:u=edT r id k x3 x4 x5) (hT:TbW w1.heap.size w2 u E ce F cf) (hb:Below w1.heap.size w1 w2) :
  DoR w1 (w2.alloc (.cells #[.int .i64 u.c.c0,.int .i64 u.c.c1,.int .i64 u.c.c2,.int .i64 u.c.c3,.slice E u.c.l.length ce,.slice F u.e.length cf] T)) w1.heap.size w2.heap.size r id k x3 x4 x5 :=
 ⟨u,E,ce,F,cf,hu,Cls.new w2 _ T,hT.below ((Gr.refl w2).alloc _).below,hb.alloc hb.size _,hb.size⟩
end Go.Proofs.YtkadjjmkokhldaaGreat

namespace Go.Proofs.YtkadjjmkokhldaaGreat
open Go.RowKit Go.Sort

set_option maxRecDepth 100000 in
set_option maxHeartbeats 4000000 in
theorem do0_any {w:World} {N:Nat} {P:Nat→Prop} {id:Int} {s t:Tab} {qs:List (List Stp)} (h:Nd w N P id s t qs) (k x3 x4 x5:Int) :
  Calls Tryz.prog 5 #[.pointer (some ⟨N,0,none⟩),.agg #[.int .i64 k,.int .i64 0,.int .i64 x3,.int .i64 x4,.int .i64 x5]] w fun e w'=>e= .returned (.int .i64 (doE s id k x3 x4 x5))∧Nd w' N (plusP P w.heap.size w'.heap.size) id (doT s id k x3 x4 x5) t qs∧Wr N 1 37 w w':=by
 have mixed:Tryz.prog.follows .mixedOrders=true:=by kernel_rfl
 obtain ⟨A,ca,C,cc,hcs,hts⟩:=h.ts
 obtain ⟨B,cb,D,cd,hct,htt⟩:=h.tt
 obtain ⟨w1,hw1⟩:∃W,w.alloc (.cells #[.int .i64 k,.int .i64 0,.int .i64 x3,.int .i64 x4,.int .i64 x5] 29)=W:=⟨_,rfl⟩
 have hg1:Gr w w1:=by rw[←hw1];exact (Gr.refl w).alloc _
 have hs1:w1.heap.size=w.heap.size+1:=by rw[←hw1];simp
 have hBx:Hid (Cls w1 w.heap.size [.int .i64 k,.int .i64 0,.int .i64 x3,.int .i64 x4,.int .i64 x5]):=by show Cls _ _ _;rw[←hw1];exact Cls.new w _ _
 have hHl:Hid (N<w1.heap.size):=Nat.lt_of_lt_of_le h.blk.lt hg1.size
 have hlt0:=h.blk.lt
 have hHn:Hid (w1.cell? ⟨N,0,none⟩=some (.int .i64 id)∧TbC w1 N 1 s A ca C cc∧TbC w1 N 7 t B cb D cd):=⟨(hg1.below.cell (p:=⟨N,0,none⟩) hlt0).trans h.cid,hcs.keep fun j _ _=>hg1.below.cell (p:=⟨N,j,none⟩) hlt0,hct.keep fun j _ _=>hg1.below.cell (p:=⟨N,j,none⟩) hlt0⟩
 have hEd:Hid (∀W,Below w1.heap.size w1 W→Calls Tryz.prog 22 #[.agg #[.int .i64 s.c.c0,.int .i64 s.c.c1,.int .i64 s.c.c2,.int .i64 s.c.c3,.slice A s.c.l.length ca,.slice C s.e.length cc],.int .i64 id,.agg #[.int .i64 k,.int .i64 0,.int .i64 x3,.int .i64 x4,.int .i64 x5]] W fun e w'=>∃(u:Tab) (C:Option Addr) (cp:Nat) (F:Option Addr) (cf:Nat),e= .returned (.tuple #[.agg #[.int .i64 u.c.c0,.int .i64 u.c.c1,.int .i64 u.c.c2,.int .i64 u.c.c3,.slice C u.c.l.length cp,.slice F u.e.length cf],.int .i64 (edE s id k x3 x4 x5)])∧u=edT s id k x3 x4 x5∧TbW W.heap.size w' u C cp F cf∧Below W.heap.size W w'):=fun W hW=>editOf_any s A ca C cc id k 0 x3 x4 x5 W hts.len.1 hts.len.2 ((hts.row.gr hg1).below hW) ((hts.cel.gr hg1).below hW)
 have hH:Hid (Nd w N P id s t qs∧TbP P w s A ca C cc∧TbP P w t B cb D cd∧TbC w N 1 s A ca C cc∧TbC w N 7 t B cb D cd∧Gr w w1∧w1.heap.size=w.heap.size+1):=⟨h,hts,htt,hcs,hct,hg1,hs1⟩
 clear h hts htt hcs hct hg1 hs1 hlt0
 have b1:=hBx.out.cell (j:=1) rfl
 obtain ⟨EE,hEE⟩:∃E,edE s id k x3 x4 x5=E:=⟨_,rfl⟩
 rw[hEE] at hEd
 have hEEH:Hid (edE s id k x3 x4 x5=EE):=hEE
 clear hEE
 go_enter Tryz.func5,Tryz.ntmps5
 go_upto_region 3 with fail
 clear hw1 b1
 go_cut [5,6] from 16 (fun v5 v6 wx=>∃Bm:Nat,v5= .pointer (some ⟨Bm,0,none⟩)∧v6= .int .i64 EE∧DoR w1 wx w1.heap.size Bm s id k x3 x4 x5)
 case first =>
  have hD0:Hid (Below w1.heap.size w1 w1.drew):=(Gr.refl w1).drew.below
  have hD1:Hid (Below w1.heap.size w1 (w1.alloc (.cells #[.int .i64 0,.int .i64 0,.int .i64 0,.int .i64 0,.slice none 0 0,.slice none 0 0] 37)).drew):=((Gr.refl w1).alloc _).drew.below
  have hle0:Hid (w1.heap.size≤w1.drew.heap.size):=Nat.le_refl _
  have hle1:Hid (w1.heap.size+1≤(w1.alloc (.cells #[.int .i64 0,.int .i64 0,.int .i64 0,.int .i64 0,.slice none 0 0,.slice none 0 0] 37)).drew.heap.size):=by show _≤(w1.alloc _).heap.size;simp
  have hKeep:Hid (∀W,Below w1.heap.size w1 W→(fun w'=>w'.cell? ⟨w.heap.size,0,none⟩=some (.int .i64 k)∧w'.cell? ⟨w.heap.size,1,none⟩=some (.int .i64 0)∧w'.cell? ⟨w.heap.size,2,none⟩=some (.int .i64 x3)∧w'.cell? ⟨w.heap.size,3,none⟩=some (.int .i64 x4)∧w'.cell? ⟨w.heap.size,4,none⟩=some (.int .i64 x5)∧w'.cell? ⟨N,0,none⟩=some (.int .i64 id)∧w'.cell? ⟨N,1,none⟩=some (.int .i64 s.c.c0)∧w'.cell? ⟨N,2,none⟩=some (.int .i64 s.c.c1)∧w'.cell? ⟨N,3,none⟩=some (.int .i64 s.c.c2)∧w'.cell? ⟨N,4,none⟩=some (.int .i64 s.c.c3)∧w'.cell? ⟨N,5,none⟩=some (.slice A s.c.l.length ca)∧w'.cell? ⟨N,6,none⟩=some (.slice C s.e.length cc)) W):=fun W hW=>⟨(hBx.out.below hW).cell (j:=0) rfl,(hBx.out.below hW).cell (j:=1) rfl,(hBx.out.below hW).cell (j:=2) rfl,(hBx.out.below hW).cell (j:=3) rfl,(hBx.out.below hW).cell (j:=4) rfl,(hW.cell (p:=⟨N,0,none⟩) hHl.out).trans hHn.out.1,(hW.cell (p:=⟨N,1,none⟩) hHl.out).trans hHn.out.2.1.k0,(hW.cell (p:=⟨N,2,none⟩) hHl.out).trans hHn.out.2.1.k1,(hW.cell (p:=⟨N,3,none⟩) hHl.out).trans hHn.out.2.1.k2,(hW.cell (p:=⟨N,4,none⟩) hHl.out).trans hHn.out.2.1.k3,(hW.cell (p:=⟨N,5,none⟩) hHl.out).trans hHn.out.2.1.k4,(hW.cell (p:=⟨N,6,none⟩) hHl.out).trans hHn.out.2.1.k5⟩
  focus
   refine wp_region_noPanic ?_
   refine wp_region_held_drew (S:=(fun w'=>w'.cell? ⟨w.heap.size,0,none⟩=some (.int .i64 k)∧w'.cell? ⟨w.heap.size,1,none⟩=some (.int .i64 0)∧w'.cell? ⟨w.heap.size,2,none⟩=some (.int .i64 x3)∧w'.cell? ⟨w.heap.size,3,none⟩=some (.int .i64 x4)∧w'.cell? ⟨w.heap.size,4,none⟩=some (.int .i64 x5)∧w'.cell? ⟨N,0,none⟩=some (.int .i64 id)∧w'.cell? ⟨N,1,none⟩=some (.int .i64 s.c.c0)∧w'.cell? ⟨N,2,none⟩=some (.int .i64 s.c.c1)∧w'.cell? ⟨N,3,none⟩=some (.int .i64 s.c.c2)∧w'.cell? ⟨N,4,none⟩=some (.int .i64 s.c.c3)∧w'.cell? ⟨N,5,none⟩=some (.slice A s.c.l.length ca)∧w'.cell? ⟨N,6,none⟩=some (.slice C s.e.length cc))) (by kernel_rfl) (hKeep.out _ hD0.out) (fun hHeld=> ?_)
   refine wpAnyH_take (i:=0) (oi:= ?ois01) (v:= ?vs01) ?hops01 ?hss01 ?hfs01 ?hrs01 ?hQs01 ?hys01 (by assumption) ?rests01
   case hops01=>(simp only[List.getElem?_toArray,List.getElem?_cons_zero];rfl)
   case hss01=>kernel_rfl
   case hfs01=>kernel_rfl
   case hrs01=>kernel_rfl
   case hQs01=>exact fun _ _ _ h=>h
   case hys01=>(refine Or.inl ⟨by rfl,?_⟩;intro w hSw;(try dsimp only at hSw);go_simp<;>with_reducible rfl)
   try simp only[Act.put,List.setIfInBounds_toArray,List.set_cons_zero,List.set_cons_succ]
   refine wpAnyH_take (i:=1) (oi:= ?ois02) (v:= ?vs02) ?hops02 ?hss02 ?hfs02 ?hrs02 ?hQs02 ?hys02 (by assumption) ?rests02
   case hops02=>(simp only[List.getElem?_toArray,List.getElem?_cons_zero,List.getElem?_cons_succ];rfl)
   case hss02=>kernel_rfl
   case hfs02=>kernel_rfl
   case hrs02=>kernel_rfl
   case hQs02=>exact fun _ _ _ h=>h
   case hys02=>(refine Or.inl ⟨by rfl,?_⟩;intro w hSw;(try dsimp only at hSw);go_simp<;>with_reducible rfl)
   try simp only[Act.put,List.setIfInBounds_toArray,List.set_cons_zero,List.set_cons_succ]
   refine wpAnyH_take (i:=2) (oi:= ?ois03) (v:= ?vs03) ?hops03 ?hss03 ?hfs03 ?hrs03 ?hQs03 ?hys03 (by assumption) ?rests03
   case hops03=>(simp only[List.getElem?_toArray,List.getElem?_cons_zero,List.getElem?_cons_succ];rfl)
   case hss03=>kernel_rfl
   case hfs03=>kernel_rfl
   case hrs03=>kernel_rfl
   case hQs03=>exact fun _ _ _ h=>h
   case hys03=>(refine Or.inl ⟨by rfl,?_⟩;intro w hSw;(try dsimp only at hSw);go_simp<;>with_reducible rfl)
   try simp only[Act.put,List.setIfInBounds_toArray,List.set_cons_zero,List.set_cons_succ]
   refine wpAnyH_take (i:=3) (oi:= ?ois04) (v:= ?vs04) ?hops04 ?hss04 ?hfs04 ?hrs04 ?hQs04 ?hys04 (by assumption) ?rests04
   case hops04=>(simp only[List.getElem?_toArray,List.getElem?_cons_zero,List.getElem?_cons_succ];rfl)
   case hss04=>kernel_rfl
   case hfs04=>kernel_rfl
   case hrs04=>kernel_rfl
   case hQs04=>exact fun _ _ _ h=>h
   case hys04=>(refine Or.inl ⟨by rfl,?_⟩;intro w hSw;(try dsimp only at hSw);go_simp<;>with_reducible rfl)
   try simp only[Act.put,List.setIfInBounds_toArray,List.set_cons_zero,List.set_cons_succ]
   refine wpAnyH_take (i:=4) (oi:= ?ois05) (v:= ?vs05) ?hops05 ?hss05 ?hfs05 ?hrs05 ?hQs05 ?hys05 (by assumption) ?rests05
   case hops05=>(simp only[List.getElem?_toArray,List.getElem?_cons_zero,List.getElem?_cons_succ];rfl)
   case hss05=>kernel_rfl
   case hfs05=>kernel_rfl
   case hrs05=>kernel_rfl
   case hQs05=>exact fun _ _ _ h=>h
   case hys05=>(refine Or.inl ⟨by rfl,?_⟩;intro w hSw;(try dsimp only at hSw);go_simp<;>with_reducible rfl)
   try simp only[Act.put,List.setIfInBounds_toArray,List.set_cons_zero,List.set_cons_succ]
   refine wpAnyH_take (i:=5) (oi:= ?ois06) (v:= ?vs06) ?hops06 ?hss06 ?hfs06 ?hrs06 ?hQs06 ?hys06 (by assumption) ?rests06
   case hops06=>(simp only[List.getElem?_toArray,List.getElem?_cons_zero,List.getElem?_cons_succ];rfl)
   case hss06=>kernel_rfl
   case hfs06=>kernel_rfl
   case hrs06=>kernel_rfl
   case hQs06=>exact fun _ _ _ h=>h
   case hys06=>(refine Or.inl ⟨by rfl,?_⟩;intro w hSw;(try dsimp only at hSw);go_simp<;>with_reducible rfl)
   try simp only[Act.put,List.setIfInBounds_toArray,List.set_cons_zero,List.set_cons_succ]
   refine wpAnyH_take (i:=6) (oi:= ?ois07) (v:= ?vs07) ?hops07 ?hss07 ?hfs07 ?hrs07 ?hQs07 ?hys07 (by assumption) ?rests07
   case hops07=>(simp only[List.getElem?_toArray,List.getElem?_cons_zero,List.getElem?_cons_succ];rfl)
   case hss07=>kernel_rfl
   case hfs07=>kernel_rfl
   case hrs07=>kernel_rfl
   case hQs07=>exact fun _ _ _ h=>h
   case hys07=>(refine Or.inl ⟨by rfl,?_⟩;intro w hSw;(try dsimp only at hSw);go_simp<;>with_reducible rfl)
   try simp only[Act.put,List.setIfInBounds_toArray,List.set_cons_zero,List.set_cons_succ]
   refine wpAnyH_take (i:=7) (oi:= ?ois08) (v:= ?vs08) ?hops08 ?hss08 ?hfs08 ?hrs08 ?hQs08 ?hys08 (by assumption) ?rests08
   case hops08=>(simp only[List.getElem?_toArray,List.getElem?_cons_zero,List.getElem?_cons_succ];rfl)
   case hss08=>kernel_rfl
   case hfs08=>kernel_rfl
   case hrs08=>kernel_rfl
   case hQs08=>exact fun _ _ _ h=>h
   case hys08=>(refine Or.inl ⟨by rfl,?_⟩;intro w hSw;(try dsimp only at hSw);go_simp<;>with_reducible rfl)
   try simp only[Act.put,List.setIfInBounds_toArray,List.set_cons_zero,List.set_cons_succ]
   refine wpAnyH_take (i:=8) (oi:= ?ois09) (v:= ?vs09) ?hops09 ?hss09 ?hfs09 ?hrs09 ?hQs09 ?hys09 (by assumption) ?rests09
   case hops09=>(simp only[List.getElem?_toArray,List.getElem?_cons_zero,List.getElem?_cons_succ];rfl)
   case hss09=>kernel_rfl
   case hfs09=>kernel_rfl
   case hrs09=>kernel_rfl
   case hQs09=>exact fun _ _ _ h=>h
   case hys09=>(refine Or.inl ⟨by rfl,?_⟩;intro w hSw;(try dsimp only at hSw);go_simp<;>with_reducible rfl)
   try simp only[Act.put,List.setIfInBounds_toArray,List.set_cons_zero,List.set_cons_succ]
   refine wpAnyH_take (i:=9) (oi:= ?ois010) (v:= ?vs010) ?hops010 ?hss010 ?hfs010 ?hrs010 ?hQs010 ?hys010 (by assumption) ?rests010
   case hops010=>(simp only[List.getElem?_toArray,List.getElem?_cons_zero,List.getElem?_cons_succ];rfl)
   case hss010=>kernel_rfl
   case hfs010=>kernel_rfl
   case hrs010=>kernel_rfl
   case hQs010=>exact fun _ _ _ h=>h
   case hys010=>(refine Or.inl ⟨by rfl,?_⟩;intro w hSw;(try dsimp only at hSw);go_simp<;>with_reducible rfl)
   try simp only[Act.put,List.setIfInBounds_toArray,List.set_cons_zero,List.set_cons_succ]
   refine wpAnyH_take (i:=10) (oi:= ?ois011) (v:= ?vs011) ?hops011 ?hss011 ?hfs011 ?hrs011 ?hQs011 ?hys011 (by assumption) ?rests011
   case hops011=>(simp only[List.getElem?_toArray,List.getElem?_cons_zero,List.getElem?_cons_succ];rfl)
   case hss011=>kernel_rfl
   case hfs011=>kernel_rfl
   case hrs011=>kernel_rfl
   case hQs011=>exact fun _ _ _ h=>h
   case hys011=>(refine Or.inl ⟨by rfl,?_⟩;intro w hSw;(try dsimp only at hSw);go_simp<;>with_reducible rfl)
   try simp only[Act.put,List.setIfInBounds_toArray,List.set_cons_zero,List.set_cons_succ]
   refine wpAnyH_take (i:=11) (oi:= ?ois012) (v:= ?vs012) ?hops012 ?hss012 ?hfs012 ?hrs012 ?hQs012 ?hys012 (by assumption) ?rests012
   case hops012=>(simp only[List.getElem?_toArray,List.getElem?_cons_zero,List.getElem?_cons_succ];rfl)
   case hss012=>kernel_rfl
   case hfs012=>kernel_rfl
   case hrs012=>kernel_rfl
   case hQs012=>exact fun _ _ _ h=>h
   case hys012=>(refine Or.inl ⟨by rfl,?_⟩;intro w hSw;(try dsimp only at hSw);go_simp<;>with_reducible rfl)
   try simp only[Act.put,List.setIfInBounds_toArray,List.set_cons_zero,List.set_cons_succ]
   refine wpAnyH_ready (rs:=[12,16]) (by kernel_rfl) (by simp) ?_
   refine AllReadyH.cons (o:= ?ois013) ?hops013 (fun K hK=> ?steps013) ?mores013
   case hops013=>(simp only[List.getElem?_toArray,List.getElem?_cons_zero,List.getElem?_cons_succ];rfl)
   case mores013 =>
    refine AllReadyH.cons (o:= ?ois014) ?hops014 (fun K hK=> ?steps014) ?mores014
    case hops014=>(simp only[List.getElem?_toArray,List.getElem?_cons_zero,List.getElem?_cons_succ];rfl)
    case mores014=>exact AllReadyH.nil
    go_simp
    refine hK.out _ _ ?_ (fun hHeld=> ?_)
    ·(try dsimp only);exact hKeep.out _ (by first|with_reducible exact hD0.out|with_reducible exact hD1.out|with_reducible exact hF.out.2|with_reducible exact hF.out.2.alloc hF.out.2.size _|exact below_set6 hF.out.2 (Nat.le_refl _) _ _ _ _ _ _)
    clear hK K
    try simp only[Act.put,List.setIfInBounds_toArray,List.set_cons_zero,List.set_cons_succ]
    refine wpAnyH_ready (rs:=[12]) (by kernel_rfl) (by simp) ?_
    refine AllReadyH.cons (o:= ?ois015) ?hops015 (fun K hK=> ?steps015) ?mores015
    case hops015=>(simp only[List.getElem?_toArray,List.getElem?_cons_zero,List.getElem?_cons_succ];rfl)
    case mores015=>exact AllReadyH.nil
    go_simp
    (go_at_call 22;(with_reducible refine Calls.mono (hEd.out _ (by first|with_reducible exact hD0.out|with_reducible exact hD1.out)) ?_);rintro e w2 ⟨u,E,ce,F,cf,rfl,f1,f2,f3⟩;have hF:Hid (u=edT s id k x3 x4 x5∧Below w1.heap.size w1 w2):=⟨f1,(by first|exact hD0.out.trans (f3.mono hD0.out.size)|exact hD1.out.trans (f3.mono hD1.out.size))⟩;have hT2:Hid _:=f2;(first|(have hB2:Hid (Cls w2 w1.heap.size [.int .i64 0,.int .i64 0,.int .i64 0,.int .i64 0,.slice none 0 0,.slice none 0 0]):=((Cls.new w1 #[.int .i64 0,.int .i64 0,.int .i64 0,.int .i64 0,.slice none 0 0,.slice none 0 0] 37).gr (Gr.refl _).drew).below f3)|skip);clear f1 f2 f3;(first|(have p0:=hB2.out.cell (j:=0) rfl;have z0:=hB2.out.fz 0;have p1:=hB2.out.cell (j:=1) rfl;have z1:=hB2.out.fz 1;have p2:=hB2.out.cell (j:=2) rfl;have z2:=hB2.out.fz 2;have p3:=hB2.out.cell (j:=3) rfl;have z3:=hB2.out.fz 3;have p4:=hB2.out.cell (j:=4) rfl;have z4:=hB2.out.fz 4;have p5:=hB2.out.cell (j:=5) rfl;have z5:=hB2.out.fz 5)|skip))
    first|(go_wp2_with fail)|skip
    refine hK.out _ _ ?_ (fun hHeld=> ?_)
    ·(try dsimp only);exact hKeep.out _ (by first|with_reducible exact hD0.out|with_reducible exact hD1.out|with_reducible exact hF.out.2|with_reducible exact hF.out.2.alloc hF.out.2.size _|exact below_set6 hF.out.2 (Nat.le_refl _) _ _ _ _ _ _)
    clear hK K
    try simp only[Act.put,List.setIfInBounds_toArray,List.set_cons_zero,List.set_cons_succ]
    refine wpAnyH_take (i:=13) (oi:= ?ois016) (v:= ?vs016) ?hops016 ?hss016 ?hfs016 ?hrs016 ?hQs016 ?hys016 (by assumption) ?rests016
    case hops016=>(simp only[List.getElem?_toArray,List.getElem?_cons_zero,List.getElem?_cons_succ];rfl)
    case hss016=>kernel_rfl
    case hfs016=>kernel_rfl
    case hrs016=>kernel_rfl
    case hQs016=>exact fun _ _ _ h=>h
    case hys016=>(refine Or.inl ⟨by rfl,?_⟩;intro w hSw;(try dsimp only at hSw);go_simp<;>with_reducible rfl)
    try simp only[Act.put,List.setIfInBounds_toArray,List.set_cons_zero,List.set_cons_succ]
    refine wpAnyH_take (i:=14) (oi:= ?ois017) (v:= ?vs017) ?hops017 ?hss017 ?hfs017 ?hrs017 ?hQs017 ?hys017 (by assumption) ?rests017
    case hops017=>(simp only[List.getElem?_toArray,List.getElem?_cons_zero,List.getElem?_cons_succ];rfl)
    case hss017=>kernel_rfl
    case hfs017=>kernel_rfl
    case hrs017=>kernel_rfl
    case hQs017=>exact fun _ _ _ h=>h
    case hys017=>(refine Or.inl ⟨by rfl,?_⟩;intro w hSw;(try dsimp only at hSw);go_simp<;>with_reducible rfl)
    try simp only[Act.put,List.setIfInBounds_toArray,List.set_cons_zero,List.set_cons_succ]
    refine wpAnyH_take (i:=15) (oi:= ?ois018) (v:= ?vs018) ?hops018 ?hss018 ?hfs018 ?hrs018 ?hQs018 ?hys018 (by assumption) ?rests018
    case hops018=>(simp only[List.getElem?_toArray,List.getElem?_cons_zero,List.getElem?_cons_succ];rfl)
    case hss018=>kernel_rfl
    case hfs018=>kernel_rfl
    case hrs018=>kernel_rfl
    case hQs018=>exact fun _ _ _ h=>h
    case hys018=>(refine Or.inl ⟨by rfl,?_⟩;intro w hSw;(try dsimp only at hSw);go_simp<;>with_reducible rfl)
    try simp only[Act.put,List.setIfInBounds_toArray,List.set_cons_zero,List.set_cons_succ]
    refine wpAnyH_ready (rs:=[17]) (by kernel_rfl) (by simp) ?_
    refine AllReadyH.cons (o:= ?ois019) ?hops019 (fun K hK=> ?steps019) ?mores019
    case hops019=>(simp only[List.getElem?_toArray,List.getElem?_cons_zero,List.getElem?_cons_succ];rfl)
    case mores019=>exact AllReadyH.nil
    go_simp
    refine hK.out _ _ ?_ (fun hHeld=> ?_)
    ·(try dsimp only);exact hKeep.out _ (by first|with_reducible exact hD0.out|with_reducible exact hD1.out|with_reducible exact hF.out.2|with_reducible exact hF.out.2.alloc hF.out.2.size _|exact below_set6 hF.out.2 (Nat.le_refl _) _ _ _ _ _ _)
    clear hK K
    try simp only[Act.put,List.setIfInBounds_toArray,List.set_cons_zero,List.set_cons_succ]
    refine wpAnyH_take (i:=18) (oi:= ?ois020) (v:= ?vs020) ?hops020 ?hss020 ?hfs020 ?hrs020 ?hQs020 ?hys020 (by assumption) ?rests020
    case hops020=>(simp only[List.getElem?_toArray,List.getElem?_cons_zero,List.getElem?_cons_succ];rfl)
    case hss020=>kernel_rfl
    case hfs020=>kernel_rfl
    case hrs020=>kernel_rfl
    case hQs020=>exact fun _ _ _ h=>h
    case hys020=>(refine Or.inl ⟨by rfl,?_⟩;intro w hSw;(try dsimp only at hSw);go_simp<;>with_reducible rfl)
    try simp only[Act.put,List.setIfInBounds_toArray,List.set_cons_zero,List.set_cons_succ]
    refine wpAnyH_done (by kernel_rfl) ?_ _
    refine NoPanic.normal ?_
    go_wp2_with fail
    go_meet
    case rel=>exact ⟨_,rfl,rfl,(by first|with_reducible exact do_late hF.out.1 (hT2.out.mono hle0.out) hF.out.2|with_reducible exact do_early hF.out.1 hB2.out (hT2.out.mono hle1.out) hF.out.2)⟩
   go_simp
   (go_at_call 22;(with_reducible refine Calls.mono (hEd.out _ (by first|with_reducible exact hD0.out|with_reducible exact hD1.out)) ?_);rintro e w2 ⟨u,E,ce,F,cf,rfl,f1,f2,f3⟩;have hF:Hid (u=edT s id k x3 x4 x5∧Below w1.heap.size w1 w2):=⟨f1,(by first|exact hD0.out.trans (f3.mono hD0.out.size)|exact hD1.out.trans (f3.mono hD1.out.size))⟩;have hT2:Hid _:=f2;(first|(have hB2:Hid (Cls w2 w1.heap.size [.int .i64 0,.int .i64 0,.int .i64 0,.int .i64 0,.slice none 0 0,.slice none 0 0]):=((Cls.new w1 #[.int .i64 0,.int .i64 0,.int .i64 0,.int .i64 0,.slice none 0 0,.slice none 0 0] 37).gr (Gr.refl _).drew).below f3)|skip);clear f1 f2 f3;(first|(have p0:=hB2.out.cell (j:=0) rfl;have z0:=hB2.out.fz 0;have p1:=hB2.out.cell (j:=1) rfl;have z1:=hB2.out.fz 1;have p2:=hB2.out.cell (j:=2) rfl;have z2:=hB2.out.fz 2;have p3:=hB2.out.cell (j:=3) rfl;have z3:=hB2.out.fz 3;have p4:=hB2.out.cell (j:=4) rfl;have z4:=hB2.out.fz 4;have p5:=hB2.out.cell (j:=5) rfl;have z5:=hB2.out.fz 5)|skip))
   first|(go_wp2_with fail)|skip
   refine hK.out _ _ ?_ (fun hHeld=> ?_)
   ·(try dsimp only);exact hKeep.out _ (by first|with_reducible exact hD0.out|with_reducible exact hD1.out|with_reducible exact hF.out.2|with_reducible exact hF.out.2.alloc hF.out.2.size _|exact below_set6 hF.out.2 (Nat.le_refl _) _ _ _ _ _ _)
   clear hK K
   try simp only[Act.put,List.setIfInBounds_toArray,List.set_cons_zero,List.set_cons_succ]
   refine wpAnyH_take (i:=13) (oi:= ?ois021) (v:= ?vs021) ?hops021 ?hss021 ?hfs021 ?hrs021 ?hQs021 ?hys021 (by assumption) ?rests021
   case hops021=>(simp only[List.getElem?_toArray,List.getElem?_cons_zero,List.getElem?_cons_succ];rfl)
   case hss021=>kernel_rfl
   case hfs021=>kernel_rfl
   case hrs021=>kernel_rfl
   case hQs021=>exact fun _ _ _ h=>h
   case hys021=>(refine Or.inl ⟨by rfl,?_⟩;intro w hSw;(try dsimp only at hSw);go_simp<;>with_reducible rfl)
   try simp only[Act.put,List.setIfInBounds_toArray,List.set_cons_zero,List.set_cons_succ]
   refine wpAnyH_take (i:=14) (oi:= ?ois022) (v:= ?vs022) ?hops022 ?hss022 ?hfs022 ?hrs022 ?hQs022 ?hys022 (by assumption) ?rests022
   case hops022=>(simp only[List.getElem?_toArray,List.getElem?_cons_zero,List.getElem?_cons_succ];rfl)
   case hss022=>kernel_rfl
   case hfs022=>kernel_rfl
   case hrs022=>kernel_rfl
   case hQs022=>exact fun _ _ _ h=>h
   case hys022=>(refine Or.inl ⟨by rfl,?_⟩;intro w hSw;(try dsimp only at hSw);go_simp<;>with_reducible rfl)
   try simp only[Act.put,List.setIfInBounds_toArray,List.set_cons_zero,List.set_cons_succ]
   refine wpAnyH_take (i:=15) (oi:= ?ois023) (v:= ?vs023) ?hops023 ?hss023 ?hfs023 ?hrs023 ?hQs023 ?hys023 (by assumption) ?rests023
   case hops023=>(simp only[List.getElem?_toArray,List.getElem?_cons_zero,List.getElem?_cons_succ];rfl)
   case hss023=>kernel_rfl
   case hfs023=>kernel_rfl
   case hrs023=>kernel_rfl
   case hQs023=>exact fun _ _ _ h=>h
   case hys023=>(refine Or.inl ⟨by rfl,?_⟩;intro w hSw;(try dsimp only at hSw);go_simp<;>with_reducible rfl)
   try simp only[Act.put,List.setIfInBounds_toArray,List.set_cons_zero,List.set_cons_succ]
   refine wpAnyH_ready (rs:=[16]) (by kernel_rfl) (by simp) ?_
   refine AllReadyH.cons (o:= ?ois024) ?hops024 (fun K hK=> ?steps024) ?mores024
   case hops024=>(simp only[List.getElem?_toArray,List.getElem?_cons_zero,List.getElem?_cons_succ];rfl)
   case mores024=>exact AllReadyH.nil
   go_simp
   refine hK.out _ _ ?_ (fun hHeld=> ?_)
   ·(try dsimp only);exact hKeep.out _ (by first|with_reducible exact hD0.out|with_reducible exact hD1.out|with_reducible exact hF.out.2|with_reducible exact hF.out.2.alloc hF.out.2.size _|exact below_set6 hF.out.2 (Nat.le_refl _) _ _ _ _ _ _)
   clear hK K
   try simp only[Act.put,List.setIfInBounds_toArray,List.set_cons_zero,List.set_cons_succ]
   refine wpAnyH_ready (rs:=[17]) (by kernel_rfl) (by simp) ?_
   refine AllReadyH.cons (o:= ?ois025) ?hops025 (fun K hK=> ?steps025) ?mores025
   case hops025=>(simp only[List.getElem?_toArray,List.getElem?_cons_zero,List.getElem?_cons_succ];rfl)
   case mores025=>exact AllReadyH.nil
   go_simp
   refine hK.out _ _ ?_ (fun hHeld=> ?_)
   ·(try dsimp only);exact hKeep.out _ (by first|with_reducible exact hD0.out|with_reducible exact hD1.out|with_reducible exact hF.out.2|with_reducible exact hF.out.2.alloc hF.out.2.size _|exact below_set6 hF.out.2 (Nat.le_refl _) _ _ _ _ _ _)
   clear hK K
   try simp only[Act.put,List.setIfInBounds_toArray,List.set_cons_zero,List.set_cons_succ]
   refine wpAnyH_take (i:=18) (oi:= ?ois026) (v:= ?vs026) ?hops026 ?hss026 ?hfs026 ?hrs026 ?hQs026 ?hys026 (by assumption) ?rests026
   case hops026=>(simp only[List.getElem?_toArray,List.getElem?_cons_zero,List.getElem?_cons_succ];rfl)
   case hss026=>kernel_rfl
   case hfs026=>kernel_rfl
   case hrs026=>kernel_rfl
   case hQs026=>exact fun _ _ _ h=>h
   case hys026=>(refine Or.inl ⟨by rfl,?_⟩;intro w hSw;(try dsimp only at hSw);go_simp<;>with_reducible rfl)
   try simp only[Act.put,List.setIfInBounds_toArray,List.set_cons_zero,List.set_cons_succ]
   refine wpAnyH_done (by kernel_rfl) ?_ _
   refine NoPanic.normal ?_
   go_wp2_with fail
   go_meet
   case rel=>exact ⟨_,rfl,rfl,(by first|with_reducible exact do_late hF.out.1 (hT2.out.mono hle0.out) hF.out.2|with_reducible exact do_early hF.out.1 hB2.out (hT2.out.mono hle1.out) hF.out.2)⟩
 case rest =>
  rename World=>wz
  obtain ⟨Bm,rfl,rfl,hDR⟩:=hcut
  obtain ⟨u,UA,uca,UC,ucc,hu,hCu,hTu,hbc,hge⟩:=hDR
  have hg1:=hH.out.2.2.2.2.2.1
  have hbw:Below w.heap.size w wz:=hg1.below.trans (hbc.mono hg1.size)
  have hR:Hid (u=edT s id k x3 x4 x5∧Cls wz Bm [.int .i64 u.c.c0,.int .i64 u.c.c1,.int .i64 u.c.c2,.int .i64 u.c.c3,.slice UA u.c.l.length uca,.slice UC u.e.length ucc]∧TbW w1.heap.size wz u UA uca UC ucc∧Below w.heap.size w wz∧w1.heap.size≤Bm∧Cls wz w.heap.size [.int .i64 k,.int .i64 0,.int .i64 x3,.int .i64 x4,.int .i64 x5]∧Nd wz N P id s t qs):=⟨hu,hCu,hTu,hbw,hge,hBx.out.below hbc,hH.out.1.below hbw⟩
  clear hu hCu hTu hbc hge hg1 hbw hEd hHn hBx
  cases hn:(EE != 0)
  rotate_left
  focus
   have hfin:Hid (doE s id k x3 x4 x5=EE∧doT s id k x3 x4 x5=s):=by
    have h0:¬EE=0:=by simpa using hn
    have h1:doE s id k x3 x4 x5=EE:=by unfold doE;rw[hEEH.out,if_neg h0]
    exact ⟨h1,by unfold doT;rw[h1,if_neg h0]⟩
   go_wp2
   go_ret
   refine ⟨by rw[hfin.out.1];rfl,?_,Wr.of hR.out.2.2.2.1 hH.out.1.blk.lt⟩
   rw[hfin.out.2]
   exact hR.out.2.2.2.2.2.2.mono (fun b hb=>plusP.old b hb) (plus_out hH.out.1.out hH.out.1.blk.lt) (plus_up fun b hb=>hR.out.2.2.2.2.2.2.up b hb)
  have h0:EE=0:=by simpa using hn
  subst h0
  clear hn
  have hlt0:=hH.out.1.blk.lt
  have n1:=(hR.out.2.2.2.1.cell (p:=⟨N,1,none⟩) hlt0).trans hH.out.2.2.2.1.k0
  have n2:=(hR.out.2.2.2.1.cell (p:=⟨N,2,none⟩) hlt0).trans hH.out.2.2.2.1.k1
  have n3:=(hR.out.2.2.2.1.cell (p:=⟨N,3,none⟩) hlt0).trans hH.out.2.2.2.1.k2
  have n4:=(hR.out.2.2.2.1.cell (p:=⟨N,4,none⟩) hlt0).trans hH.out.2.2.2.1.k3
  have n5:=(hR.out.2.2.2.1.cell (p:=⟨N,5,none⟩) hlt0).trans hH.out.2.2.2.1.k4
  have n6:=(hR.out.2.2.2.1.cell (p:=⟨N,6,none⟩) hlt0).trans hH.out.2.2.2.1.k5
  have n7:=(hR.out.2.2.2.1.cell (p:=⟨N,7,none⟩) hlt0).trans hH.out.2.2.2.2.1.k0
  have n8:=(hR.out.2.2.2.1.cell (p:=⟨N,8,none⟩) hlt0).trans hH.out.2.2.2.2.1.k1
  have n9:=(hR.out.2.2.2.1.cell (p:=⟨N,9,none⟩) hlt0).trans hH.out.2.2.2.2.1.k2
  have n10:=(hR.out.2.2.2.1.cell (p:=⟨N,10,none⟩) hlt0).trans hH.out.2.2.2.2.1.k3
  have n11:=(hR.out.2.2.2.1.cell (p:=⟨N,11,none⟩) hlt0).trans hH.out.2.2.2.2.1.k4
  have n12:=(hR.out.2.2.2.1.cell (p:=⟨N,12,none⟩) hlt0).trans hH.out.2.2.2.2.1.k5
  go_upto_region 7 with fail
  obtain ⟨w5,hw5⟩:∃W,wz.alloc (.cells #[.int .i64 s.c.c0,.int .i64 s.c.c1,.int .i64 s.c.c2,.int .i64 s.c.c3,.slice A s.c.l.length ca,.slice C s.e.length cc,.int .i64 t.c.c0,.int .i64 t.c.c1,.int .i64 t.c.c2,.int .i64 t.c.c3,.slice B t.c.l.length cb,.slice D t.e.length cd] 38)=W:=⟨_,rfl⟩
  rw[hw5]
  have hg5:Gr wz w5:=by rw[←hw5];exact (Gr.refl _).alloc _
  have h5:Hid (Cls w5 wz.heap.size [.int .i64 s.c.c0,.int .i64 s.c.c1,.int .i64 s.c.c2,.int .i64 s.c.c3,.slice A s.c.l.length ca,.slice C s.e.length cc,.int .i64 t.c.c0,.int .i64 t.c.c1,.int .i64 t.c.c2,.int .i64 t.c.c3,.slice B t.c.l.length cb,.slice D t.e.length cd]∧Cls w5 Bm [.int .i64 u.c.c0,.int .i64 u.c.c1,.int .i64 u.c.c2,.int .i64 u.c.c3,.slice UA u.c.l.length uca,.slice UC u.e.length ucc]∧TbW w1.heap.size w5 u UA uca UC ucc∧Below w.heap.size w w5∧Cls w5 w.heap.size [.int .i64 k,.int .i64 0,.int .i64 x3,.int .i64 x4,.int .i64 x5]∧Nd w5 N P id s t qs∧TbP P w5 s A ca C cc∧TbP P w5 t B cb D cd∧Gr wz w5):=by
   have hb5:=hR.out.2.2.2.1.trans (hg5.below.mono hR.out.2.2.2.1.size)
   exact ⟨by rw[←hw5];exact Cls.new wz _ _,hR.out.2.1.gr hg5,hR.out.2.2.1.below hg5.below,hb5,hR.out.2.2.2.2.2.1.gr hg5,hR.out.2.2.2.2.2.2.below hg5.below,hH.out.2.1.below hb5,hH.out.2.2.1.below hb5,hg5⟩
  clear hw5 hg5 n1 n2 n3 n4 n5 n6 n7 n8 n9 n10 n11 n12 hlt0
  have b1:=h5.out.2.2.2.2.1.cell (j:=1) rfl
  have a0:=h5.out.1.cell (j:=0) rfl
  have a1:=h5.out.1.cell (j:=1) rfl
  have a2:=h5.out.1.cell (j:=2) rfl
  have a3:=h5.out.1.cell (j:=3) rfl
  have a4:=h5.out.1.cell (j:=4) rfl
  have a5:=h5.out.1.cell (j:=5) rfl
  have c0:=h5.out.2.1.cell (j:=0) rfl
  have c1:=h5.out.2.1.cell (j:=1) rfl
  have c2:=h5.out.2.1.cell (j:=2) rfl
  have c3:=h5.out.2.1.cell (j:=3) rfl
  have c4:=h5.out.2.1.cell (j:=4) rfl
  have c5:=h5.out.2.1.cell (j:=5) rfl
  obtain ⟨ME,hME⟩:∃E,mergeE s u=E:=⟨_,rfl⟩
  obtain ⟨MT,hMT⟩:∃E,mergeT s u=E:=⟨_,rfl⟩
  have hMH:Hid (mergeE s u=ME∧mergeT s u=MT):=⟨hME,hMT⟩
  have hM:Hid (∀W,Gr w5 W→Calls Tryz.prog 23 #[.agg #[.int .i64 s.c.c0,.int .i64 s.c.c1,.int .i64 s.c.c2,.int .i64 s.c.c3,.slice A s.c.l.length ca,.slice C s.e.length cc],.agg #[.int .i64 u.c.c0,.int .i64 u.c.c1,.int .i64 u.c.c2,.int .i64 u.c.c3,.slice UA u.c.l.length uca,.slice UC u.e.length ucc]] W fun e w'=>∃E ce F cf,e= .returned (.tuple #[.agg #[.int .i64 MT.c.c0,.int .i64 MT.c.c1,.int .i64 MT.c.c2,.int .i64 MT.c.c3,.slice E MT.c.l.length ce,.slice F MT.e.length cf],.int .i64 ME])∧TbW W.heap.size w' MT E ce F cf∧Below W.heap.size W w'):=fun W hg=>by
   have hl:u.c.l.length≤maxLen∧u.e.length≤maxLen:=by rw[hR.out.1];exact edT_len _ _ _ _ _ _
   have hr5:TbP P w5 s A ca C cc:=h5.out.2.2.2.2.2.2.1
   have hm:=merge_new s u A UA C UC ca uca cc ucc W hr5.len.1 hl.1 hr5.len.2 hl.2 hr5.nr h5.out.2.2.1.nr (hr5.row.gr hg) (h5.out.2.2.1.row.gr hg) (hr5.cel.gr hg) (h5.out.2.2.1.cel.gr hg)
   rw[hME,hMT] at hm
   refine hm.mono ?_
   rintro e w' ⟨E,ce,F,cf,rfl,f1,f2,f3,f4,f5,f6,f7⟩
   exact ⟨E,ce,F,cf,rfl,⟨f1,f2,f3,f4,f5,f6⟩,f7⟩
  clear hME hMT
  go_cut [6] from 16 (fun v6 wx=>v6= .int .i64 ME∧∃(ME1:Option Addr) (mce:Nat) (MF1:Option Addr) (mcf:Nat),Hid (Cls wx wz.heap.size [.int .i64 MT.c.c0,.int .i64 MT.c.c1,.int .i64 MT.c.c2,.int .i64 MT.c.c3,.slice ME1 MT.c.l.length mce,.slice MF1 MT.e.length mcf,.int .i64 t.c.c0,.int .i64 t.c.c1,.int .i64 t.c.c2,.int .i64 t.c.c3,.slice B t.c.l.length cb,.slice D t.e.length cd]∧TbW w5.heap.size wx MT ME1 mce MF1 mcf∧Below wz.heap.size wz wx))
  case first =>
   go_region_with (go_at_call 23;refine Calls.mono (hM.out _ (Gr.refl w5).drew) ?_;rintro e w6 ⟨ME1,mce,MF1,mcf,rfl,f1,f2⟩;have hF:Hid (TbW w5.heap.size w6 MT ME1 mce MF1 mcf∧Below w5.heap.size w5 w6):=⟨f1,(Gr.refl w5).drew.below.trans f2⟩;clear f1 f2;have e1:=(h5.out.2.2.2.2.1.below hF.out.2).cell (j:=1) rfl;have p0:=(h5.out.1.below hF.out.2).cell (j:=0) rfl;have z0:=(h5.out.1.below hF.out.2).fz 0;have p1:=(h5.out.1.below hF.out.2).cell (j:=1) rfl;have z1:=(h5.out.1.below hF.out.2).fz 1;have p2:=(h5.out.1.below hF.out.2).cell (j:=2) rfl;have z2:=(h5.out.1.below hF.out.2).fz 2;have p3:=(h5.out.1.below hF.out.2).cell (j:=3) rfl;have z3:=(h5.out.1.below hF.out.2).fz 3;have p4:=(h5.out.1.below hF.out.2).cell (j:=4) rfl;have z4:=(h5.out.1.below hF.out.2).fz 4;have p5:=(h5.out.1.below hF.out.2).cell (j:=5) rfl;have z5:=(h5.out.1.below hF.out.2).fz 5)
   all_goals
    have hfin:Hid (Cls ((((((w6.setCell ⟨wz.heap.size,0,none⟩ (.int .i64 MT.c.c0)).setCell ⟨wz.heap.size,1,none⟩ (.int .i64 MT.c.c1)).setCell ⟨wz.heap.size,2,none⟩ (.int .i64 MT.c.c2)).setCell ⟨wz.heap.size,3,none⟩ (.int .i64 MT.c.c3)).setCell ⟨wz.heap.size,4,none⟩ (.slice ME1 MT.c.l.length mce)).setCell ⟨wz.heap.size,5,none⟩ (.slice MF1 MT.e.length mcf)) wz.heap.size [.int .i64 MT.c.c0,.int .i64 MT.c.c1,.int .i64 MT.c.c2,.int .i64 MT.c.c3,.slice ME1 MT.c.l.length mce,.slice MF1 MT.e.length mcf,.int .i64 t.c.c0,.int .i64 t.c.c1,.int .i64 t.c.c2,.int .i64 t.c.c3,.slice B t.c.l.length cb,.slice D t.e.length cd]∧TbW w5.heap.size ((((((w6.setCell ⟨wz.heap.size,0,none⟩ (.int .i64 MT.c.c0)).setCell ⟨wz.heap.size,1,none⟩ (.int .i64 MT.c.c1)).setCell ⟨wz.heap.size,2,none⟩ (.int .i64 MT.c.c2)).setCell ⟨wz.heap.size,3,none⟩ (.int .i64 MT.c.c3)).setCell ⟨wz.heap.size,4,none⟩ (.slice ME1 MT.c.l.length mce)).setCell ⟨wz.heap.size,5,none⟩ (.slice MF1 MT.e.length mcf)) MT ME1 mce MF1 mcf∧Below wz.heap.size wz ((((((w6.setCell ⟨wz.heap.size,0,none⟩ (.int .i64 MT.c.c0)).setCell ⟨wz.heap.size,1,none⟩ (.int .i64 MT.c.c1)).setCell ⟨wz.heap.size,2,none⟩ (.int .i64 MT.c.c2)).setCell ⟨wz.heap.size,3,none⟩ (.int .i64 MT.c.c3)).setCell ⟨wz.heap.size,4,none⟩ (.slice ME1 MT.c.l.length mce)).setCell ⟨wz.heap.size,5,none⟩ (.slice MF1 MT.e.length mcf))):=by
     have hg5:=h5.out.2.2.2.2.2.2.2.2
     have hlt5:=h5.out.1.lt
     have hb6:Below wz.heap.size wz w6:=hg5.below.trans (hF.out.2.mono hg5.size)
     exact ⟨((((((h5.out.1.below hF.out.2).put 0 _).put 1 _).put 2 _).put 3 _).put 4 _).put 5 _,hF.out.1.agr ((((((Agr.set _ fun h=>by omega).trans (Agr.set _ fun h=>by omega)).trans (Agr.set _ fun h=>by omega)).trans (Agr.set _ fun h=>by omega)).trans (Agr.set _ fun h=>by omega)).trans (Agr.set _ fun h=>by omega)),((((((hb6.setCell (Nat.le_refl _) _).setCell (Nat.le_refl _) _).setCell (Nat.le_refl _) _).setCell (Nat.le_refl _) _).setCell (Nat.le_refl _) _).setCell (Nat.le_refl _) _)⟩
    clear hF hM
    go_wp2_with fail
    go_meet
    case rel=>exact ⟨rfl,ME1,mce,MF1,mcf,hfin⟩
  case rest =>
   obtain ⟨rfl,ME1,mce,MF1,mcf,hQ⟩:=hcut
   clear hM b1 a0 a1 a2 a3 a4 a5 c0 c1 c2 c3 c4 c5
   have q0:=hQ.out.1.cell (j:=0) rfl
   have q1:=hQ.out.1.cell (j:=1) rfl
   have q2:=hQ.out.1.cell (j:=2) rfl
   have q3:=hQ.out.1.cell (j:=3) rfl
   have q4:=hQ.out.1.cell (j:=4) rfl
   have q5:=hQ.out.1.cell (j:=5) rfl
   have q6:=hQ.out.1.cell (j:=6) rfl
   have q7:=hQ.out.1.cell (j:=7) rfl
   have q8:=hQ.out.1.cell (j:=8) rfl
   have q9:=hQ.out.1.cell (j:=9) rfl
   have q10:=hQ.out.1.cell (j:=10) rfl
   have q11:=hQ.out.1.cell (j:=11) rfl
   have hbw:Hid (Below w.heap.size w wc∧Nd wc N P id s t qs∧TbP P wc s A ca C cc∧TbP P wc t B cb D cd):=by
    have hbz:=hR.out.2.2.2.1
    have hb:=hbz.trans (hQ.out.2.2.mono hbz.size)
    exact ⟨hb,hH.out.1.below hb,hH.out.2.1.below hb,hH.out.2.2.1.below hb⟩
   cases hn:(ME != 0)
   rotate_left
   focus
    have hfin:Hid (doE s id k x3 x4 x5=ME∧doT s id k x3 x4 x5=s):=by
     have h0:¬ME=0:=by simpa using hn
     have h1:doE s id k x3 x4 x5=ME:=by unfold doE;rw[if_pos hEEH.out,←hR.out.1];exact hMH.out.1
     exact ⟨h1,by unfold doT;rw[h1,if_neg h0]⟩
    go_wp2
    go_ret
    refine ⟨by rw[hfin.out.1];rfl,?_,Wr.of hbw.out.1 hH.out.1.blk.lt⟩
    rw[hfin.out.2]
    exact hbw.out.2.1.mono (fun b hb=>plusP.old b hb) (plus_out hH.out.1.out hH.out.1.blk.lt) (plus_up fun b hb=>hbw.out.2.1.up b hb)
   have h0:ME=0:=by simpa using hn
   have hfin:Hid (doE s id k x3 x4 x5=0∧doT s id k x3 x4 x5=MT∧errT MT=0):=by
    have h1:doE s id k x3 x4 x5=0:=by unfold doE;rw[if_pos hEEH.out,←hR.out.1,hMH.out.1];exact h0
    exact ⟨h1,by unfold doT;rw[h1,if_pos rfl,←hR.out.1];exact hMH.out.2,by rw[←hMH.out.2];exact errT_merge (by rw[hMH.out.1];exact h0)⟩
   subst h0
   clear hn
   have hBc:Hid (Calls Tryz.prog 24 #[.pointer (some ⟨N,0,none⟩),.agg #[.int .i64 MT.c.c0,.int .i64 MT.c.c1,.int .i64 MT.c.c2,.int .i64 MT.c.c3,.slice ME1 MT.c.l.length mce,.slice MF1 MT.e.length mcf,.int .i64 t.c.c0,.int .i64 t.c.c1,.int .i64 t.c.c2,.int .i64 t.c.c3,.slice B t.c.l.length cb,.slice D t.e.length cd]] wc fun e w'=>e= .returned (.tuple #[])∧Nd w' N (plusP P w.heap.size w'.heap.size) id MT t qs∧Wr N 1 37 wc w') :=
    have hMP:TbP (plusP P w.heap.size wc.heap.size) wc MT ME1 mce MF1 mcf:=(hQ.out.2.1.p hfin.out.2.2).mono fun b hb=>plusP.new (Nat.le_trans hR.out.2.2.2.1.size h5.out.2.2.2.2.2.2.2.2.size) (Nat.le_refl _) b hb
    become_any hbw.out.2.1 hH.out.1.blk.lt hbw.out.1.size hMP (hbw.out.2.2.2.mono fun b hb=>plusP.old b hb)
   go_wp2_with fail
   refine Calls.mono (show Calls _ _ _ _ _ from hBc.out) ?_
   rintro e w8 ⟨rfl,f1,f2⟩
   have hfin2:Hid (Nd w8 N (plusP P w.heap.size w8.heap.size) id MT t qs∧Wr N 1 37 w w8):=⟨f1,(Wr.of hbw.out.1 hH.out.1.blk.lt).trans f2⟩
   clear f1 f2 hBc
   go_wp2
   go_ret
   refine ⟨by rw[hfin.out.1];rfl,?_,hfin2.out.2⟩
   rw[hfin.out.2.1]
   exact hfin2.out.1
end Go.Proofs.YtkadjjmkokhldaaGreat

namespace Go.Proofs.YtkadjjmkokhldaaGreat
open Go.RowKit Go.Sort

set_option maxRecDepth 100000 in
set_option maxHeartbeats 4000000 in
theorem do1_any {w:World} {N:Nat} {P:Nat→Prop} {id:Int} {s t:Tab} {qs:List (List Stp)} (h:Nd w N P id s t qs) (k x3 x4 x5:Int) :
  Calls Tryz.prog 5 #[.pointer (some ⟨N,0,none⟩),.agg #[.int .i64 k,.int .i64 1,.int .i64 x3,.int .i64 x4,.int .i64 x5]] w fun e w'=>e= .returned (.int .i64 (doE t id k x3 x4 x5))∧Nd w' N (plusP P w.heap.size w'.heap.size) id s (doT t id k x3 x4 x5) qs∧Wr N 1 37 w w':=by
 have mixed:Tryz.prog.follows .mixedOrders=true:=by kernel_rfl
 obtain ⟨A,ca,C,cc,hcs,hts⟩:=h.ts
 obtain ⟨B,cb,D,cd,hct,htt⟩:=h.tt
 obtain ⟨w1,hw1⟩:∃W,w.alloc (.cells #[.int .i64 k,.int .i64 1,.int .i64 x3,.int .i64 x4,.int .i64 x5] 29)=W:=⟨_,rfl⟩
 have hg1:Gr w w1:=by rw[←hw1];exact (Gr.refl w).alloc _
 have hs1:w1.heap.size=w.heap.size+1:=by rw[←hw1];simp
 have hBx:Hid (Cls w1 w.heap.size [.int .i64 k,.int .i64 1,.int .i64 x3,.int .i64 x4,.int .i64 x5]):=by show Cls _ _ _;rw[←hw1];exact Cls.new w _ _
 have hHl:Hid (N<w1.heap.size):=Nat.lt_of_lt_of_le h.blk.lt hg1.size
 have hlt0:=h.blk.lt
 have hHn:Hid (w1.cell? ⟨N,0,none⟩=some (.int .i64 id)∧TbC w1 N 1 s A ca C cc∧TbC w1 N 7 t B cb D cd):=⟨(hg1.below.cell (p:=⟨N,0,none⟩) hlt0).trans h.cid,hcs.keep fun j _ _=>hg1.below.cell (p:=⟨N,j,none⟩) hlt0,hct.keep fun j _ _=>hg1.below.cell (p:=⟨N,j,none⟩) hlt0⟩
 have hEd:Hid (∀W,Below w1.heap.size w1 W→Calls Tryz.prog 22 #[.agg #[.int .i64 t.c.c0,.int .i64 t.c.c1,.int .i64 t.c.c2,.int .i64 t.c.c3,.slice B t.c.l.length cb,.slice D t.e.length cd],.int .i64 id,.agg #[.int .i64 k,.int .i64 1,.int .i64 x3,.int .i64 x4,.int .i64 x5]] W fun e w'=>∃(u:Tab) (C:Option Addr) (cp:Nat) (F:Option Addr) (cf:Nat),e= .returned (.tuple #[.agg #[.int .i64 u.c.c0,.int .i64 u.c.c1,.int .i64 u.c.c2,.int .i64 u.c.c3,.slice C u.c.l.length cp,.slice F u.e.length cf],.int .i64 (edE t id k x3 x4 x5)])∧u=edT t id k x3 x4 x5∧TbW W.heap.size w' u C cp F cf∧Below W.heap.size W w'):=fun W hW=>editOf_any t B cb D cd id k 1 x3 x4 x5 W htt.len.1 htt.len.2 ((htt.row.gr hg1).below hW) ((htt.cel.gr hg1).below hW)
 have hH:Hid (Nd w N P id s t qs∧TbP P w s A ca C cc∧TbP P w t B cb D cd∧TbC w N 1 s A ca C cc∧TbC w N 7 t B cb D cd∧Gr w w1∧w1.heap.size=w.heap.size+1):=⟨h,hts,htt,hcs,hct,hg1,hs1⟩
 clear h hts htt hcs hct hg1 hs1 hlt0
 have b1:=hBx.out.cell (j:=1) rfl
 obtain ⟨EE,hEE⟩:∃E,edE t id k x3 x4 x5=E:=⟨_,rfl⟩
 rw[hEE] at hEd
 have hEEH:Hid (edE t id k x3 x4 x5=EE):=hEE
 clear hEE
 go_enter Tryz.func5,Tryz.ntmps5
 go_upto_region 3 with fail
 clear hw1 b1
 go_cut [5,6] from 16 (fun v5 v6 wx=>∃Bm:Nat,v5= .pointer (some ⟨Bm,0,none⟩)∧v6= .int .i64 EE∧DoR w1 wx w1.heap.size Bm t id k x3 x4 x5)
 case first =>
  have hD0:Hid (Below w1.heap.size w1 w1.drew):=(Gr.refl w1).drew.below
  have hD1:Hid (Below w1.heap.size w1 (w1.alloc (.cells #[.int .i64 0,.int .i64 0,.int .i64 0,.int .i64 0,.slice none 0 0,.slice none 0 0] 37)).drew):=((Gr.refl w1).alloc _).drew.below
  have hle0:Hid (w1.heap.size≤w1.drew.heap.size):=Nat.le_refl _
  have hle1:Hid (w1.heap.size+1≤(w1.alloc (.cells #[.int .i64 0,.int .i64 0,.int .i64 0,.int .i64 0,.slice none 0 0,.slice none 0 0] 37)).drew.heap.size):=by show _≤(w1.alloc _).heap.size;simp
  have hKeep:Hid (∀W,Below w1.heap.size w1 W→(fun w'=>w'.cell? ⟨w.heap.size,0,none⟩=some (.int .i64 k)∧w'.cell? ⟨w.heap.size,1,none⟩=some (.int .i64 1)∧w'.cell? ⟨w.heap.size,2,none⟩=some (.int .i64 x3)∧w'.cell? ⟨w.heap.size,3,none⟩=some (.int .i64 x4)∧w'.cell? ⟨w.heap.size,4,none⟩=some (.int .i64 x5)∧w'.cell? ⟨N,0,none⟩=some (.int .i64 id)∧w'.cell? ⟨N,7,none⟩=some (.int .i64 t.c.c0)∧w'.cell? ⟨N,8,none⟩=some (.int .i64 t.c.c1)∧w'.cell? ⟨N,9,none⟩=some (.int .i64 t.c.c2)∧w'.cell? ⟨N,10,none⟩=some (.int .i64 t.c.c3)∧w'.cell? ⟨N,11,none⟩=some (.slice B t.c.l.length cb)∧w'.cell? ⟨N,12,none⟩=some (.slice D t.e.length cd)) W):=fun W hW=>⟨(hBx.out.below hW).cell (j:=0) rfl,(hBx.out.below hW).cell (j:=1) rfl,(hBx.out.below hW).cell (j:=2) rfl,(hBx.out.below hW).cell (j:=3) rfl,(hBx.out.below hW).cell (j:=4) rfl,(hW.cell (p:=⟨N,0,none⟩) hHl.out).trans hHn.out.1,(hW.cell (p:=⟨N,7,none⟩) hHl.out).trans hHn.out.2.2.k0,(hW.cell (p:=⟨N,8,none⟩) hHl.out).trans hHn.out.2.2.k1,(hW.cell (p:=⟨N,9,none⟩) hHl.out).trans hHn.out.2.2.k2,(hW.cell (p:=⟨N,10,none⟩) hHl.out).trans hHn.out.2.2.k3,(hW.cell (p:=⟨N,11,none⟩) hHl.out).trans hHn.out.2.2.k4,(hW.cell (p:=⟨N,12,none⟩) hHl.out).trans hHn.out.2.2.k5⟩
  focus
   refine wp_region_noPanic ?_
   refine wp_region_held_drew (S:=(fun w'=>w'.cell? ⟨w.heap.size,0,none⟩=some (.int .i64 k)∧w'.cell? ⟨w.heap.size,1,none⟩=some (.int .i64 1)∧w'.cell? ⟨w.heap.size,2,none⟩=some (.int .i64 x3)∧w'.cell? ⟨w.heap.size,3,none⟩=some (.int .i64 x4)∧w'.cell? ⟨w.heap.size,4,none⟩=some (.int .i64 x5)∧w'.cell? ⟨N,0,none⟩=some (.int .i64 id)∧w'.cell? ⟨N,7,none⟩=some (.int .i64 t.c.c0)∧w'.cell? ⟨N,8,none⟩=some (.int .i64 t.c.c1)∧w'.cell? ⟨N,9,none⟩=some (.int .i64 t.c.c2)∧w'.cell? ⟨N,10,none⟩=some (.int .i64 t.c.c3)∧w'.cell? ⟨N,11,none⟩=some (.slice B t.c.l.length cb)∧w'.cell? ⟨N,12,none⟩=some (.slice D t.e.length cd))) (by kernel_rfl) (hKeep.out _ hD0.out) (fun hHeld=> ?_)
   refine wpAnyH_take (i:=0) (oi:= ?ois11) (v:= ?vs11) ?hops11 ?hss11 ?hfs11 ?hrs11 ?hQs11 ?hys11 (by assumption) ?rests11
   case hops11=>(simp only[List.getElem?_toArray,List.getElem?_cons_zero];rfl)
   case hss11=>kernel_rfl
   case hfs11=>kernel_rfl
   case hrs11=>kernel_rfl
   case hQs11=>exact fun _ _ _ h=>h
   case hys11=>(refine Or.inl ⟨by rfl,?_⟩;intro w hSw;(try dsimp only at hSw);go_simp<;>with_reducible rfl)
   try simp only[Act.put,List.setIfInBounds_toArray,List.set_cons_zero,List.set_cons_succ]
   refine wpAnyH_take (i:=1) (oi:= ?ois12) (v:= ?vs12) ?hops12 ?hss12 ?hfs12 ?hrs12 ?hQs12 ?hys12 (by assumption) ?rests12
   case hops12=>(simp only[List.getElem?_toArray,List.getElem?_cons_zero,List.getElem?_cons_succ];rfl)
   case hss12=>kernel_rfl
   case hfs12=>kernel_rfl
   case hrs12=>kernel_rfl
   case hQs12=>exact fun _ _ _ h=>h
   case hys12=>(refine Or.inl ⟨by rfl,?_⟩;intro w hSw;(try dsimp only at hSw);go_simp<;>with_reducible rfl)
   try simp only[Act.put,List.setIfInBounds_toArray,List.set_cons_zero,List.set_cons_succ]
   refine wpAnyH_take (i:=2) (oi:= ?ois13) (v:= ?vs13) ?hops13 ?hss13 ?hfs13 ?hrs13 ?hQs13 ?hys13 (by assumption) ?rests13
   case hops13=>(simp only[List.getElem?_toArray,List.getElem?_cons_zero,List.getElem?_cons_succ];rfl)
   case hss13=>kernel_rfl
   case hfs13=>kernel_rfl
   case hrs13=>kernel_rfl
   case hQs13=>exact fun _ _ _ h=>h
   case hys13=>(refine Or.inl ⟨by rfl,?_⟩;intro w hSw;(try dsimp only at hSw);go_simp<;>with_reducible rfl)
   try simp only[Act.put,List.setIfInBounds_toArray,List.set_cons_zero,List.set_cons_succ]
   refine wpAnyH_take (i:=3) (oi:= ?ois14) (v:= ?vs14) ?hops14 ?hss14 ?hfs14 ?hrs14 ?hQs14 ?hys14 (by assumption) ?rests14
   case hops14=>(simp only[List.getElem?_toArray,List.getElem?_cons_zero,List.getElem?_cons_succ];rfl)
   case hss14=>kernel_rfl
   case hfs14=>kernel_rfl
   case hrs14=>kernel_rfl
   case hQs14=>exact fun _ _ _ h=>h
   case hys14=>(refine Or.inl ⟨by rfl,?_⟩;intro w hSw;(try dsimp only at hSw);go_simp<;>with_reducible rfl)
   try simp only[Act.put,List.setIfInBounds_toArray,List.set_cons_zero,List.set_cons_succ]
   refine wpAnyH_take (i:=4) (oi:= ?ois15) (v:= ?vs15) ?hops15 ?hss15 ?hfs15 ?hrs15 ?hQs15 ?hys15 (by assumption) ?rests15
   case hops15=>(simp only[List.getElem?_toArray,List.getElem?_cons_zero,List.getElem?_cons_succ];rfl)
   case hss15=>kernel_rfl
   case hfs15=>kernel_rfl
   case hrs15=>kernel_rfl
   case hQs15=>exact fun _ _ _ h=>h
   case hys15=>(refine Or.inl ⟨by rfl,?_⟩;intro w hSw;(try dsimp only at hSw);go_simp<;>with_reducible rfl)
   try simp only[Act.put,List.setIfInBounds_toArray,List.set_cons_zero,List.set_cons_succ]
   refine wpAnyH_take (i:=5) (oi:= ?ois16) (v:= ?vs16) ?hops16 ?hss16 ?hfs16 ?hrs16 ?hQs16 ?hys16 (by assumption) ?rests16
   case hops16=>(simp only[List.getElem?_toArray,List.getElem?_cons_zero,List.getElem?_cons_succ];rfl)
   case hss16=>kernel_rfl
   case hfs16=>kernel_rfl
   case hrs16=>kernel_rfl
   case hQs16=>exact fun _ _ _ h=>h
   case hys16=>(refine Or.inl ⟨by rfl,?_⟩;intro w hSw;(try dsimp only at hSw);go_simp<;>with_reducible rfl)
   try simp only[Act.put,List.setIfInBounds_toArray,List.set_cons_zero,List.set_cons_succ]
   refine wpAnyH_take (i:=6) (oi:= ?ois17) (v:= ?vs17) ?hops17 ?hss17 ?hfs17 ?hrs17 ?hQs17 ?hys17 (by assumption) ?rests17
   case hops17=>(simp only[List.getElem?_toArray,List.getElem?_cons_zero,List.getElem?_cons_succ];rfl)
   case hss17=>kernel_rfl
   case hfs17=>kernel_rfl
   case hrs17=>kernel_rfl
   case hQs17=>exact fun _ _ _ h=>h
   case hys17=>(refine Or.inl ⟨by rfl,?_⟩;intro w hSw;(try dsimp only at hSw);go_simp<;>with_reducible rfl)
   try simp only[Act.put,List.setIfInBounds_toArray,List.set_cons_zero,List.set_cons_succ]
   refine wpAnyH_take (i:=7) (oi:= ?ois18) (v:= ?vs18) ?hops18 ?hss18 ?hfs18 ?hrs18 ?hQs18 ?hys18 (by assumption) ?rests18
   case hops18=>(simp only[List.getElem?_toArray,List.getElem?_cons_zero,List.getElem?_cons_succ];rfl)
   case hss18=>kernel_rfl
   case hfs18=>kernel_rfl
   case hrs18=>kernel_rfl
   case hQs18=>exact fun _ _ _ h=>h
   case hys18=>(refine Or.inl ⟨by rfl,?_⟩;intro w hSw;(try dsimp only at hSw);go_simp<;>with_reducible rfl)
   try simp only[Act.put,List.setIfInBounds_toArray,List.set_cons_zero,List.set_cons_succ]
   refine wpAnyH_take (i:=8) (oi:= ?ois19) (v:= ?vs19) ?hops19 ?hss19 ?hfs19 ?hrs19 ?hQs19 ?hys19 (by assumption) ?rests19
   case hops19=>(simp only[List.getElem?_toArray,List.getElem?_cons_zero,List.getElem?_cons_succ];rfl)
   case hss19=>kernel_rfl
   case hfs19=>kernel_rfl
   case hrs19=>kernel_rfl
   case hQs19=>exact fun _ _ _ h=>h
   case hys19=>(refine Or.inl ⟨by rfl,?_⟩;intro w hSw;(try dsimp only at hSw);go_simp<;>with_reducible rfl)
   try simp only[Act.put,List.setIfInBounds_toArray,List.set_cons_zero,List.set_cons_succ]
   refine wpAnyH_take (i:=9) (oi:= ?ois110) (v:= ?vs110) ?hops110 ?hss110 ?hfs110 ?hrs110 ?hQs110 ?hys110 (by assumption) ?rests110
   case hops110=>(simp only[List.getElem?_toArray,List.getElem?_cons_zero,List.getElem?_cons_succ];rfl)
   case hss110=>kernel_rfl
   case hfs110=>kernel_rfl
   case hrs110=>kernel_rfl
   case hQs110=>exact fun _ _ _ h=>h
   case hys110=>(refine Or.inl ⟨by rfl,?_⟩;intro w hSw;(try dsimp only at hSw);go_simp<;>with_reducible rfl)
   try simp only[Act.put,List.setIfInBounds_toArray,List.set_cons_zero,List.set_cons_succ]
   refine wpAnyH_take (i:=10) (oi:= ?ois111) (v:= ?vs111) ?hops111 ?hss111 ?hfs111 ?hrs111 ?hQs111 ?hys111 (by assumption) ?rests111
   case hops111=>(simp only[List.getElem?_toArray,List.getElem?_cons_zero,List.getElem?_cons_succ];rfl)
   case hss111=>kernel_rfl
   case hfs111=>kernel_rfl
   case hrs111=>kernel_rfl
   case hQs111=>exact fun _ _ _ h=>h
   case hys111=>(refine Or.inl ⟨by rfl,?_⟩;intro w hSw;(try dsimp only at hSw);go_simp<;>with_reducible rfl)
   try simp only[Act.put,List.setIfInBounds_toArray,List.set_cons_zero,List.set_cons_succ]
   refine wpAnyH_take (i:=11) (oi:= ?ois112) (v:= ?vs112) ?hops112 ?hss112 ?hfs112 ?hrs112 ?hQs112 ?hys112 (by assumption) ?rests112
   case hops112=>(simp only[List.getElem?_toArray,List.getElem?_cons_zero,List.getElem?_cons_succ];rfl)
   case hss112=>kernel_rfl
   case hfs112=>kernel_rfl
   case hrs112=>kernel_rfl
   case hQs112=>exact fun _ _ _ h=>h
   case hys112=>(refine Or.inl ⟨by rfl,?_⟩;intro w hSw;(try dsimp only at hSw);go_simp<;>with_reducible rfl)
   try simp only[Act.put,List.setIfInBounds_toArray,List.set_cons_zero,List.set_cons_succ]
   refine wpAnyH_ready (rs:=[12,16]) (by kernel_rfl) (by simp) ?_
   refine AllReadyH.cons (o:= ?ois113) ?hops113 (fun K hK=> ?steps113) ?mores113
   case hops113=>(simp only[List.getElem?_toArray,List.getElem?_cons_zero,List.getElem?_cons_succ];rfl)
   case mores113 =>
    refine AllReadyH.cons (o:= ?ois114) ?hops114 (fun K hK=> ?steps114) ?mores114
    case hops114=>(simp only[List.getElem?_toArray,List.getElem?_cons_zero,List.getElem?_cons_succ];rfl)
    case mores114=>exact AllReadyH.nil
    go_simp
    refine hK.out _ _ ?_ (fun hHeld=> ?_)
    ·(try dsimp only);exact hKeep.out _ (by first|with_reducible exact hD0.out|with_reducible exact hD1.out|with_reducible exact hF.out.2|with_reducible exact hF.out.2.alloc hF.out.2.size _|exact below_set6 hF.out.2 (Nat.le_refl _) _ _ _ _ _ _)
    clear hK K
    try simp only[Act.put,List.setIfInBounds_toArray,List.set_cons_zero,List.set_cons_succ]
    refine wpAnyH_ready (rs:=[12]) (by kernel_rfl) (by simp) ?_
    refine AllReadyH.cons (o:= ?ois115) ?hops115 (fun K hK=> ?steps115) ?mores115
    case hops115=>(simp only[List.getElem?_toArray,List.getElem?_cons_zero,List.getElem?_cons_succ];rfl)
    case mores115=>exact AllReadyH.nil
    go_simp
    (go_at_call 22;(with_reducible refine Calls.mono (hEd.out _ (by first|with_reducible exact hD0.out|with_reducible exact hD1.out)) ?_);rintro e w2 ⟨u,E,ce,F,cf,rfl,f1,f2,f3⟩;have hF:Hid (u=edT t id k x3 x4 x5∧Below w1.heap.size w1 w2):=⟨f1,(by first|exact hD0.out.trans (f3.mono hD0.out.size)|exact hD1.out.trans (f3.mono hD1.out.size))⟩;have hT2:Hid _:=f2;(first|(have hB2:Hid (Cls w2 w1.heap.size [.int .i64 0,.int .i64 0,.int .i64 0,.int .i64 0,.slice none 0 0,.slice none 0 0]):=((Cls.new w1 #[.int .i64 0,.int .i64 0,.int .i64 0,.int .i64 0,.slice none 0 0,.slice none 0 0] 37).gr (Gr.refl _).drew).below f3)|skip);clear f1 f2 f3;(first|(have p0:=hB2.out.cell (j:=0) rfl;have z0:=hB2.out.fz 0;have p1:=hB2.out.cell (j:=1) rfl;have z1:=hB2.out.fz 1;have p2:=hB2.out.cell (j:=2) rfl;have z2:=hB2.out.fz 2;have p3:=hB2.out.cell (j:=3) rfl;have z3:=hB2.out.fz 3;have p4:=hB2.out.cell (j:=4) rfl;have z4:=hB2.out.fz 4;have p5:=hB2.out.cell (j:=5) rfl;have z5:=hB2.out.fz 5)|skip))
    first|(go_wp2_with fail)|skip
    refine hK.out _ _ ?_ (fun hHeld=> ?_)
    ·(try dsimp only);exact hKeep.out _ (by first|with_reducible exact hD0.out|with_reducible exact hD1.out|with_reducible exact hF.out.2|with_reducible exact hF.out.2.alloc hF.out.2.size _|exact below_set6 hF.out.2 (Nat.le_refl _) _ _ _ _ _ _)
    clear hK K
    try simp only[Act.put,List.setIfInBounds_toArray,List.set_cons_zero,List.set_cons_succ]
    refine wpAnyH_take (i:=13) (oi:= ?ois116) (v:= ?vs116) ?hops116 ?hss116 ?hfs116 ?hrs116 ?hQs116 ?hys116 (by assumption) ?rests116
    case hops116=>(simp only[List.getElem?_toArray,List.getElem?_cons_zero,List.getElem?_cons_succ];rfl)
    case hss116=>kernel_rfl
    case hfs116=>kernel_rfl
    case hrs116=>kernel_rfl
    case hQs116=>exact fun _ _ _ h=>h
    case hys116=>(refine Or.inl ⟨by rfl,?_⟩;intro w hSw;(try dsimp only at hSw);go_simp<;>with_reducible rfl)
    try simp only[Act.put,List.setIfInBounds_toArray,List.set_cons_zero,List.set_cons_succ]
    refine wpAnyH_take (i:=14) (oi:= ?ois117) (v:= ?vs117) ?hops117 ?hss117 ?hfs117 ?hrs117 ?hQs117 ?hys117 (by assumption) ?rests117
    case hops117=>(simp only[List.getElem?_toArray,List.getElem?_cons_zero,List.getElem?_cons_succ];rfl)
    case hss117=>kernel_rfl
    case hfs117=>kernel_rfl
    case hrs117=>kernel_rfl
    case hQs117=>exact fun _ _ _ h=>h
    case hys117=>(refine Or.inl ⟨by rfl,?_⟩;intro w hSw;(try dsimp only at hSw);go_simp<;>with_reducible rfl)
    try simp only[Act.put,List.setIfInBounds_toArray,List.set_cons_zero,List.set_cons_succ]
    refine wpAnyH_take (i:=15) (oi:= ?ois118) (v:= ?vs118) ?hops118 ?hss118 ?hfs118 ?hrs118 ?hQs118 ?hys118 (by assumption) ?rests118
    case hops118=>(simp only[List.getElem?_toArray,List.getElem?_cons_zero,List.getElem?_cons_succ];rfl)
    case hss118=>kernel_rfl
    case hfs118=>kernel_rfl
    case hrs118=>kernel_rfl
    case hQs118=>exact fun _ _ _ h=>h
    case hys118=>(refine Or.inl ⟨by rfl,?_⟩;intro w hSw;(try dsimp only at hSw);go_simp<;>with_reducible rfl)
    try simp only[Act.put,List.setIfInBounds_toArray,List.set_cons_zero,List.set_cons_succ]
    refine wpAnyH_ready (rs:=[17]) (by kernel_rfl) (by simp) ?_
    refine AllReadyH.cons (o:= ?ois119) ?hops119 (fun K hK=> ?steps119) ?mores119
    case hops119=>(simp only[List.getElem?_toArray,List.getElem?_cons_zero,List.getElem?_cons_succ];rfl)
    case mores119=>exact AllReadyH.nil
    go_simp
    refine hK.out _ _ ?_ (fun hHeld=> ?_)
    ·(try dsimp only);exact hKeep.out _ (by first|with_reducible exact hD0.out|with_reducible exact hD1.out|with_reducible exact hF.out.2|with_reducible exact hF.out.2.alloc hF.out.2.size _|exact below_set6 hF.out.2 (Nat.le_refl _) _ _ _ _ _ _)
    clear hK K
    try simp only[Act.put,List.setIfInBounds_toArray,List.set_cons_zero,List.set_cons_succ]
    refine wpAnyH_take (i:=18) (oi:= ?ois120) (v:= ?vs120) ?hops120 ?hss120 ?hfs120 ?hrs120 ?hQs120 ?hys120 (by assumption) ?rests120
    case hops120=>(simp only[List.getElem?_toArray,List.getElem?_cons_zero,List.getElem?_cons_succ];rfl)
    case hss120=>kernel_rfl
    case hfs120=>kernel_rfl
    case hrs120=>kernel_rfl
    case hQs120=>exact fun _ _ _ h=>h
    case hys120=>(refine Or.inl ⟨by rfl,?_⟩;intro w hSw;(try dsimp only at hSw);go_simp<;>with_reducible rfl)
    try simp only[Act.put,List.setIfInBounds_toArray,List.set_cons_zero,List.set_cons_succ]
    refine wpAnyH_done (by kernel_rfl) ?_ _
    refine NoPanic.normal ?_
    go_wp2_with fail
    go_meet
    case rel=>exact ⟨_,rfl,rfl,(by first|with_reducible exact do_late hF.out.1 (hT2.out.mono hle0.out) hF.out.2|with_reducible exact do_early hF.out.1 hB2.out (hT2.out.mono hle1.out) hF.out.2)⟩
   go_simp
   (go_at_call 22;(with_reducible refine Calls.mono (hEd.out _ (by first|with_reducible exact hD0.out|with_reducible exact hD1.out)) ?_);rintro e w2 ⟨u,E,ce,F,cf,rfl,f1,f2,f3⟩;have hF:Hid (u=edT t id k x3 x4 x5∧Below w1.heap.size w1 w2):=⟨f1,(by first|exact hD0.out.trans (f3.mono hD0.out.size)|exact hD1.out.trans (f3.mono hD1.out.size))⟩;have hT2:Hid _:=f2;(first|(have hB2:Hid (Cls w2 w1.heap.size [.int .i64 0,.int .i64 0,.int .i64 0,.int .i64 0,.slice none 0 0,.slice none 0 0]):=((Cls.new w1 #[.int .i64 0,.int .i64 0,.int .i64 0,.int .i64 0,.slice none 0 0,.slice none 0 0] 37).gr (Gr.refl _).drew).below f3)|skip);clear f1 f2 f3;(first|(have p0:=hB2.out.cell (j:=0) rfl;have z0:=hB2.out.fz 0;have p1:=hB2.out.cell (j:=1) rfl;have z1:=hB2.out.fz 1;have p2:=hB2.out.cell (j:=2) rfl;have z2:=hB2.out.fz 2;have p3:=hB2.out.cell (j:=3) rfl;have z3:=hB2.out.fz 3;have p4:=hB2.out.cell (j:=4) rfl;have z4:=hB2.out.fz 4;have p5:=hB2.out.cell (j:=5) rfl;have z5:=hB2.out.fz 5)|skip))
   first|(go_wp2_with fail)|skip
   refine hK.out _ _ ?_ (fun hHeld=> ?_)
   ·(try dsimp only);exact hKeep.out _ (by first|with_reducible exact hD0.out|with_reducible exact hD1.out|with_reducible exact hF.out.2|with_reducible exact hF.out.2.alloc hF.out.2.size _|exact below_set6 hF.out.2 (Nat.le_refl _) _ _ _ _ _ _)
   clear hK K
   try simp only[Act.put,List.setIfInBounds_toArray,List.set_cons_zero,List.set_cons_succ]
   refine wpAnyH_take (i:=13) (oi:= ?ois121) (v:= ?vs121) ?hops121 ?hss121 ?hfs121 ?hrs121 ?hQs121 ?hys121 (by assumption) ?rests121
   case hops121=>(simp only[List.getElem?_toArray,List.getElem?_cons_zero,List.getElem?_cons_succ];rfl)
   case hss121=>kernel_rfl
   case hfs121=>kernel_rfl
   case hrs121=>kernel_rfl
   case hQs121=>exact fun _ _ _ h=>h
   case hys121=>(refine Or.inl ⟨by rfl,?_⟩;intro w hSw;(try dsimp only at hSw);go_simp<;>with_reducible rfl)
   try simp only[Act.put,List.setIfInBounds_toArray,List.set_cons_zero,List.set_cons_succ]
   refine wpAnyH_take (i:=14) (oi:= ?ois122) (v:= ?vs122) ?hops122 ?hss122 ?hfs122 ?hrs122 ?hQs122 ?hys122 (by assumption) ?rests122
   case hops122=>(simp only[List.getElem?_toArray,List.getElem?_cons_zero,List.getElem?_cons_succ];rfl)
   case hss122=>kernel_rfl
   case hfs122=>kernel_rfl
   case hrs122=>kernel_rfl
   case hQs122=>exact fun _ _ _ h=>h
   case hys122=>(refine Or.inl ⟨by rfl,?_⟩;intro w hSw;(try dsimp only at hSw);go_simp<;>with_reducible rfl)
   try simp only[Act.put,List.setIfInBounds_toArray,List.set_cons_zero,List.set_cons_succ]
   refine wpAnyH_take (i:=15) (oi:= ?ois123) (v:= ?vs123) ?hops123 ?hss123 ?hfs123 ?hrs123 ?hQs123 ?hys123 (by assumption) ?rests123
   case hops123=>(simp only[List.getElem?_toArray,List.getElem?_cons_zero,List.getElem?_cons_succ];rfl)
   case hss123=>kernel_rfl
   case hfs123=>kernel_rfl
   case hrs123=>kernel_rfl
   case hQs123=>exact fun _ _ _ h=>h
   case hys123=>(refine Or.inl ⟨by rfl,?_⟩;intro w hSw;(try dsimp only at hSw);go_simp<;>with_reducible rfl)
   try simp only[Act.put,List.setIfInBounds_toArray,List.set_cons_zero,List.set_cons_succ]
   refine wpAnyH_ready (rs:=[16]) (by kernel_rfl) (by simp) ?_
   refine AllReadyH.cons (o:= ?ois124) ?hops124 (fun K hK=> ?steps124) ?mores124
   case hops124=>(simp only[List.getElem?_toArray,List.getElem?_cons_zero,List.getElem?_cons_succ];rfl)
   case mores124=>exact AllReadyH.nil
   go_simp
   refine hK.out _ _ ?_ (fun hHeld=> ?_)
   ·(try dsimp only);exact hKeep.out _ (by first|with_reducible exact hD0.out|with_reducible exact hD1.out|with_reducible exact hF.out.2|with_reducible exact hF.out.2.alloc hF.out.2.size _|exact below_set6 hF.out.2 (Nat.le_refl _) _ _ _ _ _ _)
   clear hK K
   try simp only[Act.put,List.setIfInBounds_toArray,List.set_cons_zero,List.set_cons_succ]
   refine wpAnyH_ready (rs:=[17]) (by kernel_rfl) (by simp) ?_
   refine AllReadyH.cons (o:= ?ois125) ?hops125 (fun K hK=> ?steps125) ?mores125
   case hops125=>(simp only[List.getElem?_toArray,List.getElem?_cons_zero,List.getElem?_cons_succ];rfl)
   case mores125=>exact AllReadyH.nil
   go_simp
   refine hK.out _ _ ?_ (fun hHeld=> ?_)
   ·(try dsimp only);exact hKeep.out _ (by first|with_reducible exact hD0.out|with_reducible exact hD1.out|with_reducible exact hF.out.2|with_reducible exact hF.out.2.alloc hF.out.2.size _|exact below_set6 hF.out.2 (Nat.le_refl _) _ _ _ _ _ _)
   clear hK K
   try simp only[Act.put,List.setIfInBounds_toArray,List.set_cons_zero,List.set_cons_succ]
   refine wpAnyH_take (i:=18) (oi:= ?ois126) (v:= ?vs126) ?hops126 ?hss126 ?hfs126 ?hrs126 ?hQs126 ?hys126 (by assumption) ?rests126
   case hops126=>(simp only[List.getElem?_toArray,List.getElem?_cons_zero,List.getElem?_cons_succ];rfl)
   case hss126=>kernel_rfl
   case hfs126=>kernel_rfl
   case hrs126=>kernel_rfl
   case hQs126=>exact fun _ _ _ h=>h
   case hys126=>(refine Or.inl ⟨by rfl,?_⟩;intro w hSw;(try dsimp only at hSw);go_simp<;>with_reducible rfl)
   try simp only[Act.put,List.setIfInBounds_toArray,List.set_cons_zero,List.set_cons_succ]
   refine wpAnyH_done (by kernel_rfl) ?_ _
   refine NoPanic.normal ?_
   go_wp2_with fail
   go_meet
   case rel=>exact ⟨_,rfl,rfl,(by first|with_reducible exact do_late hF.out.1 (hT2.out.mono hle0.out) hF.out.2|with_reducible exact do_early hF.out.1 hB2.out (hT2.out.mono hle1.out) hF.out.2)⟩
 case rest =>
  rename World=>wz
  obtain ⟨Bm,rfl,rfl,hDR⟩:=hcut
  obtain ⟨u,UA,uca,UC,ucc,hu,hCu,hTu,hbc,hge⟩:=hDR
  have hg1:=hH.out.2.2.2.2.2.1
  have hbw:Below w.heap.size w wz:=hg1.below.trans (hbc.mono hg1.size)
  have hR:Hid (u=edT t id k x3 x4 x5∧Cls wz Bm [.int .i64 u.c.c0,.int .i64 u.c.c1,.int .i64 u.c.c2,.int .i64 u.c.c3,.slice UA u.c.l.length uca,.slice UC u.e.length ucc]∧TbW w1.heap.size wz u UA uca UC ucc∧Below w.heap.size w wz∧w1.heap.size≤Bm∧Cls wz w.heap.size [.int .i64 k,.int .i64 1,.int .i64 x3,.int .i64 x4,.int .i64 x5]∧Nd wz N P id s t qs):=⟨hu,hCu,hTu,hbw,hge,hBx.out.below hbc,hH.out.1.below hbw⟩
  clear hu hCu hTu hbc hge hg1 hbw hEd hHn hBx
  cases hn:(EE != 0)
  rotate_left
  focus
   have hfin:Hid (doE t id k x3 x4 x5=EE∧doT t id k x3 x4 x5=t):=by
    have h0:¬EE=0:=by simpa using hn
    have h1:doE t id k x3 x4 x5=EE:=by unfold doE;rw[hEEH.out,if_neg h0]
    exact ⟨h1,by unfold doT;rw[h1,if_neg h0]⟩
   go_wp2
   go_ret
   refine ⟨by rw[hfin.out.1];rfl,?_,Wr.of hR.out.2.2.2.1 hH.out.1.blk.lt⟩
   rw[hfin.out.2]
   exact hR.out.2.2.2.2.2.2.mono (fun b hb=>plusP.old b hb) (plus_out hH.out.1.out hH.out.1.blk.lt) (plus_up fun b hb=>hR.out.2.2.2.2.2.2.up b hb)
  have h0:EE=0:=by simpa using hn
  subst h0
  clear hn
  have hlt0:=hH.out.1.blk.lt
  have n1:=(hR.out.2.2.2.1.cell (p:=⟨N,1,none⟩) hlt0).trans hH.out.2.2.2.1.k0
  have n2:=(hR.out.2.2.2.1.cell (p:=⟨N,2,none⟩) hlt0).trans hH.out.2.2.2.1.k1
  have n3:=(hR.out.2.2.2.1.cell (p:=⟨N,3,none⟩) hlt0).trans hH.out.2.2.2.1.k2
  have n4:=(hR.out.2.2.2.1.cell (p:=⟨N,4,none⟩) hlt0).trans hH.out.2.2.2.1.k3
  have n5:=(hR.out.2.2.2.1.cell (p:=⟨N,5,none⟩) hlt0).trans hH.out.2.2.2.1.k4
  have n6:=(hR.out.2.2.2.1.cell (p:=⟨N,6,none⟩) hlt0).trans hH.out.2.2.2.1.k5
  have n7:=(hR.out.2.2.2.1.cell (p:=⟨N,7,none⟩) hlt0).trans hH.out.2.2.2.2.1.k0
  have n8:=(hR.out.2.2.2.1.cell (p:=⟨N,8,none⟩) hlt0).trans hH.out.2.2.2.2.1.k1
  have n9:=(hR.out.2.2.2.1.cell (p:=⟨N,9,none⟩) hlt0).trans hH.out.2.2.2.2.1.k2
  have n10:=(hR.out.2.2.2.1.cell (p:=⟨N,10,none⟩) hlt0).trans hH.out.2.2.2.2.1.k3
  have n11:=(hR.out.2.2.2.1.cell (p:=⟨N,11,none⟩) hlt0).trans hH.out.2.2.2.2.1.k4
  have n12:=(hR.out.2.2.2.1.cell (p:=⟨N,12,none⟩) hlt0).trans hH.out.2.2.2.2.1.k5
  go_upto_region 7 with fail
  obtain ⟨w5,hw5⟩:∃W,wz.alloc (.cells #[.int .i64 s.c.c0,.int .i64 s.c.c1,.int .i64 s.c.c2,.int .i64 s.c.c3,.slice A s.c.l.length ca,.slice C s.e.length cc,.int .i64 t.c.c0,.int .i64 t.c.c1,.int .i64 t.c.c2,.int .i64 t.c.c3,.slice B t.c.l.length cb,.slice D t.e.length cd] 38)=W:=⟨_,rfl⟩
  rw[hw5]
  have hg5:Gr wz w5:=by rw[←hw5];exact (Gr.refl _).alloc _
  have h5:Hid (Cls w5 wz.heap.size [.int .i64 s.c.c0,.int .i64 s.c.c1,.int .i64 s.c.c2,.int .i64 s.c.c3,.slice A s.c.l.length ca,.slice C s.e.length cc,.int .i64 t.c.c0,.int .i64 t.c.c1,.int .i64 t.c.c2,.int .i64 t.c.c3,.slice B t.c.l.length cb,.slice D t.e.length cd]∧Cls w5 Bm [.int .i64 u.c.c0,.int .i64 u.c.c1,.int .i64 u.c.c2,.int .i64 u.c.c3,.slice UA u.c.l.length uca,.slice UC u.e.length ucc]∧TbW w1.heap.size w5 u UA uca UC ucc∧Below w.heap.size w w5∧Cls w5 w.heap.size [.int .i64 k,.int .i64 1,.int .i64 x3,.int .i64 x4,.int .i64 x5]∧Nd w5 N P id s t qs∧TbP P w5 s A ca C cc∧TbP P w5 t B cb D cd∧Gr wz w5):=by
   have hb5:=hR.out.2.2.2.1.trans (hg5.below.mono hR.out.2.2.2.1.size)
   exact ⟨by rw[←hw5];exact Cls.new wz _ _,hR.out.2.1.gr hg5,hR.out.2.2.1.below hg5.below,hb5,hR.out.2.2.2.2.2.1.gr hg5,hR.out.2.2.2.2.2.2.below hg5.below,hH.out.2.1.below hb5,hH.out.2.2.1.below hb5,hg5⟩
  clear hw5 hg5 n1 n2 n3 n4 n5 n6 n7 n8 n9 n10 n11 n12 hlt0
  have b1:=h5.out.2.2.2.2.1.cell (j:=1) rfl
  have a6:=h5.out.1.cell (j:=6) rfl
  have a7:=h5.out.1.cell (j:=7) rfl
  have a8:=h5.out.1.cell (j:=8) rfl
  have a9:=h5.out.1.cell (j:=9) rfl
  have a10:=h5.out.1.cell (j:=10) rfl
  have a11:=h5.out.1.cell (j:=11) rfl
  have c0:=h5.out.2.1.cell (j:=0) rfl
  have c1:=h5.out.2.1.cell (j:=1) rfl
  have c2:=h5.out.2.1.cell (j:=2) rfl
  have c3:=h5.out.2.1.cell (j:=3) rfl
  have c4:=h5.out.2.1.cell (j:=4) rfl
  have c5:=h5.out.2.1.cell (j:=5) rfl
  obtain ⟨ME,hME⟩:∃E,mergeE t u=E:=⟨_,rfl⟩
  obtain ⟨MT,hMT⟩:∃E,mergeT t u=E:=⟨_,rfl⟩
  have hMH:Hid (mergeE t u=ME∧mergeT t u=MT):=⟨hME,hMT⟩
  have hM:Hid (∀W,Gr w5 W→Calls Tryz.prog 23 #[.agg #[.int .i64 t.c.c0,.int .i64 t.c.c1,.int .i64 t.c.c2,.int .i64 t.c.c3,.slice B t.c.l.length cb,.slice D t.e.length cd],.agg #[.int .i64 u.c.c0,.int .i64 u.c.c1,.int .i64 u.c.c2,.int .i64 u.c.c3,.slice UA u.c.l.length uca,.slice UC u.e.length ucc]] W fun e w'=>∃E ce F cf,e= .returned (.tuple #[.agg #[.int .i64 MT.c.c0,.int .i64 MT.c.c1,.int .i64 MT.c.c2,.int .i64 MT.c.c3,.slice E MT.c.l.length ce,.slice F MT.e.length cf],.int .i64 ME])∧TbW W.heap.size w' MT E ce F cf∧Below W.heap.size W w'):=fun W hg=>by
   have hl:u.c.l.length≤maxLen∧u.e.length≤maxLen:=by rw[hR.out.1];exact edT_len _ _ _ _ _ _
   have hr5:TbP P w5 t B cb D cd:=h5.out.2.2.2.2.2.2.2.1
   have hm:=merge_new t u B UA D UC cb uca cd ucc W hr5.len.1 hl.1 hr5.len.2 hl.2 hr5.nr h5.out.2.2.1.nr (hr5.row.gr hg) (h5.out.2.2.1.row.gr hg) (hr5.cel.gr hg) (h5.out.2.2.1.cel.gr hg)
   rw[hME,hMT] at hm
   refine hm.mono ?_
   rintro e w' ⟨E,ce,F,cf,rfl,f1,f2,f3,f4,f5,f6,f7⟩
   exact ⟨E,ce,F,cf,rfl,⟨f1,f2,f3,f4,f5,f6⟩,f7⟩
  clear hME hMT
  go_cut [6] from 16 (fun v6 wx=>v6= .int .i64 ME∧∃(ME1:Option Addr) (mce:Nat) (MF1:Option Addr) (mcf:Nat),Hid (Cls wx wz.heap.size [.int .i64 s.c.c0,.int .i64 s.c.c1,.int .i64 s.c.c2,.int .i64 s.c.c3,.slice A s.c.l.length ca,.slice C s.e.length cc,.int .i64 MT.c.c0,.int .i64 MT.c.c1,.int .i64 MT.c.c2,.int .i64 MT.c.c3,.slice ME1 MT.c.l.length mce,.slice MF1 MT.e.length mcf]∧TbW w5.heap.size wx MT ME1 mce MF1 mcf∧Below wz.heap.size wz wx))
  case first =>
   go_region_with (go_at_call 23;refine Calls.mono (hM.out _ (Gr.refl w5).drew) ?_;rintro e w6 ⟨ME1,mce,MF1,mcf,rfl,f1,f2⟩;have hF:Hid (TbW w5.heap.size w6 MT ME1 mce MF1 mcf∧Below w5.heap.size w5 w6):=⟨f1,(Gr.refl w5).drew.below.trans f2⟩;clear f1 f2;have e1:=(h5.out.2.2.2.2.1.below hF.out.2).cell (j:=1) rfl;have p6:=(h5.out.1.below hF.out.2).cell (j:=6) rfl;have z6:=(h5.out.1.below hF.out.2).fz 6;have p7:=(h5.out.1.below hF.out.2).cell (j:=7) rfl;have z7:=(h5.out.1.below hF.out.2).fz 7;have p8:=(h5.out.1.below hF.out.2).cell (j:=8) rfl;have z8:=(h5.out.1.below hF.out.2).fz 8;have p9:=(h5.out.1.below hF.out.2).cell (j:=9) rfl;have z9:=(h5.out.1.below hF.out.2).fz 9;have p10:=(h5.out.1.below hF.out.2).cell (j:=10) rfl;have z10:=(h5.out.1.below hF.out.2).fz 10;have p11:=(h5.out.1.below hF.out.2).cell (j:=11) rfl;have z11:=(h5.out.1.below hF.out.2).fz 11)
   all_goals
    have hfin:Hid (Cls ((((((w6.setCell ⟨wz.heap.size,6,none⟩ (.int .i64 MT.c.c0)).setCell ⟨wz.heap.size,7,none⟩ (.int .i64 MT.c.c1)).setCell ⟨wz.heap.size,8,none⟩ (.int .i64 MT.c.c2)).setCell ⟨wz.heap.size,9,none⟩ (.int .i64 MT.c.c3)).setCell ⟨wz.heap.size,10,none⟩ (.slice ME1 MT.c.l.length mce)).setCell ⟨wz.heap.size,11,none⟩ (.slice MF1 MT.e.length mcf)) wz.heap.size [.int .i64 s.c.c0,.int .i64 s.c.c1,.int .i64 s.c.c2,.int .i64 s.c.c3,.slice A s.c.l.length ca,.slice C s.e.length cc,.int .i64 MT.c.c0,.int .i64 MT.c.c1,.int .i64 MT.c.c2,.int .i64 MT.c.c3,.slice ME1 MT.c.l.length mce,.slice MF1 MT.e.length mcf]∧TbW w5.heap.size ((((((w6.setCell ⟨wz.heap.size,6,none⟩ (.int .i64 MT.c.c0)).setCell ⟨wz.heap.size,7,none⟩ (.int .i64 MT.c.c1)).setCell ⟨wz.heap.size,8,none⟩ (.int .i64 MT.c.c2)).setCell ⟨wz.heap.size,9,none⟩ (.int .i64 MT.c.c3)).setCell ⟨wz.heap.size,10,none⟩ (.slice ME1 MT.c.l.length mce)).setCell ⟨wz.heap.size,11,none⟩ (.slice MF1 MT.e.length mcf)) MT ME1 mce MF1 mcf∧Below wz.heap.size wz ((((((w6.setCell ⟨wz.heap.size,6,none⟩ (.int .i64 MT.c.c0)).setCell ⟨wz.heap.size,7,none⟩ (.int .i64 MT.c.c1)).setCell ⟨wz.heap.size,8,none⟩ (.int .i64 MT.c.c2)).setCell ⟨wz.heap.size,9,none⟩ (.int .i64 MT.c.c3)).setCell ⟨wz.heap.size,10,none⟩ (.slice ME1 MT.c.l.length mce)).setCell ⟨wz.heap.size,11,none⟩ (.slice MF1 MT.e.length mcf))):=by
     have hg5:=h5.out.2.2.2.2.2.2.2.2
     have hlt5:=h5.out.1.lt
     have hb6:Below wz.heap.size wz w6:=hg5.below.trans (hF.out.2.mono hg5.size)
     exact ⟨((((((h5.out.1.below hF.out.2).put 6 _).put 7 _).put 8 _).put 9 _).put 10 _).put 11 _,hF.out.1.agr ((((((Agr.set _ fun h=>by omega).trans (Agr.set _ fun h=>by omega)).trans (Agr.set _ fun h=>by omega)).trans (Agr.set _ fun h=>by omega)).trans (Agr.set _ fun h=>by omega)).trans (Agr.set _ fun h=>by omega)),((((((hb6.setCell (Nat.le_refl _) _).setCell (Nat.le_refl _) _).setCell (Nat.le_refl _) _).setCell (Nat.le_refl _) _).setCell (Nat.le_refl _) _).setCell (Nat.le_refl _) _)⟩
    clear hF hM
    go_wp2_with fail
    go_meet
    case rel=>exact ⟨rfl,ME1,mce,MF1,mcf,hfin⟩
  case rest =>
   obtain ⟨rfl,ME1,mce,MF1,mcf,hQ⟩:=hcut
   clear hM b1 a6 a7 a8 a9 a10 a11 c0 c1 c2 c3 c4 c5
   have q0:=hQ.out.1.cell (j:=0) rfl
   have q1:=hQ.out.1.cell (j:=1) rfl
   have q2:=hQ.out.1.cell (j:=2) rfl
   have q3:=hQ.out.1.cell (j:=3) rfl
   have q4:=hQ.out.1.cell (j:=4) rfl
   have q5:=hQ.out.1.cell (j:=5) rfl
   have q6:=hQ.out.1.cell (j:=6) rfl
   have q7:=hQ.out.1.cell (j:=7) rfl
   have q8:=hQ.out.1.cell (j:=8) rfl
   have q9:=hQ.out.1.cell (j:=9) rfl
   have q10:=hQ.out.1.cell (j:=10) rfl
   have q11:=hQ.out.1.cell (j:=11) rfl
   have hbw:Hid (Below w.heap.size w wc∧Nd wc N P id s t qs∧TbP P wc s A ca C cc∧TbP P wc t B cb D cd):=by
    have hbz:=hR.out.2.2.2.1
    have hb:=hbz.trans (hQ.out.2.2.mono hbz.size)
    exact ⟨hb,hH.out.1.below hb,hH.out.2.1.below hb,hH.out.2.2.1.below hb⟩
   cases hn:(ME != 0)
   rotate_left
   focus
    have hfin:Hid (doE t id k x3 x4 x5=ME∧doT t id k x3 x4 x5=t):=by
     have h0:¬ME=0:=by simpa using hn
     have h1:doE t id k x3 x4 x5=ME:=by unfold doE;rw[if_pos hEEH.out,←hR.out.1];exact hMH.out.1
     exact ⟨h1,by unfold doT;rw[h1,if_neg h0]⟩
    go_wp2
    go_ret
    refine ⟨by rw[hfin.out.1];rfl,?_,Wr.of hbw.out.1 hH.out.1.blk.lt⟩
    rw[hfin.out.2]
    exact hbw.out.2.1.mono (fun b hb=>plusP.old b hb) (plus_out hH.out.1.out hH.out.1.blk.lt) (plus_up fun b hb=>hbw.out.2.1.up b hb)
   have h0:ME=0:=by simpa using hn
   have hfin:Hid (doE t id k x3 x4 x5=0∧doT t id k x3 x4 x5=MT∧errT MT=0):=by
    have h1:doE t id k x3 x4 x5=0:=by unfold doE;rw[if_pos hEEH.out,←hR.out.1,hMH.out.1];exact h0
    exact ⟨h1,by unfold doT;rw[h1,if_pos rfl,←hR.out.1];exact hMH.out.2,by rw[←hMH.out.2];exact errT_merge (by rw[hMH.out.1];exact h0)⟩
   subst h0
   clear hn
   have hBc:Hid (Calls Tryz.prog 24 #[.pointer (some ⟨N,0,none⟩),.agg #[.int .i64 s.c.c0,.int .i64 s.c.c1,.int .i64 s.c.c2,.int .i64 s.c.c3,.slice A s.c.l.length ca,.slice C s.e.length cc,.int .i64 MT.c.c0,.int .i64 MT.c.c1,.int .i64 MT.c.c2,.int .i64 MT.c.c3,.slice ME1 MT.c.l.length mce,.slice MF1 MT.e.length mcf]] wc fun e w'=>e= .returned (.tuple #[])∧Nd w' N (plusP P w.heap.size w'.heap.size) id s MT qs∧Wr N 1 37 wc w') :=
    have hMP:TbP (plusP P w.heap.size wc.heap.size) wc MT ME1 mce MF1 mcf:=(hQ.out.2.1.p hfin.out.2.2).mono fun b hb=>plusP.new (Nat.le_trans hR.out.2.2.2.1.size h5.out.2.2.2.2.2.2.2.2.size) (Nat.le_refl _) b hb
    become_any hbw.out.2.1 hH.out.1.blk.lt hbw.out.1.size (hbw.out.2.2.1.mono fun b hb=>plusP.old b hb) hMP
   go_wp2_with fail
   refine Calls.mono (show Calls _ _ _ _ _ from hBc.out) ?_
   rintro e w8 ⟨rfl,f1,f2⟩
   have hfin2:Hid (Nd w8 N (plusP P w.heap.size w8.heap.size) id s MT qs∧Wr N 1 37 w w8):=⟨f1,(Wr.of hbw.out.1 hH.out.1.blk.lt).trans f2⟩
   clear f1 f2 hBc
   go_wp2
   go_ret
   refine ⟨by rw[hfin.out.1];rfl,?_,hfin2.out.2⟩
   rw[hfin.out.2.1]
   exact hfin2.out.1
end Go.Proofs.YtkadjjmkokhldaaGreat
