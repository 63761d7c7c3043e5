/-
  Several cells of a block written one behind the other; a node's tables laid anew.
  (*Node).become: a node's tables from now on; its views take what that brings.
  node.editOf: what is to be merged with a node's table to do an edit.
-/
import Derived.Test.YtkadjjmkokhldaaGreatM39
import Derived.Deep.Cut
import Derived.Deep.RegionHeld3
import Derived.Test.YtkadjjmkokhldaaGreatM35
import Derived.Test.YtkadjjmkokhldaaGreatM34
namespace Go.Proofs.YtkadjjmkokhldaaGreat
open Go.RowKit Go.Sort

def setAll (N:Nat):World→Nat→List Value→World
 | w,_,[]=>w
 | w,o,v::l=>setAll N (w.setCell ⟨N,o,none⟩ v) (o+1) l
theorem setAll_wr (N:Nat):∀(l:List Value) (w:World) (o lo hi:Nat),lo≤o→o+l.length≤hi→Wr N lo hi w (setAll N w o l)
 | [],w,o,lo,hi,_,_=>Wr.refl _ _ _ _
 | v::l,w,o,lo,hi,h1,h2=>by
  simp only[List.length_cons] at h2
  exact (Wr.set w v h1 (by omega)).trans (setAll_wr N l _ (o+1) lo hi (by omega) (by omega))
theorem setAll_size (N:Nat):∀(l:List Value) (w:World) (o:Nat),(setAll N w o l).heap.size=w.heap.size
 | [],w,o=>rfl
 | v::l,w,o=>by
  rw[setAll,setAll_size N l]
  simp
theorem setAll_cell {N n:Nat} {T:TypeId}:∀(l:List Value) (w:World) (o:Nat),Blk w N T n→o+l.length≤n→∀j v,l[j]? = some v→(setAll N w o l).cell? ⟨N,o+j,none⟩=some v
 | [],w,o,_,_,j,v,h=>by simp at h
 | u::l,w,o,hb,hn,0,v,h=>by
  simp only[List.length_cons] at hn
  have hb':Blk (w.setCell ⟨N,o,none⟩ u) N T n:=(Wr.set (lo:=o) (hi:=o+1) w u (Nat.le_refl _) (by omega)).block hb
  have e:u=v:=by simpa using h
  subst e
  obtain ⟨x,hx⟩:=hb.some (j:=o) (by omega)
  rw[setAll,Nat.add_zero,(setAll_wr N l (w.setCell ⟨N,o,none⟩ u) (o+1) (o+1) (o+1+l.length) (Nat.le_refl _) (Nat.le_refl _)).cell hb' (Or.inl (by omega))]
  exact World.cell?_setCell_same _ _ _ hx
 | u::l,w,o,hb,hn,j+1,v,h=>by
  simp only[List.length_cons] at hn
  have hb':Blk (w.setCell ⟨N,o,none⟩ u) N T n:=(Wr.set (lo:=o) (hi:=o+1) w u (Nat.le_refl _) (by omega)).block hb
  rw[setAll,show o+(j+1)=o+1+j by omega]
  exact setAll_cell l (w.setCell ⟨N,o,none⟩ u) (o+1) hb' (by omega) j v (by simpa using h)
/-- A node whose tables are laid anew; its views are of the elder ones. -/
theorem Nd.laid {w w':World} {N:Nat} {P P':Nat→Prop} {id:Int} {s t s' t':Tab} {qs:List (List Stp)} (h:Nd w N P id s t qs) (hPP:∀b,P b→P' b) (hN:¬P' N) (hup:∀b,P' b→b<w.heap.size) {A B C D:Option Addr} {ca cb cc cd:Nat} (hs:TbP P' w s' A ca C cc) (ht:TbP P' w t' B cb D cd) (hw:setAll N w 1 [.int .i64 s'.c.c0,.int .i64 s'.c.c1,.int .i64 s'.c.c2,.int .i64 s'.c.c3,.slice A s'.c.l.length ca,.slice C s'.e.length cc,.int .i64 t'.c.c0,.int .i64 t'.c.c1,.int .i64 t'.c.c2,.int .i64 t'.c.c3,.slice B t'.c.l.length cb,.slice D t'.e.length cd]=w') :
  Nm w' N P' id s' t' qs 0 (ofR s) (ofR t)∧Wr N 1 13 w w':=by
 have hW:Wr N 1 13 w w':=by rw[←hw];exact setAll_wr N _ w 1 1 13 (Nat.le_refl _) (Nat.le_refl _)
 have hsz:w'.heap.size=w.heap.size:=by rw[←hw];exact setAll_size _ _ _ _
 have hA:Agr P' w w':=hW.agr hN
 have hc:∀j v,[.int .i64 s'.c.c0,.int .i64 s'.c.c1,.int .i64 s'.c.c2,.int .i64 s'.c.c3,.slice A s'.c.l.length ca,.slice C s'.e.length cc,.int .i64 t'.c.c0,.int .i64 t'.c.c1,.int .i64 t'.c.c2,.int .i64 t'.c.c3,.slice B t'.c.l.length cb,.slice D t'.e.length cd][j]? = some v→w'.cell? ⟨N,1+j,none⟩=some v:=fun j v hv=>by rw[←hw];exact setAll_cell _ w 1 h.blk (by show 1+12≤38;omega) j v hv
 have hb:=hW.block h.blk
 have ho:∀j,(j<1∨13≤j)→w'.cell? ⟨N,j,none⟩=w.cell? ⟨N,j,none⟩:=fun j hj=>hW.cell h.blk hj
 refine ⟨⟨hb,hN,fun b hb=>by rw[hsz];exact hup b hb,(ho 0 (by omega)).trans h.cid,⟨A,ca,C,cc,⟨hc 0 _ rfl,hc 1 _ rfl,hc 2 _ rfl,hc 3 _ rfl,hc 4 _ rfl,hc 5 _ rfl⟩,hs.agr hA⟩,⟨B,cb,D,cd,⟨hc 6 _ rfl,hc 7 _ rfl,hc 8 _ rfl,hc 9 _ rfl,hc 10 _ rfl,hc 11 _ rfl⟩,ht.agr hA⟩,(ho 37 (by omega)).trans h.cnt,h.le,fun j hj=> ?_⟩,hW⟩
 rw[if_neg (Nat.not_lt_zero _),if_neg (Nat.not_lt_zero _)]
 exact ((h.view hj).mono hPP).keep hA hb.lt hb.fz fun i h1 _=>ho i (by omega)
/-- One more view is turned. -/
theorem Nm.turned {w w':World} {N:Nat} {P P':Nat→Prop} {id:Int} {s t:Tab} {qs:List (List Stp)} {i:Nat} {z y:List Zit} (h:Nm w N P id s t qs i z y) (hi:i<qs.length) (hPP:∀b,P b→P' b) (hN:¬P' N) (hup:∀b,P' b→b<w'.heap.size) (hv:VwN w' N (13+i*6) P' qs[i] (ofR s) (ofR t)) (hW:Wr N (13+i*6) (13+i*6+6) w w'):Nm w' N P' id s t qs (i+1) z y:=by
 have hb:=hW.block h.blk
 have hl:=h.le
 have hA:Agr P w w':=hW.agr fun k=>hN (hPP _ k)
 have ho:∀j,(j<13+i*6∨13+i*6+6≤j)→w'.cell? ⟨N,j,none⟩=w.cell? ⟨N,j,none⟩:=fun j hj=>hW.cell h.blk hj
 refine ⟨hb,hN,hup,(ho 0 (by omega)).trans h.cid,(h.ts.keep hA fun j _ _=>ho j (by omega)).mono hPP,(h.tt.keep hA fun j _ _=>ho j (by omega)).mono hPP,(ho 37 (by omega)).trans h.cnt,h.le,fun j hj=> ?_⟩
 by_cases e:j=i
 ·subst e
  rw[if_pos (by omega),if_pos (by omega)]
  exact hv
 ·have:=((h.vs j hj).keep hA hb.lt hb.fz fun k h1 h2=>ho k (by omega)).mono hPP
  by_cases hlt:j<i
  ·rw[if_pos hlt,if_pos hlt] at this
   rw[if_pos (by omega),if_pos (by omega)]
   exact this
  ·rw[if_neg hlt,if_neg hlt] at this
   rw[if_neg (by omega),if_neg (by omega)]
   exact this
theorem Nm.done {w:World} {N:Nat} {P:Nat→Prop} {id:Int} {s t:Tab} {qs:List (List Stp)} {i:Nat} {z y:List Zit} (h:Nm w N P id s t qs i z y) (hi:qs.length≤i):Nd w N P id s t qs:=by
 have hl:=h.le
 refine ⟨h.blk,h.out,h.up,h.cid,h.ts,h.tt,h.cnt,h.le,fun j hj=> ?_⟩
 have:=h.vs j hj
 rw[if_pos (by omega),if_pos (by omega)] at this
 rw[if_pos (by omega),if_pos (by omega)]
 exact this
end Go.Proofs.YtkadjjmkokhldaaGreat

namespace Go.Proofs.YtkadjjmkokhldaaGreat
open Go.RowKit Go.Sort

/-- What the region leaves: where the variable was made ahead of the last call. -/
theorem bec_early {w1 w4:World} {B n k2 m2:Nat} {D E:List Itm} {X2 Y2:Option Addr} {a b:List Zit} (hB:Cls w4 B [.slice none 0 0,.slice none 0 0]) (g3:LvP (fun b=>n≤b∧b<w4.heap.size) w4 X2 k2 D) (g4:LvP (fun b=>n≤b∧b<w4.heap.size) w4 Y2 m2 E) (hn:B<n) (hB1:w1.heap.size≤B) (hb:Below w1.heap.size w1 w4) (e1:D.map Itm.z=a) (e2:E.map Itm.z=b) :
  ∃(L M:List Itm) (X Y:Option Addr) (k m:Nat),Cls ((w4.setCell ⟨B,0,none⟩ (.slice X2 D.length k2)).setCell ⟨B,1,none⟩ (.slice Y2 E.length m2)) B [.slice X L.length k,.slice Y M.length m]∧L.map Itm.z=a∧M.map Itm.z=b∧LvP (fun b=>w1.heap.size≤b∧b<((w4.setCell ⟨B,0,none⟩ (.slice X2 D.length k2)).setCell ⟨B,1,none⟩ (.slice Y2 E.length m2)).heap.size) ((w4.setCell ⟨B,0,none⟩ (.slice X2 D.length k2)).setCell ⟨B,1,none⟩ (.slice Y2 E.length m2)) X k L∧LvP (fun b=>w1.heap.size≤b∧b<((w4.setCell ⟨B,0,none⟩ (.slice X2 D.length k2)).setCell ⟨B,1,none⟩ (.slice Y2 E.length m2)).heap.size) ((w4.setCell ⟨B,0,none⟩ (.slice X2 D.length k2)).setCell ⟨B,1,none⟩ (.slice Y2 E.length m2)) Y m M∧w1.heap.size≤B∧Below w1.heap.size w1 ((w4.setCell ⟨B,0,none⟩ (.slice X2 D.length k2)).setCell ⟨B,1,none⟩ (.slice Y2 E.length m2)):=by
 have hs:((w4.setCell ⟨B,0,none⟩ (.slice X2 D.length k2)).setCell ⟨B,1,none⟩ (.slice Y2 E.length m2)).heap.size=w4.heap.size:=by simp
 refine ⟨D,E,X2,Y2,k2,m2,(hB.put 0 _).put 1 _,e1,e2,?_,?_,hB1,(hb.setCell hB1 _).setCell hB1 _⟩
 ·rw[hs];exact ((g3.agr (Agr.set _ fun h=>by omega)).agr (Agr.set _ fun h=>by omega)).mono fun b hb=>⟨by omega,hb.2⟩
 ·rw[hs];exact ((g4.agr (Agr.set _ fun h=>by omega)).agr (Agr.set _ fun h=>by omega)).mono fun b hb=>⟨by omega,hb.2⟩
/-- .. where it was made behind it. -/
theorem bec_late {w1 w4:World} {n k2 m2:Nat} {D E:List Itm} {X2 Y2:Option Addr} {a b:List Zit} {T:TypeId} (g3:LvP (fun b=>n≤b∧b<w4.heap.size) w4 X2 k2 D) (g4:LvP (fun b=>n≤b∧b<w4.heap.size) w4 Y2 m2 E) (h1:w1.heap.size≤n) (hb:Below w1.heap.size w1 w4) (e1:D.map Itm.z=a) (e2:E.map Itm.z=b) :
  ∃(L M:List Itm) (X Y:Option Addr) (k m:Nat),Cls (w4.alloc (.cells #[.slice X2 D.length k2,.slice Y2 E.length m2] T)) w4.heap.size [.slice X L.length k,.slice Y M.length m]∧L.map Itm.z=a∧M.map Itm.z=b∧LvP (fun b=>w1.heap.size≤b∧b<(w4.alloc (.cells #[.slice X2 D.length k2,.slice Y2 E.length m2] T)).heap.size) (w4.alloc (.cells #[.slice X2 D.length k2,.slice Y2 E.length m2] T)) X k L∧LvP (fun b=>w1.heap.size≤b∧b<(w4.alloc (.cells #[.slice X2 D.length k2,.slice Y2 E.length m2] T)).heap.size) (w4.alloc (.cells #[.slice X2 D.length k2,.slice Y2 E.length m2] T)) Y m M∧w1.heap.size≤w4.heap.size∧Below w1.heap.size w1 (w4.alloc (.cells #[.slice X2 D.length k2,.slice Y2 E.length m2] T)):=by
 have hg:=((Gr.refl w4).alloc (.cells #[.slice X2 D.length k2,.slice Y2 E.length m2] T)).below
 have hs:(w4.alloc (.cells #[.slice X2 D.length k2,.slice Y2 E.length m2] T)).heap.size=w4.heap.size+1:=by simp
 exact ⟨D,E,X2,Y2,k2,m2,Cls.new w4 _ T,e1,e2,(g3.below hg).mono fun b hb=>⟨by omega,by omega⟩,(g4.below hg).mono fun b hb=>⟨by omega,by omega⟩,hb.size,hb.alloc hb.size _⟩

set_option maxRecDepth 100000 in
set_option maxHeartbeats 4000000 in
theorem become_any {w:World} {N m0:Nat} {P:Nat→Prop} {id:Int} {s t s' t':Tab} {qs:List (List Stp)} (h:Nd w N P id s t qs) (hm0:N<m0) (hm1:m0≤w.heap.size) {A' B' C' D':Option Addr} {ca' cb' cc' cd':Nat} (hs':TbP (plusP P m0 w.heap.size) w s' A' ca' C' cc') (ht':TbP (plusP P m0 w.heap.size) w t' B' cb' D' cd') :
  Calls Tryz.prog 24 #[.pointer (some ⟨N,0,none⟩),.agg #[.int .i64 s'.c.c0,.int .i64 s'.c.c1,.int .i64 s'.c.c2,.int .i64 s'.c.c3,.slice A' s'.c.l.length ca',.slice C' s'.e.length cc',.int .i64 t'.c.c0,.int .i64 t'.c.c1,.int .i64 t'.c.c2,.int .i64 t'.c.c3,.slice B' t'.c.l.length cb',.slice D' t'.e.length cd']] w fun e w'=>e= .returned (.tuple #[])∧Nd w' N (plusP P m0 w'.heap.size) id s' t' qs∧Wr N 1 37 w w':=by
 have mixed:Tryz.prog.follows .mixedOrders=true:=by kernel_rfl
 obtain ⟨A,ca,C,cc,hcs,hts⟩:=h.ts
 obtain ⟨B,cb,D,cd,hct,htt⟩:=h.tt
 obtain ⟨w1,hw1⟩:∃W,w.alloc (.cells #[.int .i64 s'.c.c0,.int .i64 s'.c.c1,.int .i64 s'.c.c2,.int .i64 s'.c.c3,.slice A' s'.c.l.length ca',.slice C' s'.e.length cc',.int .i64 t'.c.c0,.int .i64 t'.c.c1,.int .i64 t'.c.c2,.int .i64 t'.c.c3,.slice B' t'.c.l.length cb',.slice D' t'.e.length cd'] 38)=W:=⟨_,rfl⟩
 have hg1:Gr w w1:=by rw[←hw1];exact (Gr.refl w).alloc _
 have hBx:Hid (Cls w1 w.heap.size [.int .i64 s'.c.c0,.int .i64 s'.c.c1,.int .i64 s'.c.c2,.int .i64 s'.c.c3,.slice A' s'.c.l.length ca',.slice C' s'.e.length cc',.int .i64 t'.c.c0,.int .i64 t'.c.c1,.int .i64 t'.c.c2,.int .i64 t'.c.c3,.slice B' t'.c.l.length cb',.slice D' t'.e.length cd']):=by show Cls _ _ _;rw[←hw1];exact Cls.new w _ _
 have hHl:Hid (N<w1.heap.size):=Nat.lt_of_lt_of_le h.blk.lt hg1.size
 have hlt0:=h.blk.lt
 have hHc:Hid (TbC w1 N 1 s A ca C cc∧TbC w1 N 7 t B cb D cd):=⟨hcs.keep fun j _ _=>hg1.below.cell (p:=⟨N,j,none⟩) hlt0,hct.keep fun j _ _=>hg1.below.cell (p:=⟨N,j,none⟩) hlt0⟩
 have hNew:Hid (∀W,Below w1.heap.size w1 W→Calls Tryz.prog 28 #[.agg #[.int .i64 s'.c.c0,.int .i64 s'.c.c1,.int .i64 s'.c.c2,.int .i64 s'.c.c3,.slice A' s'.c.l.length ca',.slice C' s'.e.length cc',.int .i64 t'.c.c0,.int .i64 t'.c.c1,.int .i64 t'.c.c2,.int .i64 t'.c.c3,.slice B' t'.c.l.length cb',.slice D' t'.e.length cd']] W fun e w'=>∃(L M:List Itm) (X Y:Option Addr) (k m:Nat),e= .returned (.agg #[.slice X L.length k,.slice Y M.length m])∧L.map Itm.z=ofR s'∧M.map Itm.z=ofR t'∧LvP (fun b=>W.heap.size≤b∧b<w'.heap.size) w' X k L∧LvP (fun b=>W.heap.size≤b∧b<w'.heap.size) w' Y m M∧Below W.heap.size W w'):=fun W hW=>setsOf_any s' t' A' B' C' D' ca' cb' cc' cd' W ((hs'.below hg1.below).below hW) ((ht'.below hg1.below).below hW)
 have hOld:Hid (∀W,Below w1.heap.size w1 W→Calls Tryz.prog 28 #[.agg #[.int .i64 s.c.c0,.int .i64 s.c.c1,.int .i64 s.c.c2,.int .i64 s.c.c3,.slice A s.c.l.length ca,.slice C s.e.length cc,.int .i64 t.c.c0,.int .i64 t.c.c1,.int .i64 t.c.c2,.int .i64 t.c.c3,.slice B t.c.l.length cb,.slice D t.e.length cd]] W fun e w'=>∃(L M:List Itm) (X Y:Option Addr) (k m:Nat),e= .returned (.agg #[.slice X L.length k,.slice Y M.length m])∧L.map Itm.z=ofR s∧M.map Itm.z=ofR t∧LvP (fun b=>W.heap.size≤b∧b<w'.heap.size) w' X k L∧LvP (fun b=>W.heap.size≤b∧b<w'.heap.size) w' Y m M∧Below W.heap.size W w'):=fun W hW=>setsOf_any s t A B C D ca cb cc cd W ((hts.below hg1.below).below hW) ((htt.below hg1.below).below hW)
 have hH:Hid (Nd w N P id s t qs∧TbP (plusP P m0 w.heap.size) w s' A' ca' C' cc'∧TbP (plusP P m0 w.heap.size) w t' B' cb' D' cd'∧N<m0∧m0≤w.heap.size∧Gr w w1∧w1.heap.size=w.heap.size+1):=⟨h,hs',ht',hm0,hm1,hg1,by rw[←hw1];simp⟩
 have hTS:Hid (TS (ofR s)∧TS (ofR t)∧TS (ofR s')∧TS (ofR t')):=⟨TS.of hts.ok,TS.of htt.ok,TS.of hs'.ok,TS.of ht'.ok⟩
 clear h hm0 hm1 hs' ht' hts htt hcs hct hg1 hlt0
 go_enter Tryz.func24,Tryz.ntmps24
 go_upto_region 1 with fail
 clear hw1
 go_cut [4] from 6 (fun v4 wx=>∃Bm:Nat,v4= .pointer (some ⟨Bm,0,none⟩)∧Hid (∃(L M:List Itm) (X Y:Option Addr) (k m:Nat),Cls wx Bm [.slice X L.length k,.slice Y M.length m]∧L.map Itm.z=difL (ofR s') (ofR s)∧M.map Itm.z=difL (ofR t') (ofR t)∧LvP (fun b=>w1.heap.size≤b∧b<wx.heap.size) wx X k L∧LvP (fun b=>w1.heap.size≤b∧b<wx.heap.size) wx Y m M∧w1.heap.size≤Bm∧Below w1.heap.size w1 wx))
 case first =>
  have hN1:N<w1.heap.size:=hHl.out
  have hD0:Hid (Below w1.heap.size w1 w1.drew):=(Gr.refl w1).drew.below
  have hD1:Hid (Below w1.heap.size w1 (w1.alloc (.cells #[.slice none 0 0,.slice none 0 0] 72)).drew):=((Gr.refl w1).alloc _).drew.below
  have hKeep:Hid (∀W,Below w1.heap.size w1 W→(fun w'=>w'.cell? ⟨w.heap.size,0,none⟩=some (.int .i64 s'.c.c0)∧w'.cell? ⟨w.heap.size,1,none⟩=some (.int .i64 s'.c.c1)∧w'.cell? ⟨w.heap.size,2,none⟩=some (.int .i64 s'.c.c2)∧w'.cell? ⟨w.heap.size,3,none⟩=some (.int .i64 s'.c.c3)∧w'.cell? ⟨w.heap.size,4,none⟩=some (.slice A' s'.c.l.length ca')∧w'.cell? ⟨w.heap.size,5,none⟩=some (.slice C' s'.e.length cc')∧w'.cell? ⟨w.heap.size,6,none⟩=some (.int .i64 t'.c.c0)∧w'.cell? ⟨w.heap.size,7,none⟩=some (.int .i64 t'.c.c1)∧w'.cell? ⟨w.heap.size,8,none⟩=some (.int .i64 t'.c.c2)∧w'.cell? ⟨w.heap.size,9,none⟩=some (.int .i64 t'.c.c3)∧w'.cell? ⟨w.heap.size,10,none⟩=some (.slice B' t'.c.l.length cb')∧w'.cell? ⟨w.heap.size,11,none⟩=some (.slice D' t'.e.length cd')∧w'.cell? ⟨N,1,none⟩=some (.int .i64 s.c.c0)∧w'.cell? ⟨N,2,none⟩=some (.int .i64 s.c.c1)∧w'.cell? ⟨N,3,none⟩=some (.int .i64 s.c.c2)∧w'.cell? ⟨N,4,none⟩=some (.int .i64 s.c.c3)∧w'.cell? ⟨N,5,none⟩=some (.slice A s.c.l.length ca)∧w'.cell? ⟨N,6,none⟩=some (.slice C s.e.length cc)∧w'.cell? ⟨N,7,none⟩=some (.int .i64 t.c.c0)∧w'.cell? ⟨N,8,none⟩=some (.int .i64 t.c.c1)∧w'.cell? ⟨N,9,none⟩=some (.int .i64 t.c.c2)∧w'.cell? ⟨N,10,none⟩=some (.int .i64 t.c.c3)∧w'.cell? ⟨N,11,none⟩=some (.slice B t.c.l.length cb)∧w'.cell? ⟨N,12,none⟩=some (.slice D t.e.length cd)) W):=fun W hW=>⟨(hBx.out.below hW).cell (j:=0) rfl,(hBx.out.below hW).cell (j:=1) rfl,(hBx.out.below hW).cell (j:=2) rfl,(hBx.out.below hW).cell (j:=3) rfl,(hBx.out.below hW).cell (j:=4) rfl,(hBx.out.below hW).cell (j:=5) rfl,(hBx.out.below hW).cell (j:=6) rfl,(hBx.out.below hW).cell (j:=7) rfl,(hBx.out.below hW).cell (j:=8) rfl,(hBx.out.below hW).cell (j:=9) rfl,(hBx.out.below hW).cell (j:=10) rfl,(hBx.out.below hW).cell (j:=11) rfl,(hW.cell (p:=⟨N,1,none⟩) hHl.out).trans hHc.out.1.k0,(hW.cell (p:=⟨N,2,none⟩) hHl.out).trans hHc.out.1.k1,(hW.cell (p:=⟨N,3,none⟩) hHl.out).trans hHc.out.1.k2,(hW.cell (p:=⟨N,4,none⟩) hHl.out).trans hHc.out.1.k3,(hW.cell (p:=⟨N,5,none⟩) hHl.out).trans hHc.out.1.k4,(hW.cell (p:=⟨N,6,none⟩) hHl.out).trans hHc.out.1.k5,(hW.cell (p:=⟨N,7,none⟩) hHl.out).trans hHc.out.2.k0,(hW.cell (p:=⟨N,8,none⟩) hHl.out).trans hHc.out.2.k1,(hW.cell (p:=⟨N,9,none⟩) hHl.out).trans hHc.out.2.k2,(hW.cell (p:=⟨N,10,none⟩) hHl.out).trans hHc.out.2.k3,(hW.cell (p:=⟨N,11,none⟩) hHl.out).trans hHc.out.2.k4,(hW.cell (p:=⟨N,12,none⟩) hHl.out).trans hHc.out.2.k5⟩
  refine wp_region_noPanic ?_
  refine wp_region_held_drew (S:=(fun w'=>w'.cell? ⟨w.heap.size,0,none⟩=some (.int .i64 s'.c.c0)∧w'.cell? ⟨w.heap.size,1,none⟩=some (.int .i64 s'.c.c1)∧w'.cell? ⟨w.heap.size,2,none⟩=some (.int .i64 s'.c.c2)∧w'.cell? ⟨w.heap.size,3,none⟩=some (.int .i64 s'.c.c3)∧w'.cell? ⟨w.heap.size,4,none⟩=some (.slice A' s'.c.l.length ca')∧w'.cell? ⟨w.heap.size,5,none⟩=some (.slice C' s'.e.length cc')∧w'.cell? ⟨w.heap.size,6,none⟩=some (.int .i64 t'.c.c0)∧w'.cell? ⟨w.heap.size,7,none⟩=some (.int .i64 t'.c.c1)∧w'.cell? ⟨w.heap.size,8,none⟩=some (.int .i64 t'.c.c2)∧w'.cell? ⟨w.heap.size,9,none⟩=some (.int .i64 t'.c.c3)∧w'.cell? ⟨w.heap.size,10,none⟩=some (.slice B' t'.c.l.length cb')∧w'.cell? ⟨w.heap.size,11,none⟩=some (.slice D' t'.e.length cd')∧w'.cell? ⟨N,1,none⟩=some (.int .i64 s.c.c0)∧w'.cell? ⟨N,2,none⟩=some (.int .i64 s.c.c1)∧w'.cell? ⟨N,3,none⟩=some (.int .i64 s.c.c2)∧w'.cell? ⟨N,4,none⟩=some (.int .i64 s.c.c3)∧w'.cell? ⟨N,5,none⟩=some (.slice A s.c.l.length ca)∧w'.cell? ⟨N,6,none⟩=some (.slice C s.e.length cc)∧w'.cell? ⟨N,7,none⟩=some (.int .i64 t.c.c0)∧w'.cell? ⟨N,8,none⟩=some (.int .i64 t.c.c1)∧w'.cell? ⟨N,9,none⟩=some (.int .i64 t.c.c2)∧w'.cell? ⟨N,10,none⟩=some (.int .i64 t.c.c3)∧w'.cell? ⟨N,11,none⟩=some (.slice B t.c.l.length cb)∧w'.cell? ⟨N,12,none⟩=some (.slice D t.e.length cd))) (by kernel_rfl) (hKeep.out _ hD0.out) (fun hHeld=> ?_)
  refine wpAnyH_take (i:=0) (oi:= ?ois1) (v:= ?vs1) ?hops1 ?hss1 ?hfs1 ?hrs1 ?hQs1 ?hys1 (by assumption) ?rests1
  case hops1=>(simp only[List.getElem?_toArray,List.getElem?_cons_zero];rfl)
  case hss1=>kernel_rfl
  case hfs1=>kernel_rfl
  case hrs1=>kernel_rfl
  case hQs1=>exact fun _ _ _ h=>h
  case hys1=>(refine Or.inl ⟨by rfl,?_⟩;intro w hSw;(try dsimp only at hSw);go_simp<;>with_reducible rfl)
  try simp only[Act.put,List.setIfInBounds_toArray,List.set_cons_zero,List.set_cons_succ]
  refine wpAnyH_take (i:=2) (oi:= ?ois2) (v:= ?vs2) ?hops2 ?hss2 ?hfs2 ?hrs2 ?hQs2 ?hys2 (by assumption) ?rests2
  case hops2=>(simp only[List.getElem?_toArray,List.getElem?_cons_zero,List.getElem?_cons_succ];rfl)
  case hss2=>kernel_rfl
  case hfs2=>kernel_rfl
  case hrs2=>kernel_rfl
  case hQs2=>exact fun _ _ _ h=>h
  case hys2=>(refine Or.inl ⟨by rfl,?_⟩;intro w hSw;(try dsimp only at hSw);go_simp<;>with_reducible rfl)
  try simp only[Act.put,List.setIfInBounds_toArray,List.set_cons_zero,List.set_cons_succ]
  refine wpAnyH_take (i:=3) (oi:= ?ois3) (v:= ?vs3) ?hops3 ?hss3 ?hfs3 ?hrs3 ?hQs3 ?hys3 (by assumption) ?rests3
  case hops3=>(simp only[List.getElem?_toArray,List.getElem?_cons_zero,List.getElem?_cons_succ];rfl)
  case hss3=>kernel_rfl
  case hfs3=>kernel_rfl
  case hrs3=>kernel_rfl
  case hQs3=>exact fun _ _ _ h=>h
  case hys3=>(refine Or.inl ⟨by rfl,?_⟩;intro w hSw;(try dsimp only at hSw);go_simp<;>with_reducible rfl)
  try simp only[Act.put,List.setIfInBounds_toArray,List.set_cons_zero,List.set_cons_succ]
  refine wpAnyH_take (i:=4) (oi:= ?ois4) (v:= ?vs4) ?hops4 ?hss4 ?hfs4 ?hrs4 ?hQs4 ?hys4 (by assumption) ?rests4
  case hops4=>(simp only[List.getElem?_toArray,List.getElem?_cons_zero,List.getElem?_cons_succ];rfl)
  case hss4=>kernel_rfl
  case hfs4=>kernel_rfl
  case hrs4=>kernel_rfl
  case hQs4=>exact fun _ _ _ h=>h
  case hys4=>(refine Or.inl ⟨by rfl,?_⟩;intro w hSw;(try dsimp only at hSw);go_simp<;>with_reducible rfl)
  try simp only[Act.put,List.setIfInBounds_toArray,List.set_cons_zero,List.set_cons_succ]
  refine wpAnyH_take (i:=5) (oi:= ?ois5) (v:= ?vs5) ?hops5 ?hss5 ?hfs5 ?hrs5 ?hQs5 ?hys5 (by assumption) ?rests5
  case hops5=>(simp only[List.getElem?_toArray,List.getElem?_cons_zero,List.getElem?_cons_succ];rfl)
  case hss5=>kernel_rfl
  case hfs5=>kernel_rfl
  case hrs5=>kernel_rfl
  case hQs5=>exact fun _ _ _ h=>h
  case hys5=>(refine Or.inl ⟨by rfl,?_⟩;intro w hSw;(try dsimp only at hSw);go_simp<;>with_reducible rfl)
  try simp only[Act.put,List.setIfInBounds_toArray,List.set_cons_zero,List.set_cons_succ]
  refine wpAnyH_ready (rs:=[1,8]) (by kernel_rfl) (by simp) ?_
  refine AllReadyH.cons (o:= ?ois6) ?hops6 (fun K hK=> ?steps6) ?mores6
  case hops6=>(simp only[List.getElem?_toArray,List.getElem?_cons_zero,List.getElem?_cons_succ];rfl)
  case mores6 =>
   refine AllReadyH.cons (o:= ?ois7) ?hops7 (fun K hK=> ?steps7) ?mores7
   case hops7=>(simp only[List.getElem?_toArray,List.getElem?_cons_zero,List.getElem?_cons_succ];rfl)
   case mores7=>exact AllReadyH.nil
   go_simp
   refine hK.out _ _ ?_ (fun hHeld=> ?_)
   ·(try dsimp only);exact hKeep.out _ (by first|exact hD0.out|exact hD1.out|exact hF3.out.1|exact hF3.out.1.alloc hF3.out.1.size _|exact (hF3.out.1.setCell hB3g.out _).setCell hB3g.out _|exact hF2.out.1|exact hF2.out.1.alloc hF2.out.1.size _|exact hF1.out.1|exact hF1.out.1.alloc hF1.out.1.size _)
   clear hK K
   try simp only[Act.put,List.setIfInBounds_toArray,List.set_cons_zero,List.set_cons_succ]
   refine wpAnyH_ready (rs:=[1]) (by kernel_rfl) (by simp) ?_
   refine AllReadyH.cons (o:= ?ois8) ?hops8 (fun K hK=> ?steps8) ?mores8
   case hops8=>(simp only[List.getElem?_toArray,List.getElem?_cons_zero,List.getElem?_cons_succ];rfl)
   case mores8=>exact AllReadyH.nil
   go_simp
   (go_at_call 28;(with_reducible refine Calls.mono (hNew.out _ (by first|exact hD0.out|exact hD1.out)) ?_);rintro e w2 ⟨L,M,X,Y,k,m,rfl,f1,f2,f3,f4,f5⟩;have hF1:Hid (Below w1.heap.size w1 w2∧Lv w2 X k L∧Lv w2 Y m M∧L.map Itm.z=ofR s'∧M.map Itm.z=ofR t'):=⟨(by first|exact hD0.out.trans (f5.mono hD0.out.size)|exact hD1.out.trans (f5.mono hD1.out.size)),f3.lv,f4.lv,f1,f2⟩;(first|(have hB1:Hid (Cls w2 w1.heap.size [.slice none 0 0,.slice none 0 0]):=((Cls.new w1 #[.slice none 0 0,.slice none 0 0] 72).gr (Gr.refl _).drew).below f5)|skip);clear f1 f2 f3 f4 f5)
   first|(go_wp2_with fail)|skip
   refine hK.out _ _ ?_ (fun hHeld=> ?_)
   ·(try dsimp only);exact hKeep.out _ (by first|exact hD0.out|exact hD1.out|exact hF3.out.1|exact hF3.out.1.alloc hF3.out.1.size _|exact (hF3.out.1.setCell hB3g.out _).setCell hB3g.out _|exact hF2.out.1|exact hF2.out.1.alloc hF2.out.1.size _|exact hF1.out.1|exact hF1.out.1.alloc hF1.out.1.size _)
   clear hK K
   try simp only[Act.put,List.setIfInBounds_toArray,List.set_cons_zero,List.set_cons_succ]
   refine wpAnyH_ready (rs:=[6]) (by kernel_rfl) (by simp) ?_
   refine AllReadyH.cons (o:= ?ois9) ?hops9 (fun K hK=> ?steps9) ?mores9
   case hops9=>(simp only[List.getElem?_toArray,List.getElem?_cons_zero,List.getElem?_cons_succ];rfl)
   case mores9=>exact AllReadyH.nil
   go_simp
   (go_at_call 28;(with_reducible refine Calls.mono (hOld.out _ (by first|exact hF1.out.1|exact hF1.out.1.alloc hF1.out.1.size _)) ?_);rintro e w3 ⟨L',M',X',Y',k',m',rfl,f1,f2,f3,f4,f5⟩;have hb23:Below w2.heap.size w2 w3:=(by first|exact f5|exact ((Gr.refl w2).alloc _).below.trans (f5.mono (by simp)));have hF2:Hid (Below w1.heap.size w1 w3∧Lv w3 X k L∧Lv w3 Y m M∧Lv w3 X' k' L'∧Lv w3 Y' m' M'∧L'.map Itm.z=ofR s∧M'.map Itm.z=ofR t):=⟨hF1.out.1.trans (hb23.mono hF1.out.1.size),hF1.out.2.1.below hb23,hF1.out.2.2.1.below hb23,f3.lv,f4.lv,f1,f2⟩;(first|(have hB2:Hid (Cls w3 w1.heap.size [.slice none 0 0,.slice none 0 0]):=hB1.out.below hb23)|(have hB2:Hid (Cls w3 w2.heap.size [.slice none 0 0,.slice none 0 0]):=(Cls.new w2 #[.slice none 0 0,.slice none 0 0] 72).below f5)|skip);clear f1 f2 f3 f4 f5 hb23;have hDf:Hid (∀W,Below w3.heap.size w3 W→Calls Tryz.prog 42 #[.agg #[.slice X L.length k,.slice Y M.length m],.agg #[.slice X' L'.length k',.slice Y' M'.length m']] W fun e w'=>∃(D E:List Itm) (X Y:Option Addr) (k m:Nat),e= .returned (.agg #[.slice X D.length k,.slice Y E.length m])∧D.map Itm.z=difL (ofR s') (ofR s)∧E.map Itm.z=difL (ofR t') (ofR t)∧LvP (fun b=>W.heap.size≤b∧b<w'.heap.size) w' X k D∧LvP (fun b=>W.heap.size≤b∧b<w'.heap.size) w' Y m E∧Below W.heap.size W w'):=(fun W hW=>by (have:=difference_any L M L' M' X Y X' Y' k m k' m' W (hF2.out.2.1.below hW) (hF2.out.2.2.1.below hW) (hF2.out.2.2.2.1.below hW) (hF2.out.2.2.2.2.1.below hW) (by rw[hF1.out.2.2.2.1];exact hTS.out.2.2.1) (by rw[hF1.out.2.2.2.2];exact hTS.out.2.2.2) (by rw[hF2.out.2.2.2.2.2.1];exact hTS.out.1) (by rw[hF2.out.2.2.2.2.2.2];exact hTS.out.2.1));rwa [hF1.out.2.2.2.1,hF1.out.2.2.2.2,hF2.out.2.2.2.2.2.1,hF2.out.2.2.2.2.2.2] at this))
   first|(go_wp2_with fail)|skip
   refine hK.out _ _ ?_ (fun hHeld=> ?_)
   ·(try dsimp only);exact hKeep.out _ (by first|exact hD0.out|exact hD1.out|exact hF3.out.1|exact hF3.out.1.alloc hF3.out.1.size _|exact (hF3.out.1.setCell hB3g.out _).setCell hB3g.out _|exact hF2.out.1|exact hF2.out.1.alloc hF2.out.1.size _|exact hF1.out.1|exact hF1.out.1.alloc hF1.out.1.size _)
   clear hK K
   try simp only[Act.put,List.setIfInBounds_toArray,List.set_cons_zero,List.set_cons_succ]
   refine wpAnyH_ready (rs:=[7]) (by kernel_rfl) (by simp) ?_
   refine AllReadyH.cons (o:= ?ois10) ?hops10 (fun K hK=> ?steps10) ?mores10
   case hops10=>(simp only[List.getElem?_toArray,List.getElem?_cons_zero,List.getElem?_cons_succ];rfl)
   case mores10=>exact AllReadyH.nil
   go_simp
   (go_at_call 42;(with_reducible refine Calls.mono (hDf.out _ (by first|exact Below.refl _ _|exact ((Gr.refl w3).alloc _).below)) ?_);rintro e w4 ⟨D,E,X2,Y2,k2,m2,rfl,f1,f2,f3,f4,f5⟩;have hb34:Below w3.heap.size w3 w4:=(by first|exact f5|exact ((Gr.refl w3).alloc _).below.trans (f5.mono (by simp)));have hF3:Hid (Below w1.heap.size w1 w4∧D.map Itm.z=difL (ofR s') (ofR s)∧E.map Itm.z=difL (ofR t') (ofR t)):=⟨hF2.out.1.trans (hb34.mono hF2.out.1.size),f1,f2⟩;have hg3:Hid _:=f3;have hg4:Hid _:=f4;(first|(have hB3:Hid (Cls w4 w1.heap.size [.slice none 0 0,.slice none 0 0]):=hB2.out.below hb34;have hB3g:Hid (w1.heap.size≤w1.heap.size):=Nat.le_refl _)|(have hB3:Hid (Cls w4 w2.heap.size [.slice none 0 0,.slice none 0 0]):=hB2.out.below hb34;have hB3g:Hid (w1.heap.size≤w2.heap.size):=hF1.out.1.size)|(have hB3:Hid (Cls w4 w3.heap.size [.slice none 0 0,.slice none 0 0]):=(Cls.new w3 #[.slice none 0 0,.slice none 0 0] 72).below f5;have hB3g:Hid (w1.heap.size≤w3.heap.size):=hF2.out.1.size)|skip);clear f1 f2 f3 f4 f5 hb34;(first|(have q0:=hB3.out.cell (j:=0) rfl;have q1:=hB3.out.cell (j:=1) rfl;have z0:=hB3.out.fz 0;have z1:=hB3.out.fz 1)|skip))
   first|(go_wp2_with fail)|skip
   refine hK.out _ _ ?_ (fun hHeld=> ?_)
   ·(try dsimp only);exact hKeep.out _ (by first|exact hD0.out|exact hD1.out|exact hF3.out.1|exact hF3.out.1.alloc hF3.out.1.size _|exact (hF3.out.1.setCell hB3g.out _).setCell hB3g.out _|exact hF2.out.1|exact hF2.out.1.alloc hF2.out.1.size _|exact hF1.out.1|exact hF1.out.1.alloc hF1.out.1.size _)
   clear hK K
   try simp only[Act.put,List.setIfInBounds_toArray,List.set_cons_zero,List.set_cons_succ]
   refine wpAnyH_ready (rs:=[9]) (by kernel_rfl) (by simp) ?_
   refine AllReadyH.cons (o:= ?ois11) ?hops11 (fun K hK=> ?steps11) ?mores11
   case hops11=>(simp only[List.getElem?_toArray,List.getElem?_cons_zero,List.getElem?_cons_succ];rfl)
   case mores11=>exact AllReadyH.nil
   go_simp
   refine hK.out _ _ ?_ (fun hHeld=> ?_)
   ·(try dsimp only);exact hKeep.out _ (by first|exact hD0.out|exact hD1.out|exact hF3.out.1|exact hF3.out.1.alloc hF3.out.1.size _|exact (hF3.out.1.setCell hB3g.out _).setCell hB3g.out _|exact hF2.out.1|exact hF2.out.1.alloc hF2.out.1.size _|exact hF1.out.1|exact hF1.out.1.alloc hF1.out.1.size _)
   clear hK K
   try simp only[Act.put,List.setIfInBounds_toArray,List.set_cons_zero,List.set_cons_succ]
   refine wpAnyH_done (by kernel_rfl) ?_ _
   refine NoPanic.normal ?_
   go_wp2_with fail
   go_meet
   case rel=>exact ⟨_,rfl,(by first|exact bec_late hg3.out hg4.out (by have h1:=hF2.out.1.size;first|exact h1|(simp;omega)) hF3.out.1 hF3.out.2.1 hF3.out.2.2|exact bec_early hB3.out hg3.out hg4.out (by have h1:=hB2.out.lt;exact h1) hB3g.out hF3.out.1 hF3.out.2.1 hF3.out.2.2|exact bec_early hB3.out hg3.out hg4.out (by simp) hB3g.out hF3.out.1 hF3.out.2.1 hF3.out.2.2)⟩
  go_simp
  (go_at_call 28;(with_reducible refine Calls.mono (hNew.out _ (by first|exact hD0.out|exact hD1.out)) ?_);rintro e w2 ⟨L,M,X,Y,k,m,rfl,f1,f2,f3,f4,f5⟩;have hF1:Hid (Below w1.heap.size w1 w2∧Lv w2 X k L∧Lv w2 Y m M∧L.map Itm.z=ofR s'∧M.map Itm.z=ofR t'):=⟨(by first|exact hD0.out.trans (f5.mono hD0.out.size)|exact hD1.out.trans (f5.mono hD1.out.size)),f3.lv,f4.lv,f1,f2⟩;(first|(have hB1:Hid (Cls w2 w1.heap.size [.slice none 0 0,.slice none 0 0]):=((Cls.new w1 #[.slice none 0 0,.slice none 0 0] 72).gr (Gr.refl _).drew).below f5)|skip);clear f1 f2 f3 f4 f5)
  first|(go_wp2_with fail)|skip
  refine hK.out _ _ ?_ (fun hHeld=> ?_)
  ·(try dsimp only);exact hKeep.out _ (by first|exact hD0.out|exact hD1.out|exact hF3.out.1|exact hF3.out.1.alloc hF3.out.1.size _|exact (hF3.out.1.setCell hB3g.out _).setCell hB3g.out _|exact hF2.out.1|exact hF2.out.1.alloc hF2.out.1.size _|exact hF1.out.1|exact hF1.out.1.alloc hF1.out.1.size _)
  clear hK K
  try simp only[Act.put,List.setIfInBounds_toArray,List.set_cons_zero,List.set_cons_succ]
  refine wpAnyH_ready (rs:=[6,8]) (by kernel_rfl) (by simp) ?_
  refine AllReadyH.cons (o:= ?ois12) ?hops12 (fun K hK=> ?steps12) ?mores12
  case hops12=>(simp only[List.getElem?_toArray,List.getElem?_cons_zero,List.getElem?_cons_succ];rfl)
  case mores12 =>
   refine AllReadyH.cons (o:= ?ois13) ?hops13 (fun K hK=> ?steps13) ?mores13
   case hops13=>(simp only[List.getElem?_toArray,List.getElem?_cons_zero,List.getElem?_cons_succ];rfl)
   case mores13=>exact AllReadyH.nil
   go_simp
   refine hK.out _ _ ?_ (fun hHeld=> ?_)
   ·(try dsimp only);exact hKeep.out _ (by first|exact hD0.out|exact hD1.out|exact hF3.out.1|exact hF3.out.1.alloc hF3.out.1.size _|exact (hF3.out.1.setCell hB3g.out _).setCell hB3g.out _|exact hF2.out.1|exact hF2.out.1.alloc hF2.out.1.size _|exact hF1.out.1|exact hF1.out.1.alloc hF1.out.1.size _)
   clear hK K
   try simp only[Act.put,List.setIfInBounds_toArray,List.set_cons_zero,List.set_cons_succ]
   refine wpAnyH_ready (rs:=[6]) (by kernel_rfl) (by simp) ?_
   refine AllReadyH.cons (o:= ?ois14) ?hops14 (fun K hK=> ?steps14) ?mores14
   case hops14=>(simp only[List.getElem?_toArray,List.getElem?_cons_zero,List.getElem?_cons_succ];rfl)
   case mores14=>exact AllReadyH.nil
   go_simp
   (go_at_call 28;(with_reducible refine Calls.mono (hOld.out _ (by first|exact hF1.out.1|exact hF1.out.1.alloc hF1.out.1.size _)) ?_);rintro e w3 ⟨L',M',X',Y',k',m',rfl,f1,f2,f3,f4,f5⟩;have hb23:Below w2.heap.size w2 w3:=(by first|exact f5|exact ((Gr.refl w2).alloc _).below.trans (f5.mono (by simp)));have hF2:Hid (Below w1.heap.size w1 w3∧Lv w3 X k L∧Lv w3 Y m M∧Lv w3 X' k' L'∧Lv w3 Y' m' M'∧L'.map Itm.z=ofR s∧M'.map Itm.z=ofR t):=⟨hF1.out.1.trans (hb23.mono hF1.out.1.size),hF1.out.2.1.below hb23,hF1.out.2.2.1.below hb23,f3.lv,f4.lv,f1,f2⟩;(first|(have hB2:Hid (Cls w3 w1.heap.size [.slice none 0 0,.slice none 0 0]):=hB1.out.below hb23)|(have hB2:Hid (Cls w3 w2.heap.size [.slice none 0 0,.slice none 0 0]):=(Cls.new w2 #[.slice none 0 0,.slice none 0 0] 72).below f5)|skip);clear f1 f2 f3 f4 f5 hb23;have hDf:Hid (∀W,Below w3.heap.size w3 W→Calls Tryz.prog 42 #[.agg #[.slice X L.length k,.slice Y M.length m],.agg #[.slice X' L'.length k',.slice Y' M'.length m']] W fun e w'=>∃(D E:List Itm) (X Y:Option Addr) (k m:Nat),e= .returned (.agg #[.slice X D.length k,.slice Y E.length m])∧D.map Itm.z=difL (ofR s') (ofR s)∧E.map Itm.z=difL (ofR t') (ofR t)∧LvP (fun b=>W.heap.size≤b∧b<w'.heap.size) w' X k D∧LvP (fun b=>W.heap.size≤b∧b<w'.heap.size) w' Y m E∧Below W.heap.size W w'):=(fun W hW=>by (have:=difference_any L M L' M' X Y X' Y' k m k' m' W (hF2.out.2.1.below hW) (hF2.out.2.2.1.below hW) (hF2.out.2.2.2.1.below hW) (hF2.out.2.2.2.2.1.below hW) (by rw[hF1.out.2.2.2.1];exact hTS.out.2.2.1) (by rw[hF1.out.2.2.2.2];exact hTS.out.2.2.2) (by rw[hF2.out.2.2.2.2.2.1];exact hTS.out.1) (by rw[hF2.out.2.2.2.2.2.2];exact hTS.out.2.1));rwa [hF1.out.2.2.2.1,hF1.out.2.2.2.2,hF2.out.2.2.2.2.2.1,hF2.out.2.2.2.2.2.2] at this))
   first|(go_wp2_with fail)|skip
   refine hK.out _ _ ?_ (fun hHeld=> ?_)
   ·(try dsimp only);exact hKeep.out _ (by first|exact hD0.out|exact hD1.out|exact hF3.out.1|exact hF3.out.1.alloc hF3.out.1.size _|exact (hF3.out.1.setCell hB3g.out _).setCell hB3g.out _|exact hF2.out.1|exact hF2.out.1.alloc hF2.out.1.size _|exact hF1.out.1|exact hF1.out.1.alloc hF1.out.1.size _)
   clear hK K
   try simp only[Act.put,List.setIfInBounds_toArray,List.set_cons_zero,List.set_cons_succ]
   refine wpAnyH_ready (rs:=[7]) (by kernel_rfl) (by simp) ?_
   refine AllReadyH.cons (o:= ?ois15) ?hops15 (fun K hK=> ?steps15) ?mores15
   case hops15=>(simp only[List.getElem?_toArray,List.getElem?_cons_zero,List.getElem?_cons_succ];rfl)
   case mores15=>exact AllReadyH.nil
   go_simp
   (go_at_call 42;(with_reducible refine Calls.mono (hDf.out _ (by first|exact Below.refl _ _|exact ((Gr.refl w3).alloc _).below)) ?_);rintro e w4 ⟨D,E,X2,Y2,k2,m2,rfl,f1,f2,f3,f4,f5⟩;have hb34:Below w3.heap.size w3 w4:=(by first|exact f5|exact ((Gr.refl w3).alloc _).below.trans (f5.mono (by simp)));have hF3:Hid (Below w1.heap.size w1 w4∧D.map Itm.z=difL (ofR s') (ofR s)∧E.map Itm.z=difL (ofR t') (ofR t)):=⟨hF2.out.1.trans (hb34.mono hF2.out.1.size),f1,f2⟩;have hg3:Hid _:=f3;have hg4:Hid _:=f4;(first|(have hB3:Hid (Cls w4 w1.heap.size [.slice none 0 0,.slice none 0 0]):=hB2.out.below hb34;have hB3g:Hid (w1.heap.size≤w1.heap.size):=Nat.le_refl _)|(have hB3:Hid (Cls w4 w2.heap.size [.slice none 0 0,.slice none 0 0]):=hB2.out.below hb34;have hB3g:Hid (w1.heap.size≤w2.heap.size):=hF1.out.1.size)|(have hB3:Hid (Cls w4 w3.heap.size [.slice none 0 0,.slice none 0 0]):=(Cls.new w3 #[.slice none 0 0,.slice none 0 0] 72).below f5;have hB3g:Hid (w1.heap.size≤w3.heap.size):=hF2.out.1.size)|skip);clear f1 f2 f3 f4 f5 hb34;(first|(have q0:=hB3.out.cell (j:=0) rfl;have q1:=hB3.out.cell (j:=1) rfl;have z0:=hB3.out.fz 0;have z1:=hB3.out.fz 1)|skip))
   first|(go_wp2_with fail)|skip
   refine hK.out _ _ ?_ (fun hHeld=> ?_)
   ·(try dsimp only);exact hKeep.out _ (by first|exact hD0.out|exact hD1.out|exact hF3.out.1|exact hF3.out.1.alloc hF3.out.1.size _|exact (hF3.out.1.setCell hB3g.out _).setCell hB3g.out _|exact hF2.out.1|exact hF2.out.1.alloc hF2.out.1.size _|exact hF1.out.1|exact hF1.out.1.alloc hF1.out.1.size _)
   clear hK K
   try simp only[Act.put,List.setIfInBounds_toArray,List.set_cons_zero,List.set_cons_succ]
   refine wpAnyH_ready (rs:=[9]) (by kernel_rfl) (by simp) ?_
   refine AllReadyH.cons (o:= ?ois16) ?hops16 (fun K hK=> ?steps16) ?mores16
   case hops16=>(simp only[List.getElem?_toArray,List.getElem?_cons_zero,List.getElem?_cons_succ];rfl)
   case mores16=>exact AllReadyH.nil
   go_simp
   refine hK.out _ _ ?_ (fun hHeld=> ?_)
   ·(try dsimp only);exact hKeep.out _ (by first|exact hD0.out|exact hD1.out|exact hF3.out.1|exact hF3.out.1.alloc hF3.out.1.size _|exact (hF3.out.1.setCell hB3g.out _).setCell hB3g.out _|exact hF2.out.1|exact hF2.out.1.alloc hF2.out.1.size _|exact hF1.out.1|exact hF1.out.1.alloc hF1.out.1.size _)
   clear hK K
   try simp only[Act.put,List.setIfInBounds_toArray,List.set_cons_zero,List.set_cons_succ]
   refine wpAnyH_done (by kernel_rfl) ?_ _
   refine NoPanic.normal ?_
   go_wp2_with fail
   go_meet
   case rel=>exact ⟨_,rfl,(by first|exact bec_late hg3.out hg4.out (by have h1:=hF2.out.1.size;first|exact h1|(simp;omega)) hF3.out.1 hF3.out.2.1 hF3.out.2.2|exact bec_early hB3.out hg3.out hg4.out (by have h1:=hB2.out.lt;exact h1) hB3g.out hF3.out.1 hF3.out.2.1 hF3.out.2.2|exact bec_early hB3.out hg3.out hg4.out (by simp) hB3g.out hF3.out.1 hF3.out.2.1 hF3.out.2.2)⟩
  go_simp
  (go_at_call 28;(with_reducible refine Calls.mono (hOld.out _ (by first|exact hF1.out.1|exact hF1.out.1.alloc hF1.out.1.size _)) ?_);rintro e w3 ⟨L',M',X',Y',k',m',rfl,f1,f2,f3,f4,f5⟩;have hb23:Below w2.heap.size w2 w3:=(by first|exact f5|exact ((Gr.refl w2).alloc _).below.trans (f5.mono (by simp)));have hF2:Hid (Below w1.heap.size w1 w3∧Lv w3 X k L∧Lv w3 Y m M∧Lv w3 X' k' L'∧Lv w3 Y' m' M'∧L'.map Itm.z=ofR s∧M'.map Itm.z=ofR t):=⟨hF1.out.1.trans (hb23.mono hF1.out.1.size),hF1.out.2.1.below hb23,hF1.out.2.2.1.below hb23,f3.lv,f4.lv,f1,f2⟩;(first|(have hB2:Hid (Cls w3 w1.heap.size [.slice none 0 0,.slice none 0 0]):=hB1.out.below hb23)|(have hB2:Hid (Cls w3 w2.heap.size [.slice none 0 0,.slice none 0 0]):=(Cls.new w2 #[.slice none 0 0,.slice none 0 0] 72).below f5)|skip);clear f1 f2 f3 f4 f5 hb23;have hDf:Hid (∀W,Below w3.heap.size w3 W→Calls Tryz.prog 42 #[.agg #[.slice X L.length k,.slice Y M.length m],.agg #[.slice X' L'.length k',.slice Y' M'.length m']] W fun e w'=>∃(D E:List Itm) (X Y:Option Addr) (k m:Nat),e= .returned (.agg #[.slice X D.length k,.slice Y E.length m])∧D.map Itm.z=difL (ofR s') (ofR s)∧E.map Itm.z=difL (ofR t') (ofR t)∧LvP (fun b=>W.heap.size≤b∧b<w'.heap.size) w' X k D∧LvP (fun b=>W.heap.size≤b∧b<w'.heap.size) w' Y m E∧Below W.heap.size W w'):=(fun W hW=>by (have:=difference_any L M L' M' X Y X' Y' k m k' m' W (hF2.out.2.1.below hW) (hF2.out.2.2.1.below hW) (hF2.out.2.2.2.1.below hW) (hF2.out.2.2.2.2.1.below hW) (by rw[hF1.out.2.2.2.1];exact hTS.out.2.2.1) (by rw[hF1.out.2.2.2.2];exact hTS.out.2.2.2) (by rw[hF2.out.2.2.2.2.2.1];exact hTS.out.1) (by rw[hF2.out.2.2.2.2.2.2];exact hTS.out.2.1));rwa [hF1.out.2.2.2.1,hF1.out.2.2.2.2,hF2.out.2.2.2.2.2.1,hF2.out.2.2.2.2.2.2] at this))
  first|(go_wp2_with fail)|skip
  refine hK.out _ _ ?_ (fun hHeld=> ?_)
  ·(try dsimp only);exact hKeep.out _ (by first|exact hD0.out|exact hD1.out|exact hF3.out.1|exact hF3.out.1.alloc hF3.out.1.size _|exact (hF3.out.1.setCell hB3g.out _).setCell hB3g.out _|exact hF2.out.1|exact hF2.out.1.alloc hF2.out.1.size _|exact hF1.out.1|exact hF1.out.1.alloc hF1.out.1.size _)
  clear hK K
  try simp only[Act.put,List.setIfInBounds_toArray,List.set_cons_zero,List.set_cons_succ]
  refine wpAnyH_ready (rs:=[7,8]) (by kernel_rfl) (by simp) ?_
  refine AllReadyH.cons (o:= ?ois17) ?hops17 (fun K hK=> ?steps17) ?mores17
  case hops17=>(simp only[List.getElem?_toArray,List.getElem?_cons_zero,List.getElem?_cons_succ];rfl)
  case mores17 =>
   refine AllReadyH.cons (o:= ?ois18) ?hops18 (fun K hK=> ?steps18) ?mores18
   case hops18=>(simp only[List.getElem?_toArray,List.getElem?_cons_zero,List.getElem?_cons_succ];rfl)
   case mores18=>exact AllReadyH.nil
   go_simp
   refine hK.out _ _ ?_ (fun hHeld=> ?_)
   ·(try dsimp only);exact hKeep.out _ (by first|exact hD0.out|exact hD1.out|exact hF3.out.1|exact hF3.out.1.alloc hF3.out.1.size _|exact (hF3.out.1.setCell hB3g.out _).setCell hB3g.out _|exact hF2.out.1|exact hF2.out.1.alloc hF2.out.1.size _|exact hF1.out.1|exact hF1.out.1.alloc hF1.out.1.size _)
   clear hK K
   try simp only[Act.put,List.setIfInBounds_toArray,List.set_cons_zero,List.set_cons_succ]
   refine wpAnyH_ready (rs:=[7]) (by kernel_rfl) (by simp) ?_
   refine AllReadyH.cons (o:= ?ois19) ?hops19 (fun K hK=> ?steps19) ?mores19
   case hops19=>(simp only[List.getElem?_toArray,List.getElem?_cons_zero,List.getElem?_cons_succ];rfl)
   case mores19=>exact AllReadyH.nil
   go_simp
   (go_at_call 42;(with_reducible refine Calls.mono (hDf.out _ (by first|exact Below.refl _ _|exact ((Gr.refl w3).alloc _).below)) ?_);rintro e w4 ⟨D,E,X2,Y2,k2,m2,rfl,f1,f2,f3,f4,f5⟩;have hb34:Below w3.heap.size w3 w4:=(by first|exact f5|exact ((Gr.refl w3).alloc _).below.trans (f5.mono (by simp)));have hF3:Hid (Below w1.heap.size w1 w4∧D.map Itm.z=difL (ofR s') (ofR s)∧E.map Itm.z=difL (ofR t') (ofR t)):=⟨hF2.out.1.trans (hb34.mono hF2.out.1.size),f1,f2⟩;have hg3:Hid _:=f3;have hg4:Hid _:=f4;(first|(have hB3:Hid (Cls w4 w1.heap.size [.slice none 0 0,.slice none 0 0]):=hB2.out.below hb34;have hB3g:Hid (w1.heap.size≤w1.heap.size):=Nat.le_refl _)|(have hB3:Hid (Cls w4 w2.heap.size [.slice none 0 0,.slice none 0 0]):=hB2.out.below hb34;have hB3g:Hid (w1.heap.size≤w2.heap.size):=hF1.out.1.size)|(have hB3:Hid (Cls w4 w3.heap.size [.slice none 0 0,.slice none 0 0]):=(Cls.new w3 #[.slice none 0 0,.slice none 0 0] 72).below f5;have hB3g:Hid (w1.heap.size≤w3.heap.size):=hF2.out.1.size)|skip);clear f1 f2 f3 f4 f5 hb34;(first|(have q0:=hB3.out.cell (j:=0) rfl;have q1:=hB3.out.cell (j:=1) rfl;have z0:=hB3.out.fz 0;have z1:=hB3.out.fz 1)|skip))
   first|(go_wp2_with fail)|skip
   refine hK.out _ _ ?_ (fun hHeld=> ?_)
   ·(try dsimp only);exact hKeep.out _ (by first|exact hD0.out|exact hD1.out|exact hF3.out.1|exact hF3.out.1.alloc hF3.out.1.size _|exact (hF3.out.1.setCell hB3g.out _).setCell hB3g.out _|exact hF2.out.1|exact hF2.out.1.alloc hF2.out.1.size _|exact hF1.out.1|exact hF1.out.1.alloc hF1.out.1.size _)
   clear hK K
   try simp only[Act.put,List.setIfInBounds_toArray,List.set_cons_zero,List.set_cons_succ]
   refine wpAnyH_ready (rs:=[9]) (by kernel_rfl) (by simp) ?_
   refine AllReadyH.cons (o:= ?ois20) ?hops20 (fun K hK=> ?steps20) ?mores20
   case hops20=>(simp only[List.getElem?_toArray,List.getElem?_cons_zero,List.getElem?_cons_succ];rfl)
   case mores20=>exact AllReadyH.nil
   go_simp
   refine hK.out _ _ ?_ (fun hHeld=> ?_)
   ·(try dsimp only);exact hKeep.out _ (by first|exact hD0.out|exact hD1.out|exact hF3.out.1|exact hF3.out.1.alloc hF3.out.1.size _|exact (hF3.out.1.setCell hB3g.out _).setCell hB3g.out _|exact hF2.out.1|exact hF2.out.1.alloc hF2.out.1.size _|exact hF1.out.1|exact hF1.out.1.alloc hF1.out.1.size _)
   clear hK K
   try simp only[Act.put,List.setIfInBounds_toArray,List.set_cons_zero,List.set_cons_succ]
   refine wpAnyH_done (by kernel_rfl) ?_ _
   refine NoPanic.normal ?_
   go_wp2_with fail
   go_meet
   case rel=>exact ⟨_,rfl,(by first|exact bec_late hg3.out hg4.out (by have h1:=hF2.out.1.size;first|exact h1|(simp;omega)) hF3.out.1 hF3.out.2.1 hF3.out.2.2|exact bec_early hB3.out hg3.out hg4.out (by have h1:=hB2.out.lt;exact h1) hB3g.out hF3.out.1 hF3.out.2.1 hF3.out.2.2|exact bec_early hB3.out hg3.out hg4.out (by simp) hB3g.out hF3.out.1 hF3.out.2.1 hF3.out.2.2)⟩
  go_simp
  (go_at_call 42;(with_reducible refine Calls.mono (hDf.out _ (by first|exact Below.refl _ _|exact ((Gr.refl w3).alloc _).below)) ?_);rintro e w4 ⟨D,E,X2,Y2,k2,m2,rfl,f1,f2,f3,f4,f5⟩;have hb34:Below w3.heap.size w3 w4:=(by first|exact f5|exact ((Gr.refl w3).alloc _).below.trans (f5.mono (by simp)));have hF3:Hid (Below w1.heap.size w1 w4∧D.map Itm.z=difL (ofR s') (ofR s)∧E.map Itm.z=difL (ofR t') (ofR t)):=⟨hF2.out.1.trans (hb34.mono hF2.out.1.size),f1,f2⟩;have hg3:Hid _:=f3;have hg4:Hid _:=f4;(first|(have hB3:Hid (Cls w4 w1.heap.size [.slice none 0 0,.slice none 0 0]):=hB2.out.below hb34;have hB3g:Hid (w1.heap.size≤w1.heap.size):=Nat.le_refl _)|(have hB3:Hid (Cls w4 w2.heap.size [.slice none 0 0,.slice none 0 0]):=hB2.out.below hb34;have hB3g:Hid (w1.heap.size≤w2.heap.size):=hF1.out.1.size)|(have hB3:Hid (Cls w4 w3.heap.size [.slice none 0 0,.slice none 0 0]):=(Cls.new w3 #[.slice none 0 0,.slice none 0 0] 72).below f5;have hB3g:Hid (w1.heap.size≤w3.heap.size):=hF2.out.1.size)|skip);clear f1 f2 f3 f4 f5 hb34;(first|(have q0:=hB3.out.cell (j:=0) rfl;have q1:=hB3.out.cell (j:=1) rfl;have z0:=hB3.out.fz 0;have z1:=hB3.out.fz 1)|skip))
  first|(go_wp2_with fail)|skip
  refine hK.out _ _ ?_ (fun hHeld=> ?_)
  ·(try dsimp only);exact hKeep.out _ (by first|exact hD0.out|exact hD1.out|exact hF3.out.1|exact hF3.out.1.alloc hF3.out.1.size _|exact (hF3.out.1.setCell hB3g.out _).setCell hB3g.out _|exact hF2.out.1|exact hF2.out.1.alloc hF2.out.1.size _|exact hF1.out.1|exact hF1.out.1.alloc hF1.out.1.size _)
  clear hK K
  try simp only[Act.put,List.setIfInBounds_toArray,List.set_cons_zero,List.set_cons_succ]
  refine wpAnyH_ready (rs:=[8]) (by kernel_rfl) (by simp) ?_
  refine AllReadyH.cons (o:= ?ois21) ?hops21 (fun K hK=> ?steps21) ?mores21
  case hops21=>(simp only[List.getElem?_toArray,List.getElem?_cons_zero,List.getElem?_cons_succ];rfl)
  case mores21=>exact AllReadyH.nil
  go_simp
  refine hK.out _ _ ?_ (fun hHeld=> ?_)
  ·(try dsimp only);exact hKeep.out _ (by first|exact hD0.out|exact hD1.out|exact hF3.out.1|exact hF3.out.1.alloc hF3.out.1.size _|exact (hF3.out.1.setCell hB3g.out _).setCell hB3g.out _|exact hF2.out.1|exact hF2.out.1.alloc hF2.out.1.size _|exact hF1.out.1|exact hF1.out.1.alloc hF1.out.1.size _)
  clear hK K
  try simp only[Act.put,List.setIfInBounds_toArray,List.set_cons_zero,List.set_cons_succ]
  refine wpAnyH_ready (rs:=[9]) (by kernel_rfl) (by simp) ?_
  refine AllReadyH.cons (o:= ?ois22) ?hops22 (fun K hK=> ?steps22) ?mores22
  case hops22=>(simp only[List.getElem?_toArray,List.getElem?_cons_zero,List.getElem?_cons_succ];rfl)
  case mores22=>exact AllReadyH.nil
  go_simp
  refine hK.out _ _ ?_ (fun hHeld=> ?_)
  ·(try dsimp only);exact hKeep.out _ (by first|exact hD0.out|exact hD1.out|exact hF3.out.1|exact hF3.out.1.alloc hF3.out.1.size _|exact (hF3.out.1.setCell hB3g.out _).setCell hB3g.out _|exact hF2.out.1|exact hF2.out.1.alloc hF2.out.1.size _|exact hF1.out.1|exact hF1.out.1.alloc hF1.out.1.size _)
  clear hK K
  try simp only[Act.put,List.setIfInBounds_toArray,List.set_cons_zero,List.set_cons_succ]
  refine wpAnyH_done (by kernel_rfl) ?_ _
  refine NoPanic.normal ?_
  go_wp2_with fail
  go_meet
  case rel=>exact ⟨_,rfl,(by first|exact bec_late hg3.out hg4.out (by have h1:=hF2.out.1.size;first|exact h1|(simp;omega)) hF3.out.1 hF3.out.2.1 hF3.out.2.2|exact bec_early hB3.out hg3.out hg4.out (by have h1:=hB2.out.lt;exact h1) hB3g.out hF3.out.1 hF3.out.2.1 hF3.out.2.2|exact bec_early hB3.out hg3.out hg4.out (by simp) hB3g.out hF3.out.1 hF3.out.2.1 hF3.out.2.2)⟩
 case rest =>
  obtain ⟨Bm,rfl,hR⟩:=hcut
  obtain ⟨L,M,X,Y,k,m,hCl,e1,e2,l1,l2,hge,hbc⟩:=hR.out
  clear hR hNew hOld
  have hg1:=hH.out.2.2.2.2.2.1
  have hbw:Below w.heap.size w wc:=hg1.below.trans (hbc.mono hg1.size)
  have hNd:Nd wc N P id s t qs:=hH.out.1.below hbw
  have hlt:N<w.heap.size:=hH.out.1.blk.lt
  have b0:=(hBx.out.below hbc).cell (j:=0) rfl
  have b1:=(hBx.out.below hbc).cell (j:=1) rfl
  have b2:=(hBx.out.below hbc).cell (j:=2) rfl
  have b3:=(hBx.out.below hbc).cell (j:=3) rfl
  have b4:=(hBx.out.below hbc).cell (j:=4) rfl
  have b5:=(hBx.out.below hbc).cell (j:=5) rfl
  have b6:=(hBx.out.below hbc).cell (j:=6) rfl
  have b7:=(hBx.out.below hbc).cell (j:=7) rfl
  have b8:=(hBx.out.below hbc).cell (j:=8) rfl
  have b9:=(hBx.out.below hbc).cell (j:=9) rfl
  have b10:=(hBx.out.below hbc).cell (j:=10) rfl
  have b11:=(hBx.out.below hbc).cell (j:=11) rfl
  have n1:=(hbc.cell (p:=⟨N,1,none⟩) hHl.out).trans hHc.out.1.k0
  have n2:=(hbc.cell (p:=⟨N,2,none⟩) hHl.out).trans hHc.out.1.k1
  have n3:=(hbc.cell (p:=⟨N,3,none⟩) hHl.out).trans hHc.out.1.k2
  have n4:=(hbc.cell (p:=⟨N,4,none⟩) hHl.out).trans hHc.out.1.k3
  have n5:=(hbc.cell (p:=⟨N,5,none⟩) hHl.out).trans hHc.out.1.k4
  have n6:=(hbc.cell (p:=⟨N,6,none⟩) hHl.out).trans hHc.out.1.k5
  have n7:=(hbc.cell (p:=⟨N,7,none⟩) hHl.out).trans hHc.out.2.k0
  have n8:=(hbc.cell (p:=⟨N,8,none⟩) hHl.out).trans hHc.out.2.k1
  have n9:=(hbc.cell (p:=⟨N,9,none⟩) hHl.out).trans hHc.out.2.k2
  have n10:=(hbc.cell (p:=⟨N,10,none⟩) hHl.out).trans hHc.out.2.k3
  have n11:=(hbc.cell (p:=⟨N,11,none⟩) hHl.out).trans hHc.out.2.k4
  have n12:=(hbc.cell (p:=⟨N,12,none⟩) hHl.out).trans hHc.out.2.k5
  have z1:=hNd.blk.fz 1
  have z2:=hNd.blk.fz 2
  have z3:=hNd.blk.fz 3
  have z4:=hNd.blk.fz 4
  have z5:=hNd.blk.fz 5
  have z6:=hNd.blk.fz 6
  have z7:=hNd.blk.fz 7
  have z8:=hNd.blk.fz 8
  have z9:=hNd.blk.fz 9
  have z10:=hNd.blk.fz 10
  have z11:=hNd.blk.fz 11
  have z12:=hNd.blk.fz 12
  have c37:=hNd.cnt
  have hR:Hid (Nd wc N P id s t qs∧Below w.heap.size w wc∧Cls wc Bm [.slice X L.length k,.slice Y M.length m]∧L.map Itm.z=difL (ofR s') (ofR s)∧M.map Itm.z=difL (ofR t') (ofR t)∧LvP (fun b=>w1.heap.size≤b∧b<wc.heap.size) wc X k L∧LvP (fun b=>w1.heap.size≤b∧b<wc.heap.size) wc Y m M∧w1.heap.size≤Bm∧N<w.heap.size):=⟨hNd,hbw,hCl,e1,e2,l1,l2,hge,hlt⟩
  clear hCl e1 e2 l1 l2 hge hbc hg1 hbw hNd hlt
  go_wp2
  obtain ⟨w5,hw5⟩:∃W,((((((((((((wc.setCell ⟨N,1,none⟩ (.int .i64 s'.c.c0)).setCell ⟨N,2,none⟩ (.int .i64 s'.c.c1)).setCell ⟨N,3,none⟩ (.int .i64 s'.c.c2)).setCell ⟨N,4,none⟩ (.int .i64 s'.c.c3)).setCell ⟨N,5,none⟩ (.slice A' s'.c.l.length ca')).setCell ⟨N,6,none⟩ (.slice C' s'.e.length cc')).setCell ⟨N,7,none⟩ (.int .i64 t'.c.c0)).setCell ⟨N,8,none⟩ (.int .i64 t'.c.c1)).setCell ⟨N,9,none⟩ (.int .i64 t'.c.c2)).setCell ⟨N,10,none⟩ (.int .i64 t'.c.c3)).setCell ⟨N,11,none⟩ (.slice B' t'.c.l.length cb')).setCell ⟨N,12,none⟩ (.slice D' t'.e.length cd'))=W:=⟨_,rfl⟩
  rw[hw5]
  have h5:Hid (Nm w5 N (plusP P m0 w5.heap.size) id s' t' qs 0 (ofR s) (ofR t)∧Wr N 1 37 w w5∧Cls w5 Bm [.slice X L.length k,.slice Y M.length m]∧LvP (fun b=>w1.heap.size≤b∧b<wc.heap.size) w5 X k L∧LvP (fun b=>w1.heap.size≤b∧b<wc.heap.size) w5 Y m M):=by
   have hw5':setAll N wc 1 [.int .i64 s'.c.c0,.int .i64 s'.c.c1,.int .i64 s'.c.c2,.int .i64 s'.c.c3,.slice A' s'.c.l.length ca',.slice C' s'.e.length cc',.int .i64 t'.c.c0,.int .i64 t'.c.c1,.int .i64 t'.c.c2,.int .i64 t'.c.c3,.slice B' t'.c.l.length cb',.slice D' t'.e.length cd']=w5:=hw5
   have hs5:w5.heap.size=wc.heap.size:=by rw[←hw5'];exact setAll_size _ _ _ _
   have hsz:=hR.out.2.1.size
   have hm0:=hH.out.2.2.2.1
   have hm1:=hH.out.2.2.2.2.1
   have hs1:=hH.out.2.2.2.2.2.2
   have hlt:=hR.out.2.2.2.2.2.2.2.2
   have hNP:¬plusP P m0 w5.heap.size N:=plus_out hH.out.1.out hm0
   have hL:=Nd.laid (P':=plusP P m0 w5.heap.size) hR.out.1 (fun b hb=>plusP.old b hb) hNP (fun b hb=>by
    rcases hb with hb|hb
    ·have:=hR.out.1.up b hb;omega
    ·have:=hb.2;omega) ((hH.out.2.1.below hR.out.2.1).mono (plusP.more (Nat.le_refl _) (by omega))) ((hH.out.2.2.1.below hR.out.2.1).mono (plusP.more (Nat.le_refl _) (by omega))) hw5'
   have hQ:¬(w1.heap.size≤N∧N<wc.heap.size):=fun h=>by omega
   exact ⟨hL.1,(Wr.of hR.out.2.1 hlt).trans (hL.2.mono (by omega) (by omega)),hR.out.2.2.1.keep (hL.2.oth Bm hR.out.2.2.1.lt (by have:=hR.out.2.2.2.2.2.2.2.1;omega)),hR.out.2.2.2.2.2.1.agr (hL.2.agr hQ),hR.out.2.2.2.2.2.2.1.agr (hL.2.agr hQ)⟩
  clear hw5 b0 b1 b2 b3 b4 b5 b6 b7 b8 b9 b10 b11 n1 n2 n3 n4 n5 n6 n7 n8 n9 n10 n11 n12 z1 z2 z3 z4 z5 z6 z7 z8 z9 z10 z11 z12 c37
  go_loopw [22] (fun i wr=>∃j:Nat,j≤qs.length∧i= .int .i64 j∧Hid (Nm wr N (plusP P m0 wr.heap.size) id s' t' qs j (ofR s) (ofR t)∧Wr N 1 37 w wr∧Cls wr Bm [.slice X L.length k,.slice Y M.length m]∧LvP (fun b=>w1.heap.size≤b∧b<wc.heap.size) wr X k L∧LvP (fun b=>w1.heap.size≤b∧b<wc.heap.size) wr Y m M)) (fun i _=>qs.length-(intOf i).toNat)
  case atStart=>exact ⟨0,Nat.zero_le _,rfl,h5⟩
  case round =>
   obtain ⟨j,hj,rfl,hI⟩:=hrel
   by_cases hjl:j<qs.length
   ·have hjz:(j:Int)<(qs.length:Int):=by omega
    have hle:=hI.out.1.le
    have hj4:(j:Int)<4:=by omega
    have q0:=hI.out.2.2.1.cell (j:=0) rfl
    have q1:=hI.out.2.2.1.cell (j:=1) rfl
    obtain ⟨vk,vl,hvm,tk,tl,_⟩:=hI.out.1.vs j hjl
    rw[if_neg (Nat.lt_irrefl _),if_neg (Nat.lt_irrefl _)] at hvm
    have hlt:N<w.heap.size:=hR.out.2.2.2.2.2.2.2.2
    have hTn:Hid (∀W,Gr wr W→Calls Tryz.prog 27 #[.pointer (some ⟨N,13+j*6,none⟩),.agg #[.slice X L.length k,.slice Y M.length m]] W fun e w'=>e= .returned (.tuple #[])∧VwN w' N (13+j*6) (plusP (plusP P m0 wr.heap.size) W.heap.size w'.heap.size) qs[j] (ofR s') (ofR t')∧Wr N (13+j*6) (13+j*6+6) W w'):=fun W hg=>turn_any (hI.out.1.blk.below hg.below) hI.out.1.out (fun h=>by have:=h.1;have:=hH.out.2.2.2.2.2.1.size;omega) (hvm.below hg.below) tk tl hTS.out.1 hTS.out.2.1 hTS.out.2.2.1 hTS.out.2.2.2 (hI.out.2.2.2.1.below hg.below) (hI.out.2.2.2.2.below hg.below) hR.out.2.2.2.1 hR.out.2.2.2.2.1
    clear hvm tk tl hlt hle
    go_wp2
    go_region_with (go_at_call 27;refine Calls.mono (hTn.out _ (Gr.refl wr).drew) ?_;rintro e w6 ⟨rfl,f1,f2⟩;have hF:Hid (VwN w6 N (13+j*6) (plusP (plusP P m0 wr.heap.size) wr.drew.heap.size w6.heap.size) qs[j] (ofR s') (ofR t')∧Wr N (13+j*6) (13+j*6+6) wr w6):=⟨f1,(Wr.of (Gr.refl wr).drew.below hI.out.1.blk.lt).trans f2⟩;clear f1 f2)
    have hfin:Hid (Nm w6 N (plusP P m0 w6.heap.size) id s' t' qs (j+1) (ofR s) (ofR t)∧Wr N 1 37 w w6∧Cls w6 Bm [.slice X L.length k,.slice Y M.length m]∧LvP (fun b=>w1.heap.size≤b∧b<wc.heap.size) w6 X k L∧LvP (fun b=>w1.heap.size≤b∧b<wc.heap.size) w6 Y m M):=by
     have hW:=hF.out.2
     have hsz:=hW.size
     have hwr:=hI.out.2.1.size
     have hm1:=hH.out.2.2.2.2.1
     have hlt:=hR.out.2.2.2.2.2.2.2.2
     have hs1:=hH.out.2.2.2.2.2.1.size
     have hle:=hI.out.1.le
     have hQ:¬(w1.heap.size≤N∧N<wc.heap.size):=fun h=>by omega
     refine ⟨hI.out.1.turned hjl (plusP.more (Nat.le_refl _) hsz) (plus_out hH.out.1.out hH.out.2.2.2.1) (fun b hb=> ?_) (hF.out.1.mono fun b hb=>plusP.two (show m0≤wr.heap.size by omega) hsz b hb) hW,hI.out.2.1.trans (hW.mono (by omega) (by omega)),hI.out.2.2.1.keep (hW.oth Bm hI.out.2.2.1.lt (by have:=hR.out.2.2.2.2.2.2.2.1;omega)),hI.out.2.2.2.1.agr (hW.agr hQ),hI.out.2.2.2.2.agr (hW.agr hQ)⟩
     rcases hb with hb|hb
     ·have:=hH.out.1.up b hb;omega
     ·exact hb.2
    clear hF hI hTn q0 q1
    go_wp2
    go_roundw
    case rel=>exact ⟨j+1,by omega,by go_num,hfin⟩
    case measure=>simp[intOf];omega
   ·have hjz:¬(j:Int)<(qs.length:Int):=by omega
    go_wp2
    go_end0
    exact ⟨rfl,hI.out.1.done (by omega),hI.out.2.1⟩
end Go.Proofs.YtkadjjmkokhldaaGreat

namespace Go.Proofs.YtkadjjmkokhldaaGreat
open Go.RowKit Go.Sort

/-- What an edit's error is, and what it makes. -/
def edE (t:Tab) (id k key col v:Int):Int:=if k=1 then putE t id key col v else if k=2 then delE t key else 1
def edT (t:Tab) (id k key col v:Int):Tab:=if k=1 then putT t id key col v else if k=2 then ⟨delC t key,[]⟩ else ⟨⟨0,0,0,0,[]⟩,[]⟩
/-- A table that is new. -/
structure TbW (n:Nat) (w:World) (t:Tab) (A:Option Addr) (ca:Nat) (D:Option Addr) (cd:Nat):Prop where
 row:Row w A t.c.l
 cel:RowC w D t.e
 nr:A=none→ca=0
 nc:D=none→cd=0
 newr:∀a,A=some a→n≤a.block
 newc:∀a,D=some a→n≤a.block
theorem TbW.below {n:Nat} {w w':World} {t:Tab} {A:Option Addr} {ca:Nat} {D:Option Addr} {cd:Nat} (h:TbW n w t A ca D cd) (k:Below w.heap.size w w'):TbW n w' t A ca D cd:=⟨h.row.below k,h.cel.below k,h.nr,h.nc,h.newr,h.newc⟩
theorem TbW.mono {n m:Nat} {w:World} {t:Tab} {A:Option Addr} {ca:Nat} {D:Option Addr} {cd:Nat} (h:TbW n w t A ca D cd) (k:m≤n):TbW m w t A ca D cd:=⟨h.row,h.cel,h.nr,h.nc,fun a ha=>Nat.le_trans k (h.newr a ha),fun a ha=>Nat.le_trans k (h.newc a ha)⟩
/-- Cells of a block that lies ahead are written. -/
theorem TbW.agr {n:Nat} {w w':World} {t:Tab} {A:Option Addr} {ca:Nat} {D:Option Addr} {cd:Nat} (h:TbW n w t A ca D cd) (k:Agr (fun b=>n≤b) w w'):TbW n w' t A ca D cd:=⟨h.row.agr (fun a ha _=>h.newr a ha) k,h.cel.agr (fun a ha _=>h.newc a ha) k,h.nr,h.nc,h.newr,h.newc⟩
theorem TbW.p {n:Nat} {w:World} {t:Tab} {A:Option Addr} {ca:Nat} {D:Option Addr} {cd:Nat} (h:TbW n w t A ca D cd) (e:errT t=0):TbP (fun b=>n≤b∧b<w.heap.size) w t A ca D cd :=
 ⟨h.row,h.cel,fun a ha hl=>⟨h.newr a ha,h.row.lt a ha hl⟩,fun a ha hl=>⟨h.newc a ha,h.cel.lt a ha hl⟩,h.nr,h.nc,e⟩
theorem set6_agr {P:Nat→Prop} {w:World} {B:Nat} (h:¬P B) (u0 u1 u2 u3 u4 u5:Value):Agr P w ((((((w.setCell ⟨B,0,none⟩ u0).setCell ⟨B,1,none⟩ u1).setCell ⟨B,2,none⟩ u2).setCell ⟨B,3,none⟩ u3).setCell ⟨B,4,none⟩ u4).setCell ⟨B,5,none⟩ u5) :=
 (((((Agr.set _ h).trans (Agr.set _ h)).trans (Agr.set _ h)).trans (Agr.set _ h)).trans (Agr.set _ h)).trans (Agr.set _ h)

set_option maxRecDepth 100000 in
set_option maxHeartbeats 4000000 in
theorem editOf_any (t:Tab) (A:Option Addr) (ca:Nat) (D:Option Addr) (cd:Nat) (id k x2 x3 x4 x5:Int) (w:World) (hl:t.c.l.length≤maxLen) (hel:t.e.length≤maxLen) (hr:Row w A t.c.l) (hd:RowC w D t.e) :
  Calls Tryz.prog 22 #[.agg #[.int .i64 t.c.c0,.int .i64 t.c.c1,.int .i64 t.c.c2,.int .i64 t.c.c3,.slice A t.c.l.length ca,.slice D t.e.length cd],.int .i64 id,.agg #[.int .i64 k,.int .i64 x2,.int .i64 x3,.int .i64 x4,.int .i64 x5]] w fun e w'=>∃(u:Tab) (C:Option Addr) (cp:Nat) (F:Option Addr) (cf:Nat),e= .returned (.tuple #[.agg #[.int .i64 u.c.c0,.int .i64 u.c.c1,.int .i64 u.c.c2,.int .i64 u.c.c3,.slice C u.c.l.length cp,.slice F u.e.length cf],.int .i64 (edE t id k x3 x4 x5)])∧u=edT t id k x3 x4 x5∧TbW w.heap.size w' u C cp F cf∧Below w.heap.size w w':=by
 obtain ⟨w1,hw1⟩:∃W,((w.alloc (.cells #[.int .i64 t.c.c0,.int .i64 t.c.c1,.int .i64 t.c.c2,.int .i64 t.c.c3,.slice A t.c.l.length ca,.slice D t.e.length cd] 37)).alloc (.cells #[.int .i64 k,.int .i64 x2,.int .i64 x3,.int .i64 x4,.int .i64 x5] 29)).alloc (.cells #[.int .i64 0,.int .i64 0,.int .i64 0,.int .i64 0,.slice none 0 0,.slice none 0 0] 37)=W:=⟨_,rfl⟩
 have hg1:Gr w w1:=by rw[←hw1];exact (((Gr.refl w).alloc _).alloc _).alloc _
 have hs1:w1.heap.size=w.heap.size+1+1+1:=by rw[←hw1];simp
 have hB0:Cls w1 w.heap.size [.int .i64 t.c.c0,.int .i64 t.c.c1,.int .i64 t.c.c2,.int .i64 t.c.c3,.slice A t.c.l.length ca,.slice D t.e.length cd]:=by rw[←hw1];exact (Cls.new w _ _).gr (((Gr.refl _).alloc _).alloc _)
 have hB1:Cls w1 (w.heap.size+1) [.int .i64 k,.int .i64 x2,.int .i64 x3,.int .i64 x4,.int .i64 x5]:=by
  rw[←hw1]
  have:=(Cls.new (w.alloc (.cells #[.int .i64 t.c.c0,.int .i64 t.c.c1,.int .i64 t.c.c2,.int .i64 t.c.c3,.slice A t.c.l.length ca,.slice D t.e.length cd] 37)) #[.int .i64 k,.int .i64 x2,.int .i64 x3,.int .i64 x4,.int .i64 x5] 29).gr ((Gr.refl _).alloc (.cells #[.int .i64 0,.int .i64 0,.int .i64 0,.int .i64 0,.slice none 0 0,.slice none 0 0] 37))
  rwa [show (w.alloc (.cells #[.int .i64 t.c.c0,.int .i64 t.c.c1,.int .i64 t.c.c2,.int .i64 t.c.c3,.slice A t.c.l.length ca,.slice D t.e.length cd] 37)).heap.size=w.heap.size+1 by simp] at this
 have hB2:Cls w1 (w.heap.size+1+1) [.int .i64 0,.int .i64 0,.int .i64 0,.int .i64 0,.slice none 0 0,.slice none 0 0]:=by
  rw[←hw1]
  have:=Cls.new ((w.alloc (.cells #[.int .i64 t.c.c0,.int .i64 t.c.c1,.int .i64 t.c.c2,.int .i64 t.c.c3,.slice A t.c.l.length ca,.slice D t.e.length cd] 37)).alloc (.cells #[.int .i64 k,.int .i64 x2,.int .i64 x3,.int .i64 x4,.int .i64 x5] 29)) #[.int .i64 0,.int .i64 0,.int .i64 0,.int .i64 0,.slice none 0 0,.slice none 0 0] 37
  rwa [show ((w.alloc (.cells #[.int .i64 t.c.c0,.int .i64 t.c.c1,.int .i64 t.c.c2,.int .i64 t.c.c3,.slice A t.c.l.length ca,.slice D t.e.length cd] 37)).alloc (.cells #[.int .i64 k,.int .i64 x2,.int .i64 x3,.int .i64 x4,.int .i64 x5] 29)).heap.size=w.heap.size+1+1 by simp] at this
 have a0:=hB0.cell (j:=0) rfl
 have a1:=hB0.cell (j:=1) rfl
 have a2:=hB0.cell (j:=2) rfl
 have a3:=hB0.cell (j:=3) rfl
 have a4:=hB0.cell (j:=4) rfl
 have a5:=hB0.cell (j:=5) rfl
 have b0:=hB1.cell (j:=0) rfl
 have b1:=hB1.cell (j:=1) rfl
 have b2:=hB1.cell (j:=2) rfl
 have b3:=hB1.cell (j:=3) rfl
 have b4:=hB1.cell (j:=4) rfl
 have hH:Hid (Gr w w1∧w1.heap.size=w.heap.size+1+1+1∧Cls w1 (w.heap.size+1+1) [.int .i64 0,.int .i64 0,.int .i64 0,.int .i64 0,.slice none 0 0,.slice none 0 0]):=⟨hg1,hs1,hB2⟩
 have hP:Hid (Row w1 A t.c.l∧RowC w1 D t.e∧t.c.l.length≤maxLen∧t.e.length≤maxLen):=⟨hr.gr hg1,hd.gr hg1,hl,hel⟩
 clear hg1 hs1 hB0 hB1 hB2 hr hd hl hel
 go_enter Tryz.func22,Tryz.ntmps22
 by_cases h1:k=1
 ·subst h1
  have hC0:=put_new t A ca D cd id x3 x4 x5 w1 hP.out.2.2.1 hP.out.2.2.2 hP.out.1 hP.out.2.1
  obtain ⟨u,hu⟩:∃u,putT t id x3 x4 x5=u:=⟨_,rfl⟩
  obtain ⟨E,hE⟩:∃E,putE t id x3 x4 x5=E:=⟨_,rfl⟩
  rw[hu,hE] at hC0
  have hC:Hid _:=hC0
  have hUE:Hid (putT t id x3 x4 x5=u∧putE t id x3 x4 x5=E):=⟨hu,hE⟩
  clear hC0 hu hE
  go_wp2_with fail
  refine Calls.mono (show Calls _ _ _ _ _ from hC.out) ?_
  rintro e w2 ⟨C,cp,F,cf,rfl,f1,f2,f3,f4,f5,f6,f7⟩
  have hF:Hid (TbW w1.heap.size w2 u C cp F cf∧Below w1.heap.size w1 w2):=⟨⟨f1,f2,f3,f4,f5,f6⟩,f7⟩
  have hR2:Hid (Cls w2 (w.heap.size+1+1) [.int .i64 0,.int .i64 0,.int .i64 0,.int .i64 0,.slice none 0 0,.slice none 0 0]):=hH.out.2.2.below f7
  clear f1 f2 f3 f4 f5 f6 f7 hC
  have p0:=hR2.out.cell (j:=0) rfl
  have p1:=hR2.out.cell (j:=1) rfl
  have p2:=hR2.out.cell (j:=2) rfl
  have p3:=hR2.out.cell (j:=3) rfl
  have p4:=hR2.out.cell (j:=4) rfl
  have p5:=hR2.out.cell (j:=5) rfl
  have z0:=hR2.out.fz 0
  have z1:=hR2.out.fz 1
  have z2:=hR2.out.fz 2
  have z3:=hR2.out.fz 3
  have z4:=hR2.out.fz 4
  have z5:=hR2.out.fz 5
  clear hw1
  go_wp2
  have hs1:=hH.out.2.1
  have hBw:Below w.heap.size w w2:=hH.out.1.below.trans (hF.out.2.mono hH.out.1.size)
  refine bodyPost_ret (v:= .tuple #[.agg #[.int .i64 u.c.c0,.int .i64 u.c.c1,.int .i64 u.c.c2,.int .i64 u.c.c3,.slice C u.c.l.length cp,.slice F u.e.length cf],.int .i64 E]) (by simp[results,Tryz.results22,go_sem,p0,p1,p2,p3,p4,p5]) rfl ⟨u,C,cp,F,cf,by unfold edE;rw[if_pos rfl,hUE.out.2],by unfold edT;rw[if_pos rfl,hUE.out.1],?_,below_set6 hBw (by omega) _ _ _ _ _ _⟩
  exact (hF.out.1.agr (set6_agr (fun h=>by omega) _ _ _ _ _ _)).mono (by omega)
 ·by_cases h2:k=2
  ·subst h2
   have hC0:=del_any t A ca D cd x3 w1 hP.out.2.2.1 hP.out.2.2.2 hP.out.1 hP.out.2.1
   obtain ⟨u,hu⟩:∃u,delC t x3=u:=⟨_,rfl⟩
   obtain ⟨E,hE⟩:∃E,delE t x3=E:=⟨_,rfl⟩
   rw[hu,hE] at hC0
   have hC:Hid _:=hC0
   have hUE:Hid (delC t x3=u∧delE t x3=E):=⟨hu,hE⟩
   clear hC0 hu hE h1
   go_wp2_with fail
   refine Calls.mono (show Calls _ _ _ _ _ from hC.out) ?_
   rintro e w2 ⟨C,cp,rfl,f1,f2,f3,f4⟩
   have hF:Hid (TbW w1.heap.size w2 ⟨u,[]⟩ C cp none 0∧Below w1.heap.size w1 w2):=⟨⟨f1,Or.inl rfl,f2,fun _=>rfl,f3,(fun a h=>by cases h)⟩,f4⟩
   have hR2:Hid (Cls w2 (w.heap.size+1+1) [.int .i64 0,.int .i64 0,.int .i64 0,.int .i64 0,.slice none 0 0,.slice none 0 0]):=hH.out.2.2.below f4
   clear f1 f2 f3 f4 hC
   have p0:=hR2.out.cell (j:=0) rfl
   have p1:=hR2.out.cell (j:=1) rfl
   have p2:=hR2.out.cell (j:=2) rfl
   have p3:=hR2.out.cell (j:=3) rfl
   have p4:=hR2.out.cell (j:=4) rfl
   have p5:=hR2.out.cell (j:=5) rfl
   have z0:=hR2.out.fz 0
   have z1:=hR2.out.fz 1
   have z2:=hR2.out.fz 2
   have z3:=hR2.out.fz 3
   have z4:=hR2.out.fz 4
   have z5:=hR2.out.fz 5
   clear hw1
   go_wp2
   have hs1:=hH.out.2.1
   have hBw:Below w.heap.size w w2:=hH.out.1.below.trans (hF.out.2.mono hH.out.1.size)
   refine bodyPost_ret (v:= .tuple #[.agg #[.int .i64 u.c0,.int .i64 u.c1,.int .i64 u.c2,.int .i64 u.c3,.slice C u.l.length cp,.slice none 0 0],.int .i64 E]) (by simp[results,Tryz.results22,go_sem,p0,p1,p2,p3,p4,p5]) rfl ⟨⟨u,[]⟩,C,cp,none,0,by unfold edE;rw[if_neg (by decide),if_pos rfl,hUE.out.2];rfl,by unfold edT;rw[if_neg (by decide),if_pos rfl,hUE.out.1],?_,below_set6 hBw (by omega) _ _ _ _ _ _⟩
   exact (hF.out.1.agr (set6_agr (fun h=>by omega) _ _ _ _ _ _)).mono (by omega)
  ·have hk1:(k==1)=false:=by simpa using h1
   have hk2:(k==2)=false:=by simpa using h2
   have hR2:Hid (Cls w1 (w.heap.size+1+1) [.int .i64 0,.int .i64 0,.int .i64 0,.int .i64 0,.slice none 0 0,.slice none 0 0]):=hH.out.2.2
   have hfin:Hid (edE t id k x3 x4 x5=1∧edT t id k x3 x4 x5=⟨⟨0,0,0,0,[]⟩,[]⟩):=⟨by unfold edE;rw[if_neg h1,if_neg h2],by unfold edT;rw[if_neg h1,if_neg h2]⟩
   have p0:=hR2.out.cell (j:=0) rfl
   have p1:=hR2.out.cell (j:=1) rfl
   have p2:=hR2.out.cell (j:=2) rfl
   have p3:=hR2.out.cell (j:=3) rfl
   have p4:=hR2.out.cell (j:=4) rfl
   have p5:=hR2.out.cell (j:=5) rfl
   have z0:=hR2.out.fz 0
   have z1:=hR2.out.fz 1
   have z2:=hR2.out.fz 2
   have z3:=hR2.out.fz 3
   have z4:=hR2.out.fz 4
   have z5:=hR2.out.fz 5
   clear h1 h2
   go_wp2
   clear hw1
   have hs1:=hH.out.2.1
   refine bodyPost_ret (v:= .tuple #[.agg #[.int .i64 0,.int .i64 0,.int .i64 0,.int .i64 0,.slice none 0 0,.slice none 0 0],.int .i64 1]) (by simp[results,Tryz.results22,go_sem,p0,p1,p2,p3,p4,p5]) rfl ⟨⟨⟨0,0,0,0,[]⟩,[]⟩,none,0,none,0,by rw[hfin.out.1];rfl,hfin.out.2.symm,⟨Or.inl rfl,Or.inl rfl,fun _=>rfl,fun _=>rfl,(fun a h=>by cases h),(fun a h=>by cases h)⟩,below_set6 hH.out.1.below (by omega) _ _ _ _ _ _⟩
end Go.Proofs.YtkadjjmkokhldaaGreat
