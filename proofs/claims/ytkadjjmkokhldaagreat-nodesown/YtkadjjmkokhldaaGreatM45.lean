/-
  The first edits of a new node.
  (*Node).Take: a packet comes to a node.
  slices.Clone at cells and at dots; node.copyContext.
-/
import Derived.Test.YtkadjjmkokhldaaGreatM41
import Derived.Test.YtkadjjmkokhldaaGreatM44
import Derived.Test.YtkadjjmkokhldaaGreatM43
import Derived.Deep.CutRange
import Derived.Test.YtkadjjmkokhldaaGreatM33
import Derived.Shelf.Slices.Clone
namespace Go.Proofs.YtkadjjmkokhldaaGreat
open Go.RowKit Go.Sort

def twoT:Tab:=⟨⟨0,0,1,0,[]⟩,[((2,1),1,0,0)]⟩
theorem gk1:makeC [(2,1)]=⟨0,0,1,0,[]⟩:=by unfold makeC foldS;rw[srt_one];rfl
theorem gj1:joinE zeroC ⟨0,0,1,0,[]⟩=0:=by unfold joinE zeroC;rw[jf];rfl
theorem gc1:joinC zeroC ⟨0,0,1,0,[]⟩=⟨0,0,1,0,[]⟩:=by unfold joinC;rw[gj1,if_pos rfl];unfold zeroC;rw[jf];rfl
theorem gp1E:putE noneT 2 1 0 0=0:=by
 unfold putE
 rw[show dotsOf (fitP 1 0) noneT.e=[] from rfl,show (nextA noneT.c 2).1=(2,1) from rfl,mk0,gk1,gj1]
 rfl
theorem gp1T:putT noneT 2 1 0 0=twoT:=by
 unfold putT
 rw[gp1E,if_pos rfl,show dotsOf (fitP 1 0) noneT.e=[] from rfl,show (nextA noneT.c 2).1=(2,1) from rfl,mk0,gk1,gc1]
 rfl
theorem gb1:mrg noneT twoT=[((2,1),1,0,0)]:=by
 unfold mrg
 rw[show both noneT twoT=[((2,1),1,0,0)] from rfl,srtC_one]
theorem gm1E:mergeE noneT twoT=0:=by
 unfold mergeE
 rw[gb1,show joinE noneT.c twoT.c=0 from gj1]
 rfl
theorem gm1T:mergeT noneT twoT=twoT:=by
 unfold mergeT
 rw[gm1E,if_pos rfl,gb1,show joinC noneT.c twoT.c=⟨0,0,1,0,[]⟩ from gc1]
 rfl
theorem gdE:doE noneT 2 1 1 0 0=0:=by
 unfold doE edE edT
 rw[if_pos rfl,if_pos rfl,gp1E,if_pos rfl,gp1T,gm1E]
theorem first_two:ndE noneT noneT 2 1 0 1 0 0=0∧ndS noneT 2 1 0 1 0 0=twoT∧ndT noneT 2 1 0 1 0 0=noneT:=by
 refine ⟨by unfold ndE;rw[if_pos rfl,gdE],?_,by unfold ndT;rw[if_neg (by decide)]⟩
 unfold ndS doT
 rw[if_pos rfl,gdE,if_pos rfl]
 unfold edT
 rw[if_pos rfl,gp1T,gm1T]

end Go.Proofs.YtkadjjmkokhldaaGreat

namespace Go.Proofs.YtkadjjmkokhldaaGreat
open Go.RowKit Go.Sort

/-- What a packet's error is. -/
def tkE (s t a b:Tab):Int:=if mergeE s a=0 then mergeE t b else mergeE s a
def tkS (s t a b:Tab):Tab:=if tkE s t a b=0 then mergeT s a else s
def tkT (s t a b:Tab):Tab:=if tkE s t a b=0 then mergeT t b else t
/-- What the region leaves: a new table in a block of its own. -/
def TbR (w1 wx:World) (Bm:Nat) (u:Tab):Prop:=∃(E:Option Addr) (ce:Nat) (F:Option Addr) (cf:Nat),Cls wx Bm [.int .i64 u.c.c0,.int .i64 u.c.c1,.int .i64 u.c.c2,.int .i64 u.c.c3,.slice E u.c.l.length ce,.slice F u.e.length cf]∧TbW w1.heap.size wx u E ce F cf∧Below w1.heap.size w1 wx∧w1.heap.size≤Bm
theorem tb_early {w1 w2:World} {u:Tab} {E:Option Addr} {ce:Nat} {F:Option Addr} {cf:Nat} (hB:Cls w2 w1.heap.size [.int .i64 0,.int .i64 0,.int .i64 0,.int .i64 0,.slice none 0 0,.slice none 0 0]) (hT:TbW (w1.heap.size+1) w2 u E ce F cf) (hb:Below w1.heap.size w1 w2) :
  TbR w1 ((((((w2.setCell ⟨w1.heap.size,0,none⟩ (.int .i64 u.c.c0)).setCell ⟨w1.heap.size,1,none⟩ (.int .i64 u.c.c1)).setCell ⟨w1.heap.size,2,none⟩ (.int .i64 u.c.c2)).setCell ⟨w1.heap.size,3,none⟩ (.int .i64 u.c.c3)).setCell ⟨w1.heap.size,4,none⟩ (.slice E u.c.l.length ce)).setCell ⟨w1.heap.size,5,none⟩ (.slice F u.e.length cf)) w1.heap.size u :=
 ⟨E,ce,F,cf,(((((hB.put 0 _).put 1 _).put 2 _).put 3 _).put 4 _).put 5 _,(hT.agr (set6_agr (fun h=>by omega) _ _ _ _ _ _)).mono (by omega),below_set6 hb (Nat.le_refl _) _ _ _ _ _ _,Nat.le_refl _⟩
theorem tb_late {w1 w2:World} {u:Tab} {E:Option Addr} {ce:Nat} {F:Option Addr} {cf:Nat} {T:TypeId} (hT:TbW w1.heap.size w2 u E ce F cf) (hb:Below w1.heap.size w1 w2) :
  TbR w1 (w2.alloc (.cells #[.int .i64 u.c.c0,.int .i64 u.c.c1,.int .i64 u.c.c2,.int .i64 u.c.c3,.slice E u.c.l.length ce,.slice F u.e.length cf] T)) w2.heap.size u :=
 ⟨E,ce,F,cf,Cls.new w2 _ T,hT.below ((Gr.refl w2).alloc _).below,hb.alloc hb.size _,hb.size⟩

set_option maxRecDepth 100000 in
set_option maxHeartbeats 8000000 in
theorem take_any {w:World} {N:Nat} {P:Nat→Prop} {id:Int} {s t:Tab} {qs:List (List Stp)} (h:Nd w N P id s t qs) (a b:Tab) (PA PB PC PD:Option Addr) (pca pcb pcc pcd:Nat) (ra:Row w PA a.c.l) (rc:RowC w PC a.e) (rb:Row w PB b.c.l) (rd:RowC w PD b.e) (la:a.c.l.length≤maxLen) (lc:a.e.length≤maxLen) (lb:b.c.l.length≤maxLen) (ld:b.e.length≤maxLen) (na:PA=none→pca=0) (nb:PB=none→pcb=0) :
  Calls Tryz.prog 12 #[.pointer (some ⟨N,0,none⟩),.agg #[.int .i64 a.c.c0,.int .i64 a.c.c1,.int .i64 a.c.c2,.int .i64 a.c.c3,.slice PA a.c.l.length pca,.slice PC a.e.length pcc,.int .i64 b.c.c0,.int .i64 b.c.c1,.int .i64 b.c.c2,.int .i64 b.c.c3,.slice PB b.c.l.length pcb,.slice PD b.e.length pcd]] w fun e w'=>e= .returned (.int .i64 (tkE s t a b))∧Nd w' N (plusP P w.heap.size w'.heap.size) id (tkS s t a b) (tkT s t a b) qs∧Wr N 1 37 w w':=by
 have mixed:Tryz.prog.follows .mixedOrders=true:=by kernel_rfl
 have hx0:=idxT0 (.int .i64 a.c.c0) (.int .i64 a.c.c1) (.int .i64 a.c.c2) (.int .i64 a.c.c3) (.slice PA a.c.l.length pca) (.slice PC a.e.length pcc) (.int .i64 b.c.c0) (.int .i64 b.c.c1) (.int .i64 b.c.c2) (.int .i64 b.c.c3) (.slice PB b.c.l.length pcb) (.slice PD b.e.length pcd)
 have hx1:=idxT1 (.int .i64 a.c.c0) (.int .i64 a.c.c1) (.int .i64 a.c.c2) (.int .i64 a.c.c3) (.slice PA a.c.l.length pca) (.slice PC a.e.length pcc) (.int .i64 b.c.c0) (.int .i64 b.c.c1) (.int .i64 b.c.c2) (.int .i64 b.c.c3) (.slice PB b.c.l.length pcb) (.slice PD b.e.length pcd)
 obtain ⟨A,ca,C,cc,hcs,hts⟩:=h.ts
 obtain ⟨B,cb,D,cd,hct,htt⟩:=h.tt
 have hPk:Hid (Row w PA a.c.l∧RowC w PC a.e∧Row w PB b.c.l∧RowC w PD b.e∧a.c.l.length≤maxLen∧a.e.length≤maxLen∧b.c.l.length≤maxLen∧b.e.length≤maxLen∧(PA=none→pca=0)∧(PB=none→pcb=0)):=⟨ra,rc,rb,rd,la,lc,lb,ld,na,nb⟩
 have hH:Hid (Nd w N P id s t qs∧TbP P w s A ca C cc∧TbP P w t B cb D cd∧TbC w N 1 s A ca C cc∧TbC w N 7 t B cb D cd):=⟨h,hts,htt,hcs,hct⟩
 clear h hts htt hcs hct ra rc rb rd la lc lb ld na nb
 go_enter Tryz.func12,Tryz.ntmps12
 go_wp2
 obtain ⟨w1,hw1⟩:∃W,(w.alloc (.cells #[.int .i64 a.c.c0,.int .i64 a.c.c1,.int .i64 a.c.c2,.int .i64 a.c.c3,.slice PA a.c.l.length pca,.slice PC a.e.length pcc,.int .i64 b.c.c0,.int .i64 b.c.c1,.int .i64 b.c.c2,.int .i64 b.c.c3,.slice PB b.c.l.length pcb,.slice PD b.e.length pcd] 40)).alloc (.cells #[.int .i64 0,.int .i64 0,.int .i64 0,.int .i64 0,.slice none 0 0,.slice none 0 0,.int .i64 0,.int .i64 0,.int .i64 0,.int .i64 0,.slice none 0 0,.slice none 0 0] 38)=W:=⟨_,rfl⟩
 rw[hw1]
 have hI:Hid (Below w.heap.size w w1∧Cls w1 (w.heap.size+1) [.int .i64 0,.int .i64 0,.int .i64 0,.int .i64 0,.slice none 0 0,.slice none 0 0,.int .i64 0,.int .i64 0,.int .i64 0,.int .i64 0,.slice none 0 0,.slice none 0 0]):=by
  refine ⟨by rw[←hw1];exact (((Gr.refl w).alloc _).alloc _).below,?_⟩
  have:=Cls.new (w.alloc (.cells #[.int .i64 a.c.c0,.int .i64 a.c.c1,.int .i64 a.c.c2,.int .i64 a.c.c3,.slice PA a.c.l.length pca,.slice PC a.e.length pcc,.int .i64 b.c.c0,.int .i64 b.c.c1,.int .i64 b.c.c2,.int .i64 b.c.c3,.slice PB b.c.l.length pcb,.slice PD b.e.length pcd] 40)) #[.int .i64 0,.int .i64 0,.int .i64 0,.int .i64 0,.slice none 0 0,.slice none 0 0,.int .i64 0,.int .i64 0,.int .i64 0,.int .i64 0,.slice none 0 0,.slice none 0 0] 38
  rw[hw1,show (w.alloc (.cells #[.int .i64 a.c.c0,.int .i64 a.c.c1,.int .i64 a.c.c2,.int .i64 a.c.c3,.slice PA a.c.l.length pca,.slice PC a.e.length pcc,.int .i64 b.c.c0,.int .i64 b.c.c1,.int .i64 b.c.c2,.int .i64 b.c.c3,.slice PB b.c.l.length pcb,.slice PD b.e.length pcd] 40)).heap.size=w.heap.size+1 by simp] at this
  exact this
 clear hw1
 have hw1l:Hid (w.heap.size+1<w1.heap.size):=hI.out.2.lt
 refine wp_loop_rounds 3 ?_
 rw[rounds_succ]
 go_upto_region 5 with fail
 obtain ⟨wb0,hwb⟩:∃W,w1.alloc (.cells #[.int .i64 a.c.c0,.int .i64 a.c.c1,.int .i64 a.c.c2,.int .i64 a.c.c3,.slice PA a.c.l.length pca,.slice PC a.e.length pcc] 37)=W:=⟨_,rfl⟩
 rw[hwb]
 have hA:Hid (Gr w1 wb0∧Below w.heap.size w wb0∧Cls wb0 w1.heap.size [.int .i64 a.c.c0,.int .i64 a.c.c1,.int .i64 a.c.c2,.int .i64 a.c.c3,.slice PA a.c.l.length pca,.slice PC a.e.length pcc]∧Cls wb0 (w.heap.size+1) [.int .i64 0,.int .i64 0,.int .i64 0,.int .i64 0,.slice none 0 0,.slice none 0 0,.int .i64 0,.int .i64 0,.int .i64 0,.int .i64 0,.slice none 0 0,.slice none 0 0]∧N<wb0.heap.size∧TbC wb0 N 1 s A ca C cc∧TbC wb0 N 7 t B cb D cd):=by
  have hg:Gr w1 wb0:=by rw[←hwb];exact (Gr.refl _).alloc _
  have hb:=hI.out.1.trans (hg.below.mono hI.out.1.size)
  have hlt:=hH.out.1.blk.lt
  exact ⟨hg,hb,by rw[←hwb];exact Cls.new w1 _ _,hI.out.2.gr hg,Nat.lt_of_lt_of_le hlt hb.size,hH.out.2.2.2.1.keep fun j _ _=>hb.cell (p:=⟨N,j,none⟩) hlt,hH.out.2.2.2.2.keep fun j _ _=>hb.cell (p:=⟨N,j,none⟩) hlt⟩
 clear hwb
 obtain ⟨ME0,hME⟩:∃E,mergeE s a=E:=⟨_,rfl⟩
 obtain ⟨MT0,hMT⟩:∃E,mergeT s a=E:=⟨_,rfl⟩
 have hME0:Hid (mergeE s a=ME0∧mergeT s a=MT0):=⟨hME,hMT⟩
 have hM:Hid (∀W,Below wb0.heap.size wb0 W→Calls Tryz.prog 23 #[.agg #[.int .i64 s.c.c0,.int .i64 s.c.c1,.int .i64 s.c.c2,.int .i64 s.c.c3,.slice A s.c.l.length ca,.slice C s.e.length cc],.agg #[.int .i64 a.c.c0,.int .i64 a.c.c1,.int .i64 a.c.c2,.int .i64 a.c.c3,.slice PA a.c.l.length pca,.slice PC a.e.length pcc]] W fun e w'=>∃E ce F cf,e= .returned (.tuple #[.agg #[.int .i64 MT0.c.c0,.int .i64 MT0.c.c1,.int .i64 MT0.c.c2,.int .i64 MT0.c.c3,.slice E MT0.c.l.length ce,.slice F MT0.e.length cf],.int .i64 ME0])∧TbW W.heap.size w' MT0 E ce F cf∧Below W.heap.size W w'):=fun W hW=>by
  have hb:=hA.out.2.1.trans (hW.mono hA.out.2.1.size)
  have hr5:=hH.out.2.1.below hb
  have hm:=merge_new s a A PA C PC ca pca cc pcc W hr5.len.1 hPk.out.2.2.2.2.1 hr5.len.2 hPk.out.2.2.2.2.2.1 hr5.nr hPk.out.2.2.2.2.2.2.2.2.1 (hr5.row) (hPk.out.1.below hb) (hr5.cel) (hPk.out.2.1.below hb)
  rw[hME,hMT] at hm
  refine hm.mono ?_
  rintro e w' ⟨E,ce,F,cf,rfl,f1,f2,f3,f4,f5,f6,f7⟩
  exact ⟨E,ce,F,cf,rfl,⟨f1,f2,f3,f4,f5,f6⟩,f7⟩
 clear hME hMT
 go_cut [8,9,12] from 12 to 33 (fun v8 v9 v12 wx=>v9= .int .i64 ME0∧v12= .int .i64 0∧∃Bm:Nat,v8= .pointer (some ⟨Bm,0,none⟩)∧TbR wb0 wx Bm MT0)
 case first =>
  have hD0:Hid (Below wb0.heap.size wb0 wb0.drew):=(Gr.refl wb0).drew.below
  have hD1:Hid (Below wb0.heap.size wb0 (wb0.alloc (.cells #[.int .i64 0,.int .i64 0,.int .i64 0,.int .i64 0,.slice none 0 0,.slice none 0 0] 37)).drew):=((Gr.refl wb0).alloc _).drew.below
  have hle0:Hid (wb0.heap.size≤wb0.drew.heap.size):=Nat.le_refl _
  have hle1:Hid (wb0.heap.size+1≤(wb0.alloc (.cells #[.int .i64 0,.int .i64 0,.int .i64 0,.int .i64 0,.slice none 0 0,.slice none 0 0] 37)).drew.heap.size):=by show _≤(wb0.alloc _).heap.size;simp
  have hKeep:Hid (∀W,Below wb0.heap.size wb0 W→(fun w'=>w'.cell? ⟨w1.heap.size,0,none⟩=some (.int .i64 a.c.c0)∧w'.cell? ⟨w1.heap.size,1,none⟩=some (.int .i64 a.c.c1)∧w'.cell? ⟨w1.heap.size,2,none⟩=some (.int .i64 a.c.c2)∧w'.cell? ⟨w1.heap.size,3,none⟩=some (.int .i64 a.c.c3)∧w'.cell? ⟨w1.heap.size,4,none⟩=some (.slice PA a.c.l.length pca)∧w'.cell? ⟨w1.heap.size,5,none⟩=some (.slice PC a.e.length pcc)∧w'.cell? ⟨N,1,none⟩=some (.int .i64 s.c.c0)∧w'.cell? ⟨N,2,none⟩=some (.int .i64 s.c.c1)∧w'.cell? ⟨N,3,none⟩=some (.int .i64 s.c.c2)∧w'.cell? ⟨N,4,none⟩=some (.int .i64 s.c.c3)∧w'.cell? ⟨N,5,none⟩=some (.slice A s.c.l.length ca)∧w'.cell? ⟨N,6,none⟩=some (.slice C s.e.length cc)) W):=fun W hW=>⟨(hA.out.2.2.1.below hW).cell (j:=0) rfl,(hA.out.2.2.1.below hW).cell (j:=1) rfl,(hA.out.2.2.1.below hW).cell (j:=2) rfl,(hA.out.2.2.1.below hW).cell (j:=3) rfl,(hA.out.2.2.1.below hW).cell (j:=4) rfl,(hA.out.2.2.1.below hW).cell (j:=5) rfl,(hW.cell (p:=⟨N,1,none⟩) hA.out.2.2.2.2.1).trans hA.out.2.2.2.2.2.1.k0,(hW.cell (p:=⟨N,2,none⟩) hA.out.2.2.2.2.1).trans hA.out.2.2.2.2.2.1.k1,(hW.cell (p:=⟨N,3,none⟩) hA.out.2.2.2.2.1).trans hA.out.2.2.2.2.2.1.k2,(hW.cell (p:=⟨N,4,none⟩) hA.out.2.2.2.2.1).trans hA.out.2.2.2.2.2.1.k3,(hW.cell (p:=⟨N,5,none⟩) hA.out.2.2.2.2.1).trans hA.out.2.2.2.2.2.1.k4,(hW.cell (p:=⟨N,6,none⟩) hA.out.2.2.2.2.1).trans hA.out.2.2.2.2.2.1.k5⟩
  refine wp_region_noPanic ?_
  refine wp_region_held_drew (S:=(fun w'=>w'.cell? ⟨w1.heap.size,0,none⟩=some (.int .i64 a.c.c0)∧w'.cell? ⟨w1.heap.size,1,none⟩=some (.int .i64 a.c.c1)∧w'.cell? ⟨w1.heap.size,2,none⟩=some (.int .i64 a.c.c2)∧w'.cell? ⟨w1.heap.size,3,none⟩=some (.int .i64 a.c.c3)∧w'.cell? ⟨w1.heap.size,4,none⟩=some (.slice PA a.c.l.length pca)∧w'.cell? ⟨w1.heap.size,5,none⟩=some (.slice PC a.e.length pcc)∧w'.cell? ⟨N,1,none⟩=some (.int .i64 s.c.c0)∧w'.cell? ⟨N,2,none⟩=some (.int .i64 s.c.c1)∧w'.cell? ⟨N,3,none⟩=some (.int .i64 s.c.c2)∧w'.cell? ⟨N,4,none⟩=some (.int .i64 s.c.c3)∧w'.cell? ⟨N,5,none⟩=some (.slice A s.c.l.length ca)∧w'.cell? ⟨N,6,none⟩=some (.slice C s.e.length cc))) (by kernel_rfl) (hKeep.out _ hD0.out) (fun hHeld=> ?_)
  refine wpAnyH_take (i:=0) (oi:= ?ois01) (v:= ?vs01) ?hops01 ?hss01 ?hfs01 ?hrs01 ?hQs01 ?hys01 (by assumption) ?rests01
  case hops01=>(simp only[List.getElem?_toArray,List.getElem?_cons_zero];rfl)
  case hss01=>kernel_rfl
  case hfs01=>kernel_rfl
  case hrs01=>kernel_rfl
  case hQs01=>exact fun _ _ _ h=>h
  case hys01=>(refine Or.inl ⟨by rfl,?_⟩;intro w hSw;(try dsimp only at hSw);go_simp<;>with_reducible rfl)
  try simp only[Act.put,List.setIfInBounds_toArray,List.set_cons_zero,List.set_cons_succ]
  refine wpAnyH_take (i:=1) (oi:= ?ois02) (v:= ?vs02) ?hops02 ?hss02 ?hfs02 ?hrs02 ?hQs02 ?hys02 (by assumption) ?rests02
  case hops02=>(simp only[List.getElem?_toArray,List.getElem?_cons_zero,List.getElem?_cons_succ];rfl)
  case hss02=>kernel_rfl
  case hfs02=>kernel_rfl
  case hrs02=>kernel_rfl
  case hQs02=>exact fun _ _ _ h=>h
  case hys02=>(refine Or.inl ⟨by rfl,?_⟩;intro w hSw;(try dsimp only at hSw);go_simp<;>with_reducible rfl)
  try simp only[Act.put,List.setIfInBounds_toArray,List.set_cons_zero,List.set_cons_succ]
  refine wpAnyH_take (i:=2) (oi:= ?ois03) (v:= ?vs03) ?hops03 ?hss03 ?hfs03 ?hrs03 ?hQs03 ?hys03 (by assumption) ?rests03
  case hops03=>(simp only[List.getElem?_toArray,List.getElem?_cons_zero,List.getElem?_cons_succ];rfl)
  case hss03=>kernel_rfl
  case hfs03=>kernel_rfl
  case hrs03=>kernel_rfl
  case hQs03=>exact fun _ _ _ h=>h
  case hys03=>(refine Or.inl ⟨by rfl,?_⟩;intro w hSw;(try dsimp only at hSw);go_simp<;>with_reducible rfl)
  try simp only[Act.put,List.setIfInBounds_toArray,List.set_cons_zero,List.set_cons_succ]
  refine wpAnyH_take (i:=3) (oi:= ?ois04) (v:= ?vs04) ?hops04 ?hss04 ?hfs04 ?hrs04 ?hQs04 ?hys04 (by assumption) ?rests04
  case hops04=>(simp only[List.getElem?_toArray,List.getElem?_cons_zero,List.getElem?_cons_succ];rfl)
  case hss04=>kernel_rfl
  case hfs04=>kernel_rfl
  case hrs04=>kernel_rfl
  case hQs04=>exact fun _ _ _ h=>h
  case hys04=>(refine Or.inl ⟨by rfl,?_⟩;intro w hSw;(try dsimp only at hSw);go_simp<;>with_reducible rfl)
  try simp only[Act.put,List.setIfInBounds_toArray,List.set_cons_zero,List.set_cons_succ]
  refine wpAnyH_take (i:=4) (oi:= ?ois05) (v:= ?vs05) ?hops05 ?hss05 ?hfs05 ?hrs05 ?hQs05 ?hys05 (by assumption) ?rests05
  case hops05=>(simp only[List.getElem?_toArray,List.getElem?_cons_zero,List.getElem?_cons_succ];rfl)
  case hss05=>kernel_rfl
  case hfs05=>kernel_rfl
  case hrs05=>kernel_rfl
  case hQs05=>exact fun _ _ _ h=>h
  case hys05=>(refine Or.inl ⟨by rfl,?_⟩;intro w hSw;(try dsimp only at hSw);go_simp<;>with_reducible rfl)
  try simp only[Act.put,List.setIfInBounds_toArray,List.set_cons_zero,List.set_cons_succ]
  refine wpAnyH_take (i:=5) (oi:= ?ois06) (v:= ?vs06) ?hops06 ?hss06 ?hfs06 ?hrs06 ?hQs06 ?hys06 (by assumption) ?rests06
  case hops06=>(simp only[List.getElem?_toArray,List.getElem?_cons_zero,List.getElem?_cons_succ];rfl)
  case hss06=>kernel_rfl
  case hfs06=>kernel_rfl
  case hrs06=>kernel_rfl
  case hQs06=>exact fun _ _ _ h=>h
  case hys06=>(refine Or.inl ⟨by rfl,?_⟩;intro w hSw;(try dsimp only at hSw);go_simp<;>with_reducible rfl)
  try simp only[Act.put,List.setIfInBounds_toArray,List.set_cons_zero,List.set_cons_succ]
  refine wpAnyH_take (i:=6) (oi:= ?ois07) (v:= ?vs07) ?hops07 ?hss07 ?hfs07 ?hrs07 ?hQs07 ?hys07 (by assumption) ?rests07
  case hops07=>(simp only[List.getElem?_toArray,List.getElem?_cons_zero,List.getElem?_cons_succ];rfl)
  case hss07=>kernel_rfl
  case hfs07=>kernel_rfl
  case hrs07=>kernel_rfl
  case hQs07=>exact fun _ _ _ h=>h
  case hys07=>(refine Or.inl ⟨by rfl,?_⟩;intro w hSw;(try dsimp only at hSw);go_simp<;>with_reducible rfl)
  try simp only[Act.put,List.setIfInBounds_toArray,List.set_cons_zero,List.set_cons_succ]
  refine wpAnyH_ready (rs:=[7,11]) (by kernel_rfl) (by simp) ?_
  refine AllReadyH.cons (o:= ?ois08) ?hops08 (fun K hK=> ?steps08) ?mores08
  case hops08=>(simp only[List.getElem?_toArray,List.getElem?_cons_zero,List.getElem?_cons_succ];rfl)
  case mores08 =>
   refine AllReadyH.cons (o:= ?ois09) ?hops09 (fun K hK=> ?steps09) ?mores09
   case hops09=>(simp only[List.getElem?_toArray,List.getElem?_cons_zero,List.getElem?_cons_succ];rfl)
   case mores09=>exact AllReadyH.nil
   go_simp
   refine hK.out _ _ ?_ (fun hHeld=> ?_)
   ·(try dsimp only);exact hKeep.out _ (by first|with_reducible exact hD0.out|with_reducible exact hD1.out|with_reducible exact hF.out|with_reducible exact hF.out.alloc hF.out.size _|exact below_set6 hF.out (Nat.le_refl _) _ _ _ _ _ _)
   clear hK K
   try simp only[Act.put,List.setIfInBounds_toArray,List.set_cons_zero,List.set_cons_succ]
   refine wpAnyH_ready (rs:=[7]) (by kernel_rfl) (by simp) ?_
   refine AllReadyH.cons (o:= ?ois010) ?hops010 (fun K hK=> ?steps010) ?mores010
   case hops010=>(simp only[List.getElem?_toArray,List.getElem?_cons_zero,List.getElem?_cons_succ];rfl)
   case mores010=>exact AllReadyH.nil
   go_simp
   (go_at_call 23;(with_reducible refine Calls.mono (hM.out _ (by first|with_reducible exact hD0.out|with_reducible exact hD1.out)) ?_);rintro e w2 ⟨E,ce,F,cf,rfl,f2,f3⟩;have hF:Hid (Below wb0.heap.size wb0 w2):=(by first|exact hD0.out.trans (f3.mono hD0.out.size)|exact hD1.out.trans (f3.mono hD1.out.size));have hT2:Hid _:=f2;(first|(have hB2:Hid (Cls w2 wb0.heap.size [.int .i64 0,.int .i64 0,.int .i64 0,.int .i64 0,.slice none 0 0,.slice none 0 0]):=((Cls.new wb0 #[.int .i64 0,.int .i64 0,.int .i64 0,.int .i64 0,.slice none 0 0,.slice none 0 0] 37).gr (Gr.refl _).drew).below f3)|skip);clear f2 f3;(first|(have p0:=hB2.out.cell (j:=0) rfl;have z0:=hB2.out.fz 0;have p1:=hB2.out.cell (j:=1) rfl;have z1:=hB2.out.fz 1;have p2:=hB2.out.cell (j:=2) rfl;have z2:=hB2.out.fz 2;have p3:=hB2.out.cell (j:=3) rfl;have z3:=hB2.out.fz 3;have p4:=hB2.out.cell (j:=4) rfl;have z4:=hB2.out.fz 4;have p5:=hB2.out.cell (j:=5) rfl;have z5:=hB2.out.fz 5)|skip))
   first|(go_wp2_with fail)|skip
   refine hK.out _ _ ?_ (fun hHeld=> ?_)
   ·(try dsimp only);exact hKeep.out _ (by first|with_reducible exact hD0.out|with_reducible exact hD1.out|with_reducible exact hF.out|with_reducible exact hF.out.alloc hF.out.size _|exact below_set6 hF.out (Nat.le_refl _) _ _ _ _ _ _)
   clear hK K
   try simp only[Act.put,List.setIfInBounds_toArray,List.set_cons_zero,List.set_cons_succ]
   refine wpAnyH_take (i:=8) (oi:= ?ois011) (v:= ?vs011) ?hops011 ?hss011 ?hfs011 ?hrs011 ?hQs011 ?hys011 (by assumption) ?rests011
   case hops011=>(simp only[List.getElem?_toArray,List.getElem?_cons_zero,List.getElem?_cons_succ];rfl)
   case hss011=>kernel_rfl
   case hfs011=>kernel_rfl
   case hrs011=>kernel_rfl
   case hQs011=>exact fun _ _ _ h=>h
   case hys011=>(refine Or.inl ⟨by rfl,?_⟩;intro w hSw;(try dsimp only at hSw);go_simp<;>with_reducible rfl)
   try simp only[Act.put,List.setIfInBounds_toArray,List.set_cons_zero,List.set_cons_succ]
   refine wpAnyH_take (i:=9) (oi:= ?ois012) (v:= ?vs012) ?hops012 ?hss012 ?hfs012 ?hrs012 ?hQs012 ?hys012 (by assumption) ?rests012
   case hops012=>(simp only[List.getElem?_toArray,List.getElem?_cons_zero,List.getElem?_cons_succ];rfl)
   case hss012=>kernel_rfl
   case hfs012=>kernel_rfl
   case hrs012=>kernel_rfl
   case hQs012=>exact fun _ _ _ h=>h
   case hys012=>(refine Or.inl ⟨by rfl,?_⟩;intro w hSw;(try dsimp only at hSw);go_simp<;>with_reducible rfl)
   try simp only[Act.put,List.setIfInBounds_toArray,List.set_cons_zero,List.set_cons_succ]
   refine wpAnyH_take (i:=10) (oi:= ?ois013) (v:= ?vs013) ?hops013 ?hss013 ?hfs013 ?hrs013 ?hQs013 ?hys013 (by assumption) ?rests013
   case hops013=>(simp only[List.getElem?_toArray,List.getElem?_cons_zero,List.getElem?_cons_succ];rfl)
   case hss013=>kernel_rfl
   case hfs013=>kernel_rfl
   case hrs013=>kernel_rfl
   case hQs013=>exact fun _ _ _ h=>h
   case hys013=>(refine Or.inl ⟨by rfl,?_⟩;intro w hSw;(try dsimp only at hSw);go_simp<;>with_reducible rfl)
   try simp only[Act.put,List.setIfInBounds_toArray,List.set_cons_zero,List.set_cons_succ]
   refine wpAnyH_ready (rs:=[12]) (by kernel_rfl) (by simp) ?_
   refine AllReadyH.cons (o:= ?ois014) ?hops014 (fun K hK=> ?steps014) ?mores014
   case hops014=>(simp only[List.getElem?_toArray,List.getElem?_cons_zero,List.getElem?_cons_succ];rfl)
   case mores014=>exact AllReadyH.nil
   go_simp
   refine hK.out _ _ ?_ (fun hHeld=> ?_)
   ·(try dsimp only);exact hKeep.out _ (by first|with_reducible exact hD0.out|with_reducible exact hD1.out|with_reducible exact hF.out|with_reducible exact hF.out.alloc hF.out.size _|exact below_set6 hF.out (Nat.le_refl _) _ _ _ _ _ _)
   clear hK K
   try simp only[Act.put,List.setIfInBounds_toArray,List.set_cons_zero,List.set_cons_succ]
   refine wpAnyH_take (i:=13) (oi:= ?ois015) (v:= ?vs015) ?hops015 ?hss015 ?hfs015 ?hrs015 ?hQs015 ?hys015 (by assumption) ?rests015
   case hops015=>(simp only[List.getElem?_toArray,List.getElem?_cons_zero,List.getElem?_cons_succ];rfl)
   case hss015=>kernel_rfl
   case hfs015=>kernel_rfl
   case hrs015=>kernel_rfl
   case hQs015=>exact fun _ _ _ h=>h
   case hys015=>(refine Or.inl ⟨by rfl,?_⟩;intro w hSw;(try dsimp only at hSw);go_simp<;>with_reducible rfl)
   try simp only[Act.put,List.setIfInBounds_toArray,List.set_cons_zero,List.set_cons_succ]
   refine wpAnyH_done (by kernel_rfl) ?_ _
   refine NoPanic.normal ?_
   go_wp2_with fail
   go_meet
   case rel=>exact ⟨rfl,rfl,_,rfl,(by first|with_reducible exact tb_late (hT2.out.mono hle0.out) hF.out|with_reducible exact tb_early hB2.out (hT2.out.mono hle1.out) hF.out)⟩
  go_simp
  (go_at_call 23;(with_reducible refine Calls.mono (hM.out _ (by first|with_reducible exact hD0.out|with_reducible exact hD1.out)) ?_);rintro e w2 ⟨E,ce,F,cf,rfl,f2,f3⟩;have hF:Hid (Below wb0.heap.size wb0 w2):=(by first|exact hD0.out.trans (f3.mono hD0.out.size)|exact hD1.out.trans (f3.mono hD1.out.size));have hT2:Hid _:=f2;(first|(have hB2:Hid (Cls w2 wb0.heap.size [.int .i64 0,.int .i64 0,.int .i64 0,.int .i64 0,.slice none 0 0,.slice none 0 0]):=((Cls.new wb0 #[.int .i64 0,.int .i64 0,.int .i64 0,.int .i64 0,.slice none 0 0,.slice none 0 0] 37).gr (Gr.refl _).drew).below f3)|skip);clear f2 f3;(first|(have p0:=hB2.out.cell (j:=0) rfl;have z0:=hB2.out.fz 0;have p1:=hB2.out.cell (j:=1) rfl;have z1:=hB2.out.fz 1;have p2:=hB2.out.cell (j:=2) rfl;have z2:=hB2.out.fz 2;have p3:=hB2.out.cell (j:=3) rfl;have z3:=hB2.out.fz 3;have p4:=hB2.out.cell (j:=4) rfl;have z4:=hB2.out.fz 4;have p5:=hB2.out.cell (j:=5) rfl;have z5:=hB2.out.fz 5)|skip))
  first|(go_wp2_with fail)|skip
  refine hK.out _ _ ?_ (fun hHeld=> ?_)
  ·(try dsimp only);exact hKeep.out _ (by first|with_reducible exact hD0.out|with_reducible exact hD1.out|with_reducible exact hF.out|with_reducible exact hF.out.alloc hF.out.size _|exact below_set6 hF.out (Nat.le_refl _) _ _ _ _ _ _)
  clear hK K
  try simp only[Act.put,List.setIfInBounds_toArray,List.set_cons_zero,List.set_cons_succ]
  refine wpAnyH_take (i:=8) (oi:= ?ois016) (v:= ?vs016) ?hops016 ?hss016 ?hfs016 ?hrs016 ?hQs016 ?hys016 (by assumption) ?rests016
  case hops016=>(simp only[List.getElem?_toArray,List.getElem?_cons_zero,List.getElem?_cons_succ];rfl)
  case hss016=>kernel_rfl
  case hfs016=>kernel_rfl
  case hrs016=>kernel_rfl
  case hQs016=>exact fun _ _ _ h=>h
  case hys016=>(refine Or.inl ⟨by rfl,?_⟩;intro w hSw;(try dsimp only at hSw);go_simp<;>with_reducible rfl)
  try simp only[Act.put,List.setIfInBounds_toArray,List.set_cons_zero,List.set_cons_succ]
  refine wpAnyH_take (i:=9) (oi:= ?ois017) (v:= ?vs017) ?hops017 ?hss017 ?hfs017 ?hrs017 ?hQs017 ?hys017 (by assumption) ?rests017
  case hops017=>(simp only[List.getElem?_toArray,List.getElem?_cons_zero,List.getElem?_cons_succ];rfl)
  case hss017=>kernel_rfl
  case hfs017=>kernel_rfl
  case hrs017=>kernel_rfl
  case hQs017=>exact fun _ _ _ h=>h
  case hys017=>(refine Or.inl ⟨by rfl,?_⟩;intro w hSw;(try dsimp only at hSw);go_simp<;>with_reducible rfl)
  try simp only[Act.put,List.setIfInBounds_toArray,List.set_cons_zero,List.set_cons_succ]
  refine wpAnyH_take (i:=10) (oi:= ?ois018) (v:= ?vs018) ?hops018 ?hss018 ?hfs018 ?hrs018 ?hQs018 ?hys018 (by assumption) ?rests018
  case hops018=>(simp only[List.getElem?_toArray,List.getElem?_cons_zero,List.getElem?_cons_succ];rfl)
  case hss018=>kernel_rfl
  case hfs018=>kernel_rfl
  case hrs018=>kernel_rfl
  case hQs018=>exact fun _ _ _ h=>h
  case hys018=>(refine Or.inl ⟨by rfl,?_⟩;intro w hSw;(try dsimp only at hSw);go_simp<;>with_reducible rfl)
  try simp only[Act.put,List.setIfInBounds_toArray,List.set_cons_zero,List.set_cons_succ]
  refine wpAnyH_ready (rs:=[11]) (by kernel_rfl) (by simp) ?_
  refine AllReadyH.cons (o:= ?ois019) ?hops019 (fun K hK=> ?steps019) ?mores019
  case hops019=>(simp only[List.getElem?_toArray,List.getElem?_cons_zero,List.getElem?_cons_succ];rfl)
  case mores019=>exact AllReadyH.nil
  go_simp
  refine hK.out _ _ ?_ (fun hHeld=> ?_)
  ·(try dsimp only);exact hKeep.out _ (by first|with_reducible exact hD0.out|with_reducible exact hD1.out|with_reducible exact hF.out|with_reducible exact hF.out.alloc hF.out.size _|exact below_set6 hF.out (Nat.le_refl _) _ _ _ _ _ _)
  clear hK K
  try simp only[Act.put,List.setIfInBounds_toArray,List.set_cons_zero,List.set_cons_succ]
  refine wpAnyH_ready (rs:=[12]) (by kernel_rfl) (by simp) ?_
  refine AllReadyH.cons (o:= ?ois020) ?hops020 (fun K hK=> ?steps020) ?mores020
  case hops020=>(simp only[List.getElem?_toArray,List.getElem?_cons_zero,List.getElem?_cons_succ];rfl)
  case mores020=>exact AllReadyH.nil
  go_simp
  refine hK.out _ _ ?_ (fun hHeld=> ?_)
  ·(try dsimp only);exact hKeep.out _ (by first|with_reducible exact hD0.out|with_reducible exact hD1.out|with_reducible exact hF.out|with_reducible exact hF.out.alloc hF.out.size _|exact below_set6 hF.out (Nat.le_refl _) _ _ _ _ _ _)
  clear hK K
  try simp only[Act.put,List.setIfInBounds_toArray,List.set_cons_zero,List.set_cons_succ]
  refine wpAnyH_take (i:=13) (oi:= ?ois021) (v:= ?vs021) ?hops021 ?hss021 ?hfs021 ?hrs021 ?hQs021 ?hys021 (by assumption) ?rests021
  case hops021=>(simp only[List.getElem?_toArray,List.getElem?_cons_zero,List.getElem?_cons_succ];rfl)
  case hss021=>kernel_rfl
  case hfs021=>kernel_rfl
  case hrs021=>kernel_rfl
  case hQs021=>exact fun _ _ _ h=>h
  case hys021=>(refine Or.inl ⟨by rfl,?_⟩;intro w hSw;(try dsimp only at hSw);go_simp<;>with_reducible rfl)
  try simp only[Act.put,List.setIfInBounds_toArray,List.set_cons_zero,List.set_cons_succ]
  refine wpAnyH_done (by kernel_rfl) ?_ _
  refine NoPanic.normal ?_
  go_wp2_with fail
  go_meet
  case rel=>exact ⟨rfl,rfl,_,rfl,(by first|with_reducible exact tb_late (hT2.out.mono hle0.out) hF.out|with_reducible exact tb_early hB2.out (hT2.out.mono hle1.out) hF.out)⟩
 rename World=>wx0
 obtain ⟨rfl,rfl,Bm,rfl,hTR⟩:=hcut
 obtain ⟨MA,mca,MC,mcc,g1,g2,g3,g4⟩:=hTR
 have hN:Hid (Cls wx0 Bm [.int .i64 MT0.c.c0,.int .i64 MT0.c.c1,.int .i64 MT0.c.c2,.int .i64 MT0.c.c3,.slice MA MT0.c.l.length mca,.slice MC MT0.e.length mcc]∧TbW wb0.heap.size wx0 MT0 MA mca MC mcc∧Below w.heap.size w wx0∧Cls wx0 (w.heap.size+1) [.int .i64 0,.int .i64 0,.int .i64 0,.int .i64 0,.slice none 0 0,.slice none 0 0,.int .i64 0,.int .i64 0,.int .i64 0,.int .i64 0,.slice none 0 0,.slice none 0 0]∧wb0.heap.size≤Bm):=⟨g1,g2,hA.out.2.1.trans (g3.mono hA.out.2.1.size),hA.out.2.2.2.1.below g3,g4⟩
 have hsz0:Hid (w1.heap.size<wb0.heap.size):=hA.out.2.2.1.lt
 clear g1 g2 g3 g4 hM
 cases hn:(ME0 != 0)
 rotate_left
 focus
  have hfin:Hid (tkE s t a b=ME0∧¬tkE s t a b=0):=by
   have h0:¬ME0=0:=by simpa using hn
   have h1:tkE s t a b=ME0:=by unfold tkE;rw[if_neg (by rw[hME0.out.1];exact h0)];exact hME0.out.1
   exact ⟨h1,by rw[h1];exact h0⟩
  go_wp2
  go_ret
  refine ⟨by rw[hfin.out.1];rfl,?_,Wr.of hN.out.2.2.1 hH.out.1.blk.lt⟩
  unfold tkS tkT
  rw[if_neg hfin.out.2,if_neg hfin.out.2]
  have hn2:=hH.out.1.below hN.out.2.2.1
  exact hn2.mono (fun b hb=>plusP.old b hb) (plus_out hH.out.1.out hH.out.1.blk.lt) (plus_up fun b hb=>hn2.up b hb)
 have h0:ME0=0:=by simpa using hn
 have h0I0:Hid (ME0=0):=h0
 clear hn h0
 have hB0:(ME0 != 0)=false:=by rw[h0I0.out];rfl
 have c0:=hN.out.1.cell (j:=0) rfl
 have c1:=hN.out.1.cell (j:=1) rfl
 have c2:=hN.out.1.cell (j:=2) rfl
 have c3:=hN.out.1.cell (j:=3) rfl
 have c4:=hN.out.1.cell (j:=4) rfl
 have c5:=hN.out.1.cell (j:=5) rfl
 have p0:=hN.out.2.2.2.1.cell (j:=0) rfl
 have z0:=hN.out.2.2.2.1.fz 0
 have p1:=hN.out.2.2.2.1.cell (j:=1) rfl
 have z1:=hN.out.2.2.2.1.fz 1
 have p2:=hN.out.2.2.2.1.cell (j:=2) rfl
 have z2:=hN.out.2.2.2.1.fz 2
 have p3:=hN.out.2.2.2.1.cell (j:=3) rfl
 have z3:=hN.out.2.2.2.1.fz 3
 have p4:=hN.out.2.2.2.1.cell (j:=4) rfl
 have z4:=hN.out.2.2.2.1.fz 4
 have p5:=hN.out.2.2.2.1.cell (j:=5) rfl
 have z5:=hN.out.2.2.2.1.fz 5
 go_wp2
 obtain ⟨wd0,hwd⟩:∃W,((((((wx0.setCell ⟨w.heap.size+1,0,none⟩ (.int .i64 MT0.c.c0)).setCell ⟨w.heap.size+1,1,none⟩ (.int .i64 MT0.c.c1)).setCell ⟨w.heap.size+1,2,none⟩ (.int .i64 MT0.c.c2)).setCell ⟨w.heap.size+1,3,none⟩ (.int .i64 MT0.c.c3)).setCell ⟨w.heap.size+1,4,none⟩ (.slice MA MT0.c.l.length mca)).setCell ⟨w.heap.size+1,5,none⟩ (.slice MC MT0.e.length mcc))=W:=⟨_,rfl⟩
 rw[hwd]
 have hJ:Hid (TbW wb0.heap.size wd0 MT0 MA mca MC mcc∧Below w.heap.size w wd0∧Cls wd0 (w.heap.size+1) [.int .i64 MT0.c.c0,.int .i64 MT0.c.c1,.int .i64 MT0.c.c2,.int .i64 MT0.c.c3,.slice MA MT0.c.l.length mca,.slice MC MT0.e.length mcc,.int .i64 0,.int .i64 0,.int .i64 0,.int .i64 0,.slice none 0 0,.slice none 0 0]):=by
  have hsz:=hsz0.out
  have hlw:=hI.out.1.size
  have hl1:=hI.out.2.lt
  refine ⟨?_,?_,?_⟩
  ·rw[←hwd];exact hN.out.2.1.agr ((((((Agr.set _ fun h=>by omega).trans (Agr.set _ fun h=>by omega)).trans (Agr.set _ fun h=>by omega)).trans (Agr.set _ fun h=>by omega)).trans (Agr.set _ fun h=>by omega)).trans (Agr.set _ fun h=>by omega))
  ·have hge:w.heap.size≤w.heap.size+1:=by omega
   rw[←hwd];exact (((((hN.out.2.2.1.setCell hge _).setCell hge _).setCell hge _).setCell hge _).setCell hge _).setCell hge _
  ·rw[←hwd];exact (((((hN.out.2.2.2.1.put 0 _).put 1 _).put 2 _).put 3 _).put 4 _).put 5 _

 clear hwd hB0 c0 c1 c2 c3 c4 c5 p0 z0 p1 z1 p2 z2 p3 z3 p4 z4 p5 z5
 have hI0:Hid (TbW wb0.heap.size wd0 MT0 MA mca MC mcc):=hJ.out.1
 have hszw0:Hid (w.heap.size≤wb0.heap.size):=hA.out.2.1.size
 clear hA hN hI
 have hI:Hid (Below w.heap.size w wd0∧Cls wd0 (w.heap.size+1) [.int .i64 MT0.c.c0,.int .i64 MT0.c.c1,.int .i64 MT0.c.c2,.int .i64 MT0.c.c3,.slice MA MT0.c.l.length mca,.slice MC MT0.e.length mcc,.int .i64 0,.int .i64 0,.int .i64 0,.int .i64 0,.slice none 0 0,.slice none 0 0]):=⟨hJ.out.2.1,hJ.out.2.2⟩
 have hszw:Hid (w.heap.size≤wb0.heap.size∧True):=⟨hszw0.out,trivial⟩
 clear hJ
 rw[rounds_succ]
 go_upto_region 5 with fail
 obtain ⟨wb1,hwb⟩:∃W,wd0.alloc (.cells #[.int .i64 b.c.c0,.int .i64 b.c.c1,.int .i64 b.c.c2,.int .i64 b.c.c3,.slice PB b.c.l.length pcb,.slice PD b.e.length pcd] 37)=W:=⟨_,rfl⟩
 rw[hwb]
 have hA:Hid (Gr wd0 wb1∧Below w.heap.size w wb1∧Cls wb1 wd0.heap.size [.int .i64 b.c.c0,.int .i64 b.c.c1,.int .i64 b.c.c2,.int .i64 b.c.c3,.slice PB b.c.l.length pcb,.slice PD b.e.length pcd]∧Cls wb1 (w.heap.size+1) [.int .i64 MT0.c.c0,.int .i64 MT0.c.c1,.int .i64 MT0.c.c2,.int .i64 MT0.c.c3,.slice MA MT0.c.l.length mca,.slice MC MT0.e.length mcc,.int .i64 0,.int .i64 0,.int .i64 0,.int .i64 0,.slice none 0 0,.slice none 0 0]∧N<wb1.heap.size∧TbC wb1 N 1 s A ca C cc∧TbC wb1 N 7 t B cb D cd):=by
  have hg:Gr wd0 wb1:=by rw[←hwb];exact (Gr.refl _).alloc _
  have hb:=hI.out.1.trans (hg.below.mono hI.out.1.size)
  have hlt:=hH.out.1.blk.lt
  exact ⟨hg,hb,by rw[←hwb];exact Cls.new wd0 _ _,hI.out.2.gr hg,Nat.lt_of_lt_of_le hlt hb.size,hH.out.2.2.2.1.keep fun j _ _=>hb.cell (p:=⟨N,j,none⟩) hlt,hH.out.2.2.2.2.keep fun j _ _=>hb.cell (p:=⟨N,j,none⟩) hlt⟩
 clear hwb
 obtain ⟨ME1,hME⟩:∃E,mergeE t b=E:=⟨_,rfl⟩
 obtain ⟨MT1,hMT⟩:∃E,mergeT t b=E:=⟨_,rfl⟩
 have hME1:Hid (mergeE t b=ME1∧mergeT t b=MT1):=⟨hME,hMT⟩
 have hM:Hid (∀W,Below wb1.heap.size wb1 W→Calls Tryz.prog 23 #[.agg #[.int .i64 t.c.c0,.int .i64 t.c.c1,.int .i64 t.c.c2,.int .i64 t.c.c3,.slice B t.c.l.length cb,.slice D t.e.length cd],.agg #[.int .i64 b.c.c0,.int .i64 b.c.c1,.int .i64 b.c.c2,.int .i64 b.c.c3,.slice PB b.c.l.length pcb,.slice PD b.e.length pcd]] W fun e w'=>∃E ce F cf,e= .returned (.tuple #[.agg #[.int .i64 MT1.c.c0,.int .i64 MT1.c.c1,.int .i64 MT1.c.c2,.int .i64 MT1.c.c3,.slice E MT1.c.l.length ce,.slice F MT1.e.length cf],.int .i64 ME1])∧TbW W.heap.size w' MT1 E ce F cf∧Below W.heap.size W w'):=fun W hW=>by
  have hb:=hA.out.2.1.trans (hW.mono hA.out.2.1.size)
  have hr5:=hH.out.2.2.1.below hb
  have hm:=merge_new t b B PB D PD cb pcb cd pcd W hr5.len.1 hPk.out.2.2.2.2.2.2.1 hr5.len.2 hPk.out.2.2.2.2.2.2.2.1 hr5.nr hPk.out.2.2.2.2.2.2.2.2.2 (hr5.row) (hPk.out.2.2.1.below hb) (hr5.cel) (hPk.out.2.2.2.1.below hb)
  rw[hME,hMT] at hm
  refine hm.mono ?_
  rintro e w' ⟨E,ce,F,cf,rfl,f1,f2,f3,f4,f5,f6,f7⟩
  exact ⟨E,ce,F,cf,rfl,⟨f1,f2,f3,f4,f5,f6⟩,f7⟩
 clear hME hMT
 go_cut [8,9,12] from 12 to 33 (fun v8 v9 v12 wx=>v9= .int .i64 ME1∧v12= .int .i64 1∧∃Bm:Nat,v8= .pointer (some ⟨Bm,0,none⟩)∧TbR wb1 wx Bm MT1)
 case first =>
  have hD0:Hid (Below wb1.heap.size wb1 wb1.drew):=(Gr.refl wb1).drew.below
  have hD1:Hid (Below wb1.heap.size wb1 (wb1.alloc (.cells #[.int .i64 0,.int .i64 0,.int .i64 0,.int .i64 0,.slice none 0 0,.slice none 0 0] 37)).drew):=((Gr.refl wb1).alloc _).drew.below
  have hle0:Hid (wb1.heap.size≤wb1.drew.heap.size):=Nat.le_refl _
  have hle1:Hid (wb1.heap.size+1≤(wb1.alloc (.cells #[.int .i64 0,.int .i64 0,.int .i64 0,.int .i64 0,.slice none 0 0,.slice none 0 0] 37)).drew.heap.size):=by show _≤(wb1.alloc _).heap.size;simp
  have hKeep:Hid (∀W,Below wb1.heap.size wb1 W→(fun w'=>w'.cell? ⟨wd0.heap.size,0,none⟩=some (.int .i64 b.c.c0)∧w'.cell? ⟨wd0.heap.size,1,none⟩=some (.int .i64 b.c.c1)∧w'.cell? ⟨wd0.heap.size,2,none⟩=some (.int .i64 b.c.c2)∧w'.cell? ⟨wd0.heap.size,3,none⟩=some (.int .i64 b.c.c3)∧w'.cell? ⟨wd0.heap.size,4,none⟩=some (.slice PB b.c.l.length pcb)∧w'.cell? ⟨wd0.heap.size,5,none⟩=some (.slice PD b.e.length pcd)∧w'.cell? ⟨N,7,none⟩=some (.int .i64 t.c.c0)∧w'.cell? ⟨N,8,none⟩=some (.int .i64 t.c.c1)∧w'.cell? ⟨N,9,none⟩=some (.int .i64 t.c.c2)∧w'.cell? ⟨N,10,none⟩=some (.int .i64 t.c.c3)∧w'.cell? ⟨N,11,none⟩=some (.slice B t.c.l.length cb)∧w'.cell? ⟨N,12,none⟩=some (.slice D t.e.length cd)) W):=fun W hW=>⟨(hA.out.2.2.1.below hW).cell (j:=0) rfl,(hA.out.2.2.1.below hW).cell (j:=1) rfl,(hA.out.2.2.1.below hW).cell (j:=2) rfl,(hA.out.2.2.1.below hW).cell (j:=3) rfl,(hA.out.2.2.1.below hW).cell (j:=4) rfl,(hA.out.2.2.1.below hW).cell (j:=5) rfl,(hW.cell (p:=⟨N,7,none⟩) hA.out.2.2.2.2.1).trans hA.out.2.2.2.2.2.2.k0,(hW.cell (p:=⟨N,8,none⟩) hA.out.2.2.2.2.1).trans hA.out.2.2.2.2.2.2.k1,(hW.cell (p:=⟨N,9,none⟩) hA.out.2.2.2.2.1).trans hA.out.2.2.2.2.2.2.k2,(hW.cell (p:=⟨N,10,none⟩) hA.out.2.2.2.2.1).trans hA.out.2.2.2.2.2.2.k3,(hW.cell (p:=⟨N,11,none⟩) hA.out.2.2.2.2.1).trans hA.out.2.2.2.2.2.2.k4,(hW.cell (p:=⟨N,12,none⟩) hA.out.2.2.2.2.1).trans hA.out.2.2.2.2.2.2.k5⟩
  refine wp_region_noPanic ?_
  refine wp_region_held_drew (S:=(fun w'=>w'.cell? ⟨wd0.heap.size,0,none⟩=some (.int .i64 b.c.c0)∧w'.cell? ⟨wd0.heap.size,1,none⟩=some (.int .i64 b.c.c1)∧w'.cell? ⟨wd0.heap.size,2,none⟩=some (.int .i64 b.c.c2)∧w'.cell? ⟨wd0.heap.size,3,none⟩=some (.int .i64 b.c.c3)∧w'.cell? ⟨wd0.heap.size,4,none⟩=some (.slice PB b.c.l.length pcb)∧w'.cell? ⟨wd0.heap.size,5,none⟩=some (.slice PD b.e.length pcd)∧w'.cell? ⟨N,7,none⟩=some (.int .i64 t.c.c0)∧w'.cell? ⟨N,8,none⟩=some (.int .i64 t.c.c1)∧w'.cell? ⟨N,9,none⟩=some (.int .i64 t.c.c2)∧w'.cell? ⟨N,10,none⟩=some (.int .i64 t.c.c3)∧w'.cell? ⟨N,11,none⟩=some (.slice B t.c.l.length cb)∧w'.cell? ⟨N,12,none⟩=some (.slice D t.e.length cd))) (by kernel_rfl) (hKeep.out _ hD0.out) (fun hHeld=> ?_)
  refine wpAnyH_take (i:=0) (oi:= ?ois11) (v:= ?vs11) ?hops11 ?hss11 ?hfs11 ?hrs11 ?hQs11 ?hys11 (by assumption) ?rests11
  case hops11=>(simp only[List.getElem?_toArray,List.getElem?_cons_zero];rfl)
  case hss11=>kernel_rfl
  case hfs11=>kernel_rfl
  case hrs11=>kernel_rfl
  case hQs11=>exact fun _ _ _ h=>h
  case hys11=>(refine Or.inl ⟨by rfl,?_⟩;intro w hSw;(try dsimp only at hSw);go_simp<;>with_reducible rfl)
  try simp only[Act.put,List.setIfInBounds_toArray,List.set_cons_zero,List.set_cons_succ]
  refine wpAnyH_take (i:=1) (oi:= ?ois12) (v:= ?vs12) ?hops12 ?hss12 ?hfs12 ?hrs12 ?hQs12 ?hys12 (by assumption) ?rests12
  case hops12=>(simp only[List.getElem?_toArray,List.getElem?_cons_zero,List.getElem?_cons_succ];rfl)
  case hss12=>kernel_rfl
  case hfs12=>kernel_rfl
  case hrs12=>kernel_rfl
  case hQs12=>exact fun _ _ _ h=>h
  case hys12=>(refine Or.inl ⟨by rfl,?_⟩;intro w hSw;(try dsimp only at hSw);go_simp<;>with_reducible rfl)
  try simp only[Act.put,List.setIfInBounds_toArray,List.set_cons_zero,List.set_cons_succ]
  refine wpAnyH_take (i:=2) (oi:= ?ois13) (v:= ?vs13) ?hops13 ?hss13 ?hfs13 ?hrs13 ?hQs13 ?hys13 (by assumption) ?rests13
  case hops13=>(simp only[List.getElem?_toArray,List.getElem?_cons_zero,List.getElem?_cons_succ];rfl)
  case hss13=>kernel_rfl
  case hfs13=>kernel_rfl
  case hrs13=>kernel_rfl
  case hQs13=>exact fun _ _ _ h=>h
  case hys13=>(refine Or.inl ⟨by rfl,?_⟩;intro w hSw;(try dsimp only at hSw);go_simp<;>with_reducible rfl)
  try simp only[Act.put,List.setIfInBounds_toArray,List.set_cons_zero,List.set_cons_succ]
  refine wpAnyH_take (i:=3) (oi:= ?ois14) (v:= ?vs14) ?hops14 ?hss14 ?hfs14 ?hrs14 ?hQs14 ?hys14 (by assumption) ?rests14
  case hops14=>(simp only[List.getElem?_toArray,List.getElem?_cons_zero,List.getElem?_cons_succ];rfl)
  case hss14=>kernel_rfl
  case hfs14=>kernel_rfl
  case hrs14=>kernel_rfl
  case hQs14=>exact fun _ _ _ h=>h
  case hys14=>(refine Or.inl ⟨by rfl,?_⟩;intro w hSw;(try dsimp only at hSw);go_simp<;>with_reducible rfl)
  try simp only[Act.put,List.setIfInBounds_toArray,List.set_cons_zero,List.set_cons_succ]
  refine wpAnyH_take (i:=4) (oi:= ?ois15) (v:= ?vs15) ?hops15 ?hss15 ?hfs15 ?hrs15 ?hQs15 ?hys15 (by assumption) ?rests15
  case hops15=>(simp only[List.getElem?_toArray,List.getElem?_cons_zero,List.getElem?_cons_succ];rfl)
  case hss15=>kernel_rfl
  case hfs15=>kernel_rfl
  case hrs15=>kernel_rfl
  case hQs15=>exact fun _ _ _ h=>h
  case hys15=>(refine Or.inl ⟨by rfl,?_⟩;intro w hSw;(try dsimp only at hSw);go_simp<;>with_reducible rfl)
  try simp only[Act.put,List.setIfInBounds_toArray,List.set_cons_zero,List.set_cons_succ]
  refine wpAnyH_take (i:=5) (oi:= ?ois16) (v:= ?vs16) ?hops16 ?hss16 ?hfs16 ?hrs16 ?hQs16 ?hys16 (by assumption) ?rests16
  case hops16=>(simp only[List.getElem?_toArray,List.getElem?_cons_zero,List.getElem?_cons_succ];rfl)
  case hss16=>kernel_rfl
  case hfs16=>kernel_rfl
  case hrs16=>kernel_rfl
  case hQs16=>exact fun _ _ _ h=>h
  case hys16=>(refine Or.inl ⟨by rfl,?_⟩;intro w hSw;(try dsimp only at hSw);go_simp<;>with_reducible rfl)
  try simp only[Act.put,List.setIfInBounds_toArray,List.set_cons_zero,List.set_cons_succ]
  refine wpAnyH_take (i:=6) (oi:= ?ois17) (v:= ?vs17) ?hops17 ?hss17 ?hfs17 ?hrs17 ?hQs17 ?hys17 (by assumption) ?rests17
  case hops17=>(simp only[List.getElem?_toArray,List.getElem?_cons_zero,List.getElem?_cons_succ];rfl)
  case hss17=>kernel_rfl
  case hfs17=>kernel_rfl
  case hrs17=>kernel_rfl
  case hQs17=>exact fun _ _ _ h=>h
  case hys17=>(refine Or.inl ⟨by rfl,?_⟩;intro w hSw;(try dsimp only at hSw);go_simp<;>with_reducible rfl)
  try simp only[Act.put,List.setIfInBounds_toArray,List.set_cons_zero,List.set_cons_succ]
  refine wpAnyH_ready (rs:=[7,11]) (by kernel_rfl) (by simp) ?_
  refine AllReadyH.cons (o:= ?ois18) ?hops18 (fun K hK=> ?steps18) ?mores18
  case hops18=>(simp only[List.getElem?_toArray,List.getElem?_cons_zero,List.getElem?_cons_succ];rfl)
  case mores18 =>
   refine AllReadyH.cons (o:= ?ois19) ?hops19 (fun K hK=> ?steps19) ?mores19
   case hops19=>(simp only[List.getElem?_toArray,List.getElem?_cons_zero,List.getElem?_cons_succ];rfl)
   case mores19=>exact AllReadyH.nil
   go_simp
   refine hK.out _ _ ?_ (fun hHeld=> ?_)
   ·(try dsimp only);exact hKeep.out _ (by first|with_reducible exact hD0.out|with_reducible exact hD1.out|with_reducible exact hF.out|with_reducible exact hF.out.alloc hF.out.size _|exact below_set6 hF.out (Nat.le_refl _) _ _ _ _ _ _)
   clear hK K
   try simp only[Act.put,List.setIfInBounds_toArray,List.set_cons_zero,List.set_cons_succ]
   refine wpAnyH_ready (rs:=[7]) (by kernel_rfl) (by simp) ?_
   refine AllReadyH.cons (o:= ?ois110) ?hops110 (fun K hK=> ?steps110) ?mores110
   case hops110=>(simp only[List.getElem?_toArray,List.getElem?_cons_zero,List.getElem?_cons_succ];rfl)
   case mores110=>exact AllReadyH.nil
   go_simp
   (go_at_call 23;(with_reducible refine Calls.mono (hM.out _ (by first|with_reducible exact hD0.out|with_reducible exact hD1.out)) ?_);rintro e w2 ⟨E,ce,F,cf,rfl,f2,f3⟩;have hF:Hid (Below wb1.heap.size wb1 w2):=(by first|exact hD0.out.trans (f3.mono hD0.out.size)|exact hD1.out.trans (f3.mono hD1.out.size));have hT2:Hid _:=f2;(first|(have hB2:Hid (Cls w2 wb1.heap.size [.int .i64 0,.int .i64 0,.int .i64 0,.int .i64 0,.slice none 0 0,.slice none 0 0]):=((Cls.new wb1 #[.int .i64 0,.int .i64 0,.int .i64 0,.int .i64 0,.slice none 0 0,.slice none 0 0] 37).gr (Gr.refl _).drew).below f3)|skip);clear f2 f3;(first|(have p0:=hB2.out.cell (j:=0) rfl;have z0:=hB2.out.fz 0;have p1:=hB2.out.cell (j:=1) rfl;have z1:=hB2.out.fz 1;have p2:=hB2.out.cell (j:=2) rfl;have z2:=hB2.out.fz 2;have p3:=hB2.out.cell (j:=3) rfl;have z3:=hB2.out.fz 3;have p4:=hB2.out.cell (j:=4) rfl;have z4:=hB2.out.fz 4;have p5:=hB2.out.cell (j:=5) rfl;have z5:=hB2.out.fz 5)|skip))
   first|(go_wp2_with fail)|skip
   refine hK.out _ _ ?_ (fun hHeld=> ?_)
   ·(try dsimp only);exact hKeep.out _ (by first|with_reducible exact hD0.out|with_reducible exact hD1.out|with_reducible exact hF.out|with_reducible exact hF.out.alloc hF.out.size _|exact below_set6 hF.out (Nat.le_refl _) _ _ _ _ _ _)
   clear hK K
   try simp only[Act.put,List.setIfInBounds_toArray,List.set_cons_zero,List.set_cons_succ]
   refine wpAnyH_take (i:=8) (oi:= ?ois111) (v:= ?vs111) ?hops111 ?hss111 ?hfs111 ?hrs111 ?hQs111 ?hys111 (by assumption) ?rests111
   case hops111=>(simp only[List.getElem?_toArray,List.getElem?_cons_zero,List.getElem?_cons_succ];rfl)
   case hss111=>kernel_rfl
   case hfs111=>kernel_rfl
   case hrs111=>kernel_rfl
   case hQs111=>exact fun _ _ _ h=>h
   case hys111=>(refine Or.inl ⟨by rfl,?_⟩;intro w hSw;(try dsimp only at hSw);go_simp<;>with_reducible rfl)
   try simp only[Act.put,List.setIfInBounds_toArray,List.set_cons_zero,List.set_cons_succ]
   refine wpAnyH_take (i:=9) (oi:= ?ois112) (v:= ?vs112) ?hops112 ?hss112 ?hfs112 ?hrs112 ?hQs112 ?hys112 (by assumption) ?rests112
   case hops112=>(simp only[List.getElem?_toArray,List.getElem?_cons_zero,List.getElem?_cons_succ];rfl)
   case hss112=>kernel_rfl
   case hfs112=>kernel_rfl
   case hrs112=>kernel_rfl
   case hQs112=>exact fun _ _ _ h=>h
   case hys112=>(refine Or.inl ⟨by rfl,?_⟩;intro w hSw;(try dsimp only at hSw);go_simp<;>with_reducible rfl)
   try simp only[Act.put,List.setIfInBounds_toArray,List.set_cons_zero,List.set_cons_succ]
   refine wpAnyH_take (i:=10) (oi:= ?ois113) (v:= ?vs113) ?hops113 ?hss113 ?hfs113 ?hrs113 ?hQs113 ?hys113 (by assumption) ?rests113
   case hops113=>(simp only[List.getElem?_toArray,List.getElem?_cons_zero,List.getElem?_cons_succ];rfl)
   case hss113=>kernel_rfl
   case hfs113=>kernel_rfl
   case hrs113=>kernel_rfl
   case hQs113=>exact fun _ _ _ h=>h
   case hys113=>(refine Or.inl ⟨by rfl,?_⟩;intro w hSw;(try dsimp only at hSw);go_simp<;>with_reducible rfl)
   try simp only[Act.put,List.setIfInBounds_toArray,List.set_cons_zero,List.set_cons_succ]
   refine wpAnyH_ready (rs:=[12]) (by kernel_rfl) (by simp) ?_
   refine AllReadyH.cons (o:= ?ois114) ?hops114 (fun K hK=> ?steps114) ?mores114
   case hops114=>(simp only[List.getElem?_toArray,List.getElem?_cons_zero,List.getElem?_cons_succ];rfl)
   case mores114=>exact AllReadyH.nil
   go_simp
   refine hK.out _ _ ?_ (fun hHeld=> ?_)
   ·(try dsimp only);exact hKeep.out _ (by first|with_reducible exact hD0.out|with_reducible exact hD1.out|with_reducible exact hF.out|with_reducible exact hF.out.alloc hF.out.size _|exact below_set6 hF.out (Nat.le_refl _) _ _ _ _ _ _)
   clear hK K
   try simp only[Act.put,List.setIfInBounds_toArray,List.set_cons_zero,List.set_cons_succ]
   refine wpAnyH_take (i:=13) (oi:= ?ois115) (v:= ?vs115) ?hops115 ?hss115 ?hfs115 ?hrs115 ?hQs115 ?hys115 (by assumption) ?rests115
   case hops115=>(simp only[List.getElem?_toArray,List.getElem?_cons_zero,List.getElem?_cons_succ];rfl)
   case hss115=>kernel_rfl
   case hfs115=>kernel_rfl
   case hrs115=>kernel_rfl
   case hQs115=>exact fun _ _ _ h=>h
   case hys115=>(refine Or.inl ⟨by rfl,?_⟩;intro w hSw;(try dsimp only at hSw);go_simp<;>with_reducible rfl)
   try simp only[Act.put,List.setIfInBounds_toArray,List.set_cons_zero,List.set_cons_succ]
   refine wpAnyH_done (by kernel_rfl) ?_ _
   refine NoPanic.normal ?_
   go_wp2_with fail
   go_meet
   case rel=>exact ⟨rfl,rfl,_,rfl,(by first|with_reducible exact tb_late (hT2.out.mono hle0.out) hF.out|with_reducible exact tb_early hB2.out (hT2.out.mono hle1.out) hF.out)⟩
  go_simp
  (go_at_call 23;(with_reducible refine Calls.mono (hM.out _ (by first|with_reducible exact hD0.out|with_reducible exact hD1.out)) ?_);rintro e w2 ⟨E,ce,F,cf,rfl,f2,f3⟩;have hF:Hid (Below wb1.heap.size wb1 w2):=(by first|exact hD0.out.trans (f3.mono hD0.out.size)|exact hD1.out.trans (f3.mono hD1.out.size));have hT2:Hid _:=f2;(first|(have hB2:Hid (Cls w2 wb1.heap.size [.int .i64 0,.int .i64 0,.int .i64 0,.int .i64 0,.slice none 0 0,.slice none 0 0]):=((Cls.new wb1 #[.int .i64 0,.int .i64 0,.int .i64 0,.int .i64 0,.slice none 0 0,.slice none 0 0] 37).gr (Gr.refl _).drew).below f3)|skip);clear f2 f3;(first|(have p0:=hB2.out.cell (j:=0) rfl;have z0:=hB2.out.fz 0;have p1:=hB2.out.cell (j:=1) rfl;have z1:=hB2.out.fz 1;have p2:=hB2.out.cell (j:=2) rfl;have z2:=hB2.out.fz 2;have p3:=hB2.out.cell (j:=3) rfl;have z3:=hB2.out.fz 3;have p4:=hB2.out.cell (j:=4) rfl;have z4:=hB2.out.fz 4;have p5:=hB2.out.cell (j:=5) rfl;have z5:=hB2.out.fz 5)|skip))
  first|(go_wp2_with fail)|skip
  refine hK.out _ _ ?_ (fun hHeld=> ?_)
  ·(try dsimp only);exact hKeep.out _ (by first|with_reducible exact hD0.out|with_reducible exact hD1.out|with_reducible exact hF.out|with_reducible exact hF.out.alloc hF.out.size _|exact below_set6 hF.out (Nat.le_refl _) _ _ _ _ _ _)
  clear hK K
  try simp only[Act.put,List.setIfInBounds_toArray,List.set_cons_zero,List.set_cons_succ]
  refine wpAnyH_take (i:=8) (oi:= ?ois116) (v:= ?vs116) ?hops116 ?hss116 ?hfs116 ?hrs116 ?hQs116 ?hys116 (by assumption) ?rests116
  case hops116=>(simp only[List.getElem?_toArray,List.getElem?_cons_zero,List.getElem?_cons_succ];rfl)
  case hss116=>kernel_rfl
  case hfs116=>kernel_rfl
  case hrs116=>kernel_rfl
  case hQs116=>exact fun _ _ _ h=>h
  case hys116=>(refine Or.inl ⟨by rfl,?_⟩;intro w hSw;(try dsimp only at hSw);go_simp<;>with_reducible rfl)
  try simp only[Act.put,List.setIfInBounds_toArray,List.set_cons_zero,List.set_cons_succ]
  refine wpAnyH_take (i:=9) (oi:= ?ois117) (v:= ?vs117) ?hops117 ?hss117 ?hfs117 ?hrs117 ?hQs117 ?hys117 (by assumption) ?rests117
  case hops117=>(simp only[List.getElem?_toArray,List.getElem?_cons_zero,List.getElem?_cons_succ];rfl)
  case hss117=>kernel_rfl
  case hfs117=>kernel_rfl
  case hrs117=>kernel_rfl
  case hQs117=>exact fun _ _ _ h=>h
  case hys117=>(refine Or.inl ⟨by rfl,?_⟩;intro w hSw;(try dsimp only at hSw);go_simp<;>with_reducible rfl)
  try simp only[Act.put,List.setIfInBounds_toArray,List.set_cons_zero,List.set_cons_succ]
  refine wpAnyH_take (i:=10) (oi:= ?ois118) (v:= ?vs118) ?hops118 ?hss118 ?hfs118 ?hrs118 ?hQs118 ?hys118 (by assumption) ?rests118
  case hops118=>(simp only[List.getElem?_toArray,List.getElem?_cons_zero,List.getElem?_cons_succ];rfl)
  case hss118=>kernel_rfl
  case hfs118=>kernel_rfl
  case hrs118=>kernel_rfl
  case hQs118=>exact fun _ _ _ h=>h
  case hys118=>(refine Or.inl ⟨by rfl,?_⟩;intro w hSw;(try dsimp only at hSw);go_simp<;>with_reducible rfl)
  try simp only[Act.put,List.setIfInBounds_toArray,List.set_cons_zero,List.set_cons_succ]
  refine wpAnyH_ready (rs:=[11]) (by kernel_rfl) (by simp) ?_
  refine AllReadyH.cons (o:= ?ois119) ?hops119 (fun K hK=> ?steps119) ?mores119
  case hops119=>(simp only[List.getElem?_toArray,List.getElem?_cons_zero,List.getElem?_cons_succ];rfl)
  case mores119=>exact AllReadyH.nil
  go_simp
  refine hK.out _ _ ?_ (fun hHeld=> ?_)
  ·(try dsimp only);exact hKeep.out _ (by first|with_reducible exact hD0.out|with_reducible exact hD1.out|with_reducible exact hF.out|with_reducible exact hF.out.alloc hF.out.size _|exact below_set6 hF.out (Nat.le_refl _) _ _ _ _ _ _)
  clear hK K
  try simp only[Act.put,List.setIfInBounds_toArray,List.set_cons_zero,List.set_cons_succ]
  refine wpAnyH_ready (rs:=[12]) (by kernel_rfl) (by simp) ?_
  refine AllReadyH.cons (o:= ?ois120) ?hops120 (fun K hK=> ?steps120) ?mores120
  case hops120=>(simp only[List.getElem?_toArray,List.getElem?_cons_zero,List.getElem?_cons_succ];rfl)
  case mores120=>exact AllReadyH.nil
  go_simp
  refine hK.out _ _ ?_ (fun hHeld=> ?_)
  ·(try dsimp only);exact hKeep.out _ (by first|with_reducible exact hD0.out|with_reducible exact hD1.out|with_reducible exact hF.out|with_reducible exact hF.out.alloc hF.out.size _|exact below_set6 hF.out (Nat.le_refl _) _ _ _ _ _ _)
  clear hK K
  try simp only[Act.put,List.setIfInBounds_toArray,List.set_cons_zero,List.set_cons_succ]
  refine wpAnyH_take (i:=13) (oi:= ?ois121) (v:= ?vs121) ?hops121 ?hss121 ?hfs121 ?hrs121 ?hQs121 ?hys121 (by assumption) ?rests121
  case hops121=>(simp only[List.getElem?_toArray,List.getElem?_cons_zero,List.getElem?_cons_succ];rfl)
  case hss121=>kernel_rfl
  case hfs121=>kernel_rfl
  case hrs121=>kernel_rfl
  case hQs121=>exact fun _ _ _ h=>h
  case hys121=>(refine Or.inl ⟨by rfl,?_⟩;intro w hSw;(try dsimp only at hSw);go_simp<;>with_reducible rfl)
  try simp only[Act.put,List.setIfInBounds_toArray,List.set_cons_zero,List.set_cons_succ]
  refine wpAnyH_done (by kernel_rfl) ?_ _
  refine NoPanic.normal ?_
  go_wp2_with fail
  go_meet
  case rel=>exact ⟨rfl,rfl,_,rfl,(by first|with_reducible exact tb_late (hT2.out.mono hle0.out) hF.out|with_reducible exact tb_early hB2.out (hT2.out.mono hle1.out) hF.out)⟩
 rename World=>wx1
 obtain ⟨rfl,rfl,Bm,rfl,hTR⟩:=hcut
 obtain ⟨MB,mcb,MD,mcd,g1,g2,g3,g4⟩:=hTR
 have hN:Hid (Cls wx1 Bm [.int .i64 MT1.c.c0,.int .i64 MT1.c.c1,.int .i64 MT1.c.c2,.int .i64 MT1.c.c3,.slice MB MT1.c.l.length mcb,.slice MD MT1.e.length mcd]∧TbW wb1.heap.size wx1 MT1 MB mcb MD mcd∧Below w.heap.size w wx1∧Cls wx1 (w.heap.size+1) [.int .i64 MT0.c.c0,.int .i64 MT0.c.c1,.int .i64 MT0.c.c2,.int .i64 MT0.c.c3,.slice MA MT0.c.l.length mca,.slice MC MT0.e.length mcc,.int .i64 0,.int .i64 0,.int .i64 0,.int .i64 0,.slice none 0 0,.slice none 0 0]∧wb1.heap.size≤Bm):=⟨g1,g2,hA.out.2.1.trans (g3.mono hA.out.2.1.size),hA.out.2.2.2.1.below g3,g4⟩
 have hszB:Hid (wd0.heap.size<wb1.heap.size):=hA.out.2.2.1.lt
 have hg3H:Hid (Below wb1.heap.size wb1 wx1):=g3
 clear g1 g2 g3 g4 hM
 cases hn:(ME1 != 0)
 rotate_left
 focus
  have hfin:Hid (tkE s t a b=ME1∧¬tkE s t a b=0):=by
   have h0:¬ME1=0:=by simpa using hn
   have h1:tkE s t a b=ME1:=by unfold tkE;rw[if_pos (by rw[hME0.out.1];exact h0I0.out)];exact hME1.out.1
   exact ⟨h1,by rw[h1];exact h0⟩
  go_wp2
  go_ret
  refine ⟨by rw[hfin.out.1];rfl,?_,Wr.of hN.out.2.2.1 hH.out.1.blk.lt⟩
  unfold tkS tkT
  rw[if_neg hfin.out.2,if_neg hfin.out.2]
  have hn2:=hH.out.1.below hN.out.2.2.1
  exact hn2.mono (fun b hb=>plusP.old b hb) (plus_out hH.out.1.out hH.out.1.blk.lt) (plus_up fun b hb=>hn2.up b hb)
 have h0:ME1=0:=by simpa using hn
 have h0I1:Hid (ME1=0):=h0
 clear hn h0
 have hB0:(ME1 != 0)=false:=by rw[h0I1.out];rfl
 have c0:=hN.out.1.cell (j:=0) rfl
 have c1:=hN.out.1.cell (j:=1) rfl
 have c2:=hN.out.1.cell (j:=2) rfl
 have c3:=hN.out.1.cell (j:=3) rfl
 have c4:=hN.out.1.cell (j:=4) rfl
 have c5:=hN.out.1.cell (j:=5) rfl
 have p6:=hN.out.2.2.2.1.cell (j:=6) rfl
 have z6:=hN.out.2.2.2.1.fz 6
 have p7:=hN.out.2.2.2.1.cell (j:=7) rfl
 have z7:=hN.out.2.2.2.1.fz 7
 have p8:=hN.out.2.2.2.1.cell (j:=8) rfl
 have z8:=hN.out.2.2.2.1.fz 8
 have p9:=hN.out.2.2.2.1.cell (j:=9) rfl
 have z9:=hN.out.2.2.2.1.fz 9
 have p10:=hN.out.2.2.2.1.cell (j:=10) rfl
 have z10:=hN.out.2.2.2.1.fz 10
 have p11:=hN.out.2.2.2.1.cell (j:=11) rfl
 have z11:=hN.out.2.2.2.1.fz 11
 go_wp2
 obtain ⟨wd1,hwd⟩:∃W,((((((wx1.setCell ⟨w.heap.size+1,6,none⟩ (.int .i64 MT1.c.c0)).setCell ⟨w.heap.size+1,7,none⟩ (.int .i64 MT1.c.c1)).setCell ⟨w.heap.size+1,8,none⟩ (.int .i64 MT1.c.c2)).setCell ⟨w.heap.size+1,9,none⟩ (.int .i64 MT1.c.c3)).setCell ⟨w.heap.size+1,10,none⟩ (.slice MB MT1.c.l.length mcb)).setCell ⟨w.heap.size+1,11,none⟩ (.slice MD MT1.e.length mcd))=W:=⟨_,rfl⟩
 rw[hwd]
 have hJ:Hid (TbW wb1.heap.size wd1 MT1 MB mcb MD mcd∧Below w.heap.size w wd1∧Cls wd1 (w.heap.size+1) [.int .i64 MT0.c.c0,.int .i64 MT0.c.c1,.int .i64 MT0.c.c2,.int .i64 MT0.c.c3,.slice MA MT0.c.l.length mca,.slice MC MT0.e.length mcc,.int .i64 MT1.c.c0,.int .i64 MT1.c.c1,.int .i64 MT1.c.c2,.int .i64 MT1.c.c3,.slice MB MT1.c.l.length mcb,.slice MD MT1.e.length mcd]∧TbW wb0.heap.size wd1 MT0 MA mca MC mcc):=by
  have hsz:=hszB.out
  have hlw:=hI.out.1.size
  have hl1:=hI.out.2.lt
  refine ⟨?_,?_,?_,?_⟩
  ·rw[←hwd];exact hN.out.2.1.agr ((((((Agr.set _ fun h=>by omega).trans (Agr.set _ fun h=>by omega)).trans (Agr.set _ fun h=>by omega)).trans (Agr.set _ fun h=>by omega)).trans (Agr.set _ fun h=>by omega)).trans (Agr.set _ fun h=>by omega))
  ·have hge:w.heap.size≤w.heap.size+1:=by omega
   rw[←hwd];exact (((((hN.out.2.2.1.setCell hge _).setCell hge _).setCell hge _).setCell hge _).setCell hge _).setCell hge _
  ·rw[←hwd];exact (((((hN.out.2.2.2.1.put 6 _).put 7 _).put 8 _).put 9 _).put 10 _).put 11 _
  ·have hbx:Below wd0.heap.size wd0 wx1:=hA.out.1.below.trans (hg3H.out.mono hA.out.1.size)
   have hs0:=hsz0.out
   have hs00:=hw1l.out
   rw[←hwd];exact (hI0.out.below hbx).agr ((((((Agr.set _ fun h=>by omega).trans (Agr.set _ fun h=>by omega)).trans (Agr.set _ fun h=>by omega)).trans (Agr.set _ fun h=>by omega)).trans (Agr.set _ fun h=>by omega)).trans (Agr.set _ fun h=>by omega))
 clear hwd hB0 c0 c1 c2 c3 c4 c5 p6 z6 p7 z7 p8 z8 p9 z9 p10 z10 p11 z11
 have hszw1:Hid (w.heap.size≤wb1.heap.size):=hA.out.2.1.size
 rw[rounds_succ]
 have hfin:Hid (tkE s t a b=0∧tkS s t a b=MT0∧tkT s t a b=MT1∧errT MT0=0∧errT MT1=0):=by
  have h1:tkE s t a b=0:=by unfold tkE;rw[if_pos (by rw[hME0.out.1];exact h0I0.out),hME1.out.1];exact h0I1.out
  exact ⟨h1,by unfold tkS;rw[if_pos h1];exact hME0.out.2,by unfold tkT;rw[if_pos h1];exact hME1.out.2,by rw[←hME0.out.2];exact errT_merge (by rw[hME0.out.1];exact h0I0.out),by rw[←hME1.out.2];exact errT_merge (by rw[hME1.out.1];exact h0I1.out)⟩
 have hbw:Hid (Below w.heap.size w wd1∧Nd wd1 N P id s t qs):=⟨hJ.out.2.1,hH.out.1.below hJ.out.2.1⟩
 have hBc:Hid (Calls Tryz.prog 24 #[.pointer (some ⟨N,0,none⟩),.agg #[.int .i64 MT0.c.c0,.int .i64 MT0.c.c1,.int .i64 MT0.c.c2,.int .i64 MT0.c.c3,.slice MA MT0.c.l.length mca,.slice MC MT0.e.length mcc,.int .i64 MT1.c.c0,.int .i64 MT1.c.c1,.int .i64 MT1.c.c2,.int .i64 MT1.c.c3,.slice MB MT1.c.l.length mcb,.slice MD MT1.e.length mcd]] wd1 fun e w'=>e= .returned (.tuple #[])∧Nd w' N (plusP P w.heap.size w'.heap.size) id MT0 MT1 qs∧Wr N 1 37 wd1 w') :=
  become_any hbw.out.2 hH.out.1.blk.lt hbw.out.1.size ((hJ.out.2.2.2.p hfin.out.2.2.2.1).mono fun b hb=>plusP.new hszw.out.1 (Nat.le_refl _) b hb) ((hJ.out.1.p hfin.out.2.2.2.2).mono fun b hb=>plusP.new hszw1.out (Nat.le_refl _) b hb)
 have q0:=hJ.out.2.2.1.cell (j:=0) rfl
 have q1:=hJ.out.2.2.1.cell (j:=1) rfl
 have q2:=hJ.out.2.2.1.cell (j:=2) rfl
 have q3:=hJ.out.2.2.1.cell (j:=3) rfl
 have q4:=hJ.out.2.2.1.cell (j:=4) rfl
 have q5:=hJ.out.2.2.1.cell (j:=5) rfl
 have q6:=hJ.out.2.2.1.cell (j:=6) rfl
 have q7:=hJ.out.2.2.1.cell (j:=7) rfl
 have q8:=hJ.out.2.2.1.cell (j:=8) rfl
 have q9:=hJ.out.2.2.1.cell (j:=9) rfl
 have q10:=hJ.out.2.2.1.cell (j:=10) rfl
 have q11:=hJ.out.2.2.1.cell (j:=11) rfl
 go_wp2_with fail
 refine Calls.mono (show Calls _ _ _ _ _ from hBc.out) ?_
 rintro e w8 ⟨rfl,f1,f2⟩
 have hfin2:Hid (Nd w8 N (plusP P w.heap.size w8.heap.size) id MT0 MT1 qs∧Wr N 1 37 w w8):=⟨f1,(Wr.of hbw.out.1 hH.out.1.blk.lt).trans f2⟩
 clear f1 f2 hBc
 go_wp2
 go_ret
 refine ⟨by rw[hfin.out.1];rfl,?_,hfin2.out.2⟩
 rw[hfin.out.2.1,hfin.out.2.2.1]
 exact hfin2.out.1
end Go.Proofs.YtkadjjmkokhldaaGreat

namespace Go.Proofs.YtkadjjmkokhldaaGreat
open Go.RowKit Go.Sort

set_option maxRecDepth 100000 in
set_option maxHeartbeats 400000 in
theorem cloneC_any (q:List Cel) (A:Option Addr) (cap:Nat) (w:World) (hl:q.length*40≤140737488351232) (hr:RowC w A q) (hA:A=none→cap=0) :
  Calls Tryz.prog 11 #[.slice A q.length cap] w fun e w'=>∃C c,e= .returned (.slice C q.length c)∧OwnC w' w.heap.size (.slice C q.length c) q∧Below w.heap.size w w':=by
 have hrH:Hid (RowC w A q):=hr
 clear hr
 have q22:∀(w:World) (a:Option Addr) (n c n' c':Nat),(binOp .eql 35 (.slice a n c) (.slice none n' c')).run Tryz.prog w= .ok (.bool a.isNone) w:=fun w a n c n' c'=>Lib.run_eql_slice_nil w _ _ a n c n' c' Tryz.underlying35
 cases A with
 | none =>
  have hq0:Hid (q=[]):=by
   rcases hrH.out with h|⟨_,_,h,_⟩
   ·exact h
   ·cases h
  go_enter Tryz.func11,Tryz.ntmps11
  go_wp2
  go_ret
  rw[hq0.out]
  exact ⟨_,_,rfl,OwnG.nil _ _ _ _ _,Below.refl _ _⟩
 | some ad =>
  go_enter Tryz.func11,Tryz.ntmps11
  have hoX:Hid (OwnC (w.alloc (.cells #[] 55)) w.heap.size (.slice (some ⟨w.heap.size,0,none⟩) 0 0) []∧RowC (w.alloc (.cells #[] 55)) (some ad) q∧([]:List Cel).length+q.length≤maxLen∧(([]:List Cel).length+q.length)*40≤140737488355328∧w.heap.size≤(w.alloc (.cells #[] 55)).heap.size) :=
   ⟨⟨rfl,Or.inr ⟨w.heap.size,0,#[],rfl,Nat.le_refl _,(MapKept.heap_alloc _ _).1,Nat.le_refl _,by simp,rfl,rfl⟩⟩,hrH.out.gr ((Gr.refl _).alloc _),by unfold maxLen;simp;omega,by simp;omega,by simp⟩
  go_wp2_with (at_builtin;refine wpList_append_c _ rfl (.tmp 5) (.tmp 6) rfl w.heap.size (.slice (some ⟨w.heap.size,0,none⟩) 0 0) [] q (some ad) cap rfl rfl hoX.out.1 hoX.out.2.1 (fun h=>by cases h) hoX.out.2.2.1 hoX.out.2.2.2.1 hoX.out.2.2.2.2 ?_;intro v1 w1 hown1 hgr1)
  have hfin:Hid (OwnC w1 w.heap.size v1 q∧Below w.heap.size w w1):=⟨hown1,((Gr.refl w).alloc _).below.trans (OwnG.grown_below hoX.out.1 hgr1 hoX.out.2.2.2.2)⟩
  clear hown1 hgr1
  go_ret
  obtain ⟨C,c,hv,_⟩:=OwnG.row encC_len hfin.out.1
  subst hv
  exact ⟨C,c,rfl,hfin.out⟩
set_option maxRecDepth 100000 in
set_option maxHeartbeats 400000 in
theorem cloneD_any (q:List (Int×Int)) (A:Option Addr) (cap:Nat) (w:World) (hl:q.length*16≤140737488351232) (hr:Row w A q) (hA:A=none→cap=0) :
  Calls Tryz.prog 10 #[.slice A q.length cap] w fun e w'=>∃C c,e= .returned (.slice C q.length c)∧Own w' w.heap.size (.slice C q.length c) q∧Below w.heap.size w w':=by
 have hrH:Hid (Row w A q):=hr
 clear hr
 have q22:∀(w:World) (a:Option Addr) (n c n' c':Nat),(binOp .eql 32 (.slice a n c) (.slice none n' c')).run Tryz.prog w= .ok (.bool a.isNone) w:=fun w a n c n' c'=>Lib.run_eql_slice_nil w _ _ a n c n' c' Tryz.underlying32
 cases A with
 | none =>
  have hq0:Hid (q=[]):=by
   rcases hrH.out with h|⟨_,_,h,_⟩
   ·exact h
   ·cases h
  go_enter Tryz.func10,Tryz.ntmps10
  go_wp2
  go_ret
  rw[hq0.out]
  exact ⟨_,_,rfl,Own.nil _ _,Below.refl _ _⟩
 | some ad =>
  go_enter Tryz.func10,Tryz.ntmps10
  have hoX:Hid (Own (w.alloc (.cells #[] 52)) w.heap.size (.slice (some ⟨w.heap.size,0,none⟩) 0 0) []∧Row (w.alloc (.cells #[] 52)) (some ad) q∧(([]:List (Int×Int)).length+q.length)*16≤140737488355328∧w.heap.size≤(w.alloc (.cells #[] 52)).heap.size) :=
   ⟨⟨rfl,Or.inr ⟨w.heap.size,0,#[],rfl,Nat.le_refl _,(MapKept.heap_alloc _ _).1,Nat.le_refl _,by simp,rfl,rfl⟩⟩,hrH.out.gr ((Gr.refl _).alloc _),by simp;omega,by simp⟩
  go_wp2_with (at_builtin;refine wpList_append_dots _ rfl (.tmp 5) (.tmp 6) rfl w.heap.size (.slice (some ⟨w.heap.size,0,none⟩) 0 0) [] q (some ad) cap rfl rfl hoX.out.1 hoX.out.2.1 (fun h=>by cases h) hoX.out.2.2.1 hoX.out.2.2.2 ?_;intro v1 w1 hown1 hgr1 _)
  have hfin:Hid (Own w1 w.heap.size v1 q∧Below w.heap.size w w1):=⟨hown1,((Gr.refl w).alloc _).below.trans (Own.grown_below hoX.out.1 hgr1 hoX.out.2.2.2)⟩
  clear hown1 hgr1
  go_ret
  obtain ⟨C,c,hv,_⟩:=Own.row hfin.out.1
  subst hv
  exact ⟨C,c,rfl,hfin.out⟩
set_option maxRecDepth 100000 in
set_option maxHeartbeats 1000000 in
theorem copyCtx_any (c:Ctx) (A:Option Addr) (ca:Nat) (w:World) (hl:c.l.length≤400) (hr:Row w A c.l) (hA:A=none→ca=0) :
  Calls Tryz.prog 25 #[.agg #[.int .i64 c.c0,.int .i64 c.c1,.int .i64 c.c2,.int .i64 c.c3,.slice A c.l.length ca]] w fun e w'=>∃B cb,e= .returned (.agg #[.int .i64 c.c0,.int .i64 c.c1,.int .i64 c.c2,.int .i64 c.c3,.slice B c.l.length cb])∧Own w' w.heap.size (.slice B c.l.length cb) c.l∧Below w.heap.size w w':=by
 have mixed:Tryz.prog.follows .mixedOrders=true:=by kernel_rfl
 obtain ⟨w1,hw1⟩:∃W,(w.alloc (.cells #[.int .i64 c.c0,.int .i64 c.c1,.int .i64 c.c2,.int .i64 c.c3,.slice A c.l.length ca] 34)).alloc (.cells #[.int .i64 0,.int .i64 0,.int .i64 0,.int .i64 0,.slice none 0 0] 34)=W:=⟨_,rfl⟩
 have hg1:Gr w w1:=by rw[←hw1];exact ((Gr.refl w).alloc _).alloc _
 have hs1:w1.heap.size=w.heap.size+1+1:=by rw[←hw1];simp
 have s0:w1.cell? ⟨w.heap.size,0,none⟩=some (.int .i64 c.c0):=by rw[←hw1];exact box1 (w:=w) ((Gr.refl _).alloc _) rfl
 have s1:w1.cell? ⟨w.heap.size,1,none⟩=some (.int .i64 c.c1):=by rw[←hw1];exact box1 (w:=w) ((Gr.refl _).alloc _) rfl
 have s2:w1.cell? ⟨w.heap.size,2,none⟩=some (.int .i64 c.c2):=by rw[←hw1];exact box1 (w:=w) ((Gr.refl _).alloc _) rfl
 have s3:w1.cell? ⟨w.heap.size,3,none⟩=some (.int .i64 c.c3):=by rw[←hw1];exact box1 (w:=w) ((Gr.refl _).alloc _) rfl
 have s4:w1.cell? ⟨w.heap.size,4,none⟩=some (.slice A c.l.length ca):=by rw[←hw1];exact box1 (w:=w) ((Gr.refl _).alloc _) rfl
 have hC:Hid (∀W,Gr w1 W→Calls Tryz.prog 10 #[.slice A c.l.length ca] W fun e w'=>∃C c',e= .returned (.slice C c.l.length c')∧Own w' W.heap.size (.slice C c.l.length c') c.l∧Below W.heap.size W w'):=fun W hg=>cloneD_any c.l A ca W (by omega) (hr.gr (hg1.trans hg)) hA
 clear hr hA
 go_enter Tryz.func25,Tryz.ntmps25
 go_wp2
 have f0:Hid (∀j,w1.frozen? ⟨w.heap.size+1,j,none⟩=false):=fun j=>by
  rw[←hw1]
  exact box2f (w:=w) (Gr.refl _) j
 have r0:Hid (∀j v,(#[.int .i64 0,.int .i64 0,.int .i64 0,.int .i64 0,.slice none 0 0]:Array Value)[j]? = some v→w1.cell? ⟨w.heap.size+1,j,none⟩=some v):=fun j v hv=>by
  rw[←hw1]
  have:=box1 (w:=w.alloc (.cells #[.int .i64 c.c0,.int .i64 c.c1,.int .i64 c.c2,.int .i64 c.c3,.slice A c.l.length ca] 34)) (T1:=34) (Gr.refl _) hv
  simpa using this
 clear hw1
 go_region_with (go_at_call 10;refine Calls.mono (hC.out _ (Gr.refl w1).drew) ?_;rintro e w2 ⟨B,cb,rfl,h1,h2⟩;have hbH:Hid (Own w2 (w.heap.size+1+1) (.slice B c.l.length cb) c.l∧Below w1.heap.size w1 w2):=⟨by rw[←hs1];exact h1,(Gr.refl w1).drew.below.trans h2⟩;clear h1 h2;have hlt1:w.heap.size+1<w1.heap.size:=(by omega);have hlt0:w.heap.size<w1.heap.size:=(by omega);have q0:=(hbH.out.2.cell (p:=⟨w.heap.size,0,none⟩) hlt0).trans s0;have q1:=(hbH.out.2.cell (p:=⟨w.heap.size,1,none⟩) hlt0).trans s1;have q2:=(hbH.out.2.cell (p:=⟨w.heap.size,2,none⟩) hlt0).trans s2;have q3:=(hbH.out.2.cell (p:=⟨w.heap.size,3,none⟩) hlt0).trans s3;have p0:=(hbH.out.2.cell (p:=⟨w.heap.size+1,0,none⟩) hlt1).trans (r0.out 0 _ rfl);have p1:=(hbH.out.2.cell (p:=⟨w.heap.size+1,1,none⟩) hlt1).trans (r0.out 1 _ rfl);have p2:=(hbH.out.2.cell (p:=⟨w.heap.size+1,2,none⟩) hlt1).trans (r0.out 2 _ rfl);have p3:=(hbH.out.2.cell (p:=⟨w.heap.size+1,3,none⟩) hlt1).trans (r0.out 3 _ rfl);have p4:=(hbH.out.2.cell (p:=⟨w.heap.size+1,4,none⟩) hlt1).trans (r0.out 4 _ rfl);have z0:=(hbH.out.2.frozen (p:=⟨w.heap.size+1,0,none⟩) hlt1).trans (f0.out 0);have z1:=(hbH.out.2.frozen (p:=⟨w.heap.size+1,1,none⟩) hlt1).trans (f0.out 1);have z2:=(hbH.out.2.frozen (p:=⟨w.heap.size+1,2,none⟩) hlt1).trans (f0.out 2);have z3:=(hbH.out.2.frozen (p:=⟨w.heap.size+1,3,none⟩) hlt1).trans (f0.out 3);have z4:=(hbH.out.2.frozen (p:=⟨w.heap.size+1,4,none⟩) hlt1).trans (f0.out 4))
 all_goals
  go_wp2
  have hB:Below w.heap.size w w2:=hg1.below.trans (hbH.out.2.mono hg1.size)
  have hlt:w.heap.size+1<w.heap.size+1+1:=by omega
  have hge:w.heap.size≤w.heap.size+1:=by omega
  exact bodyPost_ret (v:= .agg #[.int .i64 c.c0,.int .i64 c.c1,.int .i64 c.c2,.int .i64 c.c3,.slice B c.l.length cb]) (by simp[results,Tryz.results25,go_sem,p0,p1,p2,p3,p4]) rfl ⟨B,cb,rfl,(((((hbH.out.1.setCell hlt _).setCell hlt _).setCell hlt _).setCell hlt _).setCell hlt _).mono (by omega),((((hB.setCell hge _).setCell hge _).setCell hge _).setCell hge _).setCell hge _⟩
end Go.Proofs.YtkadjjmkokhldaaGreat
