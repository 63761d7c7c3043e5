/-
  (*Node).Whole: the packet of both tables, in memory of its own.
  slices.Clone at steps and at numbers, into memory of one's own.
  Twn nodes side by side: their calls; what an act's copies are.
-/
import Derived.Test.YtkadjjmkokhldaaGreatM39
import Derived.Test.YtkadjjmkokhldaaGreatM45
import Derived.Deep.RegionHeld3
import Derived.Test.YtkadjjmkokhldaaGreatM17
import Derived.Test.YtkadjjmkokhldaaGreatM07
import Derived.WalkSpells
import Derived.Shelf.Slices.Clone
import Derived.Test.YtkadjjmkokhldaaGreatM41
import Derived.Test.YtkadjjmkokhldaaGreatM13
import Derived.Test.YtkadjjmkokhldaaGreatM32
import Derived.Deep.Cut
import Derived.Deep.CutRange
import Derived.Deep.CutBlock
import Derived.Deep.MidRow
namespace Go.Proofs.YtkadjjmkokhldaaGreat
open Go.RowKit Go.Sort

theorem own_agr {w w':World} {base:Nat} {e:TypeId} {k:Nat} {v:Value} {n:Nat} {l:List Value} (h:w.ownsRow base e k v n l) (hA:Agr (fun b=>base≤b) w w'):w'.ownsRow base e k v n l:=by
 refine ⟨h.1,?_⟩
 rcases h.2 with h1|⟨g,cap,cur,hv,hb,hc,rest⟩
 ·exact Or.inl h1
 ·exact Or.inr ⟨g,cap,cur,hv,hb,(hA.block g hb (Array.getElem?_eq_some_iff.1 hc).1).trans hc,rest⟩
set_option maxRecDepth 100000 in
set_option maxHeartbeats 4000000 in
theorem whole_any {w:World} {N:Nat} {P:Nat→Prop} {id:Int} {s t:Tab} {qs:List (List Stp)} (h:Nd w N P id s t qs) :
  Calls Tryz.prog 7 #[.pointer (some ⟨N,0,none⟩)] w fun e w'=>∃(EA:Option Addr) (eca:Nat) (EC:Option Addr) (ecc:Nat) (EB:Option Addr) (ecb:Nat) (ED:Option Addr) (ecd:Nat),e= .returned (.agg #[.int .i64 s.c.c0,.int .i64 s.c.c1,.int .i64 s.c.c2,.int .i64 s.c.c3,.slice EA s.c.l.length eca,.slice EC s.e.length ecc,.int .i64 t.c.c0,.int .i64 t.c.c1,.int .i64 t.c.c2,.int .i64 t.c.c3,.slice EB t.c.l.length ecb,.slice ED t.e.length ecd])∧(Own w' w.heap.size (.slice EA s.c.l.length eca) s.c.l∧OwnC w' w.heap.size (.slice EC s.e.length ecc) s.e)∧(Own w' w.heap.size (.slice EB t.c.l.length ecb) t.c.l∧OwnC w' w.heap.size (.slice ED t.e.length ecd) t.e)∧Below w.heap.size w w':=by
 have mixed:Tryz.prog.follows .mixedOrders=true:=by kernel_rfl
 obtain ⟨A,ca,C,cc,hcs,hts⟩:=h.ts
 obtain ⟨B,cb,D,cd,hct,htt⟩:=h.tt
 have hx0:=idxT0 (.int .i64 s.c.c0) (.int .i64 s.c.c1) (.int .i64 s.c.c2) (.int .i64 s.c.c3) (.slice A s.c.l.length ca) (.slice C s.e.length cc) (.int .i64 t.c.c0) (.int .i64 t.c.c1) (.int .i64 t.c.c2) (.int .i64 t.c.c3) (.slice B t.c.l.length cb) (.slice D t.e.length cd)
 have hx1:=idxT1 (.int .i64 s.c.c0) (.int .i64 s.c.c1) (.int .i64 s.c.c2) (.int .i64 s.c.c3) (.slice A s.c.l.length ca) (.slice C s.e.length cc) (.int .i64 t.c.c0) (.int .i64 t.c.c1) (.int .i64 t.c.c2) (.int .i64 t.c.c3) (.slice B t.c.l.length cb) (.slice D t.e.length cd)
 have n1:=hcs.k0
 have n2:=hcs.k1
 have n3:=hcs.k2
 have n4:=hcs.k3
 have n5:=hcs.k4
 have n6:=hcs.k5
 have n7:=hct.k0
 have n8:=hct.k1
 have n9:=hct.k2
 have n10:=hct.k3
 have n11:=hct.k4
 have n12:=hct.k5
 have hH:Hid (TbP P w s A ca C cc∧TbP P w t B cb D cd∧True):=⟨hts,htt,trivial⟩
 have hltN:N<w.heap.size:=h.blk.lt
 have hltM:N<w.heap.size+1:=by omega
 clear h hts htt hcs hct
 go_enter Tryz.func7,Tryz.ntmps7
 go_wp2
 obtain ⟨w1,hw1⟩:∃W,(w.alloc (.cells #[.int .i64 0,.int .i64 0,.int .i64 0,.int .i64 0,.slice none 0 0,.slice none 0 0,.int .i64 0,.int .i64 0,.int .i64 0,.int .i64 0,.slice none 0 0,.slice none 0 0] 40)).alloc (.cells #[.int .i64 0,.int .i64 0,.int .i64 0,.int .i64 0,.slice none 0 0,.slice none 0 0,.int .i64 0,.int .i64 0,.int .i64 0,.int .i64 0,.slice none 0 0,.slice none 0 0] 40)=W:=⟨_,rfl⟩
 rw[hw1]
 have hI:Hid (Below w.heap.size w w1∧Cls w1 (w.heap.size+1) [.int .i64 0,.int .i64 0,.int .i64 0,.int .i64 0,.slice none 0 0,.slice none 0 0,.int .i64 0,.int .i64 0,.int .i64 0,.int .i64 0,.slice none 0 0,.slice none 0 0]∧Cls w1 w.heap.size [.int .i64 0,.int .i64 0,.int .i64 0,.int .i64 0,.slice none 0 0,.slice none 0 0,.int .i64 0,.int .i64 0,.int .i64 0,.int .i64 0,.slice none 0 0,.slice none 0 0]):=by
  refine ⟨by rw[←hw1];exact (((Gr.refl w).alloc _).alloc _).below,?_,by rw[←hw1];exact (Cls.new w _ _).gr ((Gr.refl _).alloc _)⟩
  have:=Cls.new (w.alloc (.cells #[.int .i64 0,.int .i64 0,.int .i64 0,.int .i64 0,.slice none 0 0,.slice none 0 0,.int .i64 0,.int .i64 0,.int .i64 0,.int .i64 0,.slice none 0 0,.slice none 0 0] 40)) #[.int .i64 0,.int .i64 0,.int .i64 0,.int .i64 0,.slice none 0 0,.slice none 0 0,.int .i64 0,.int .i64 0,.int .i64 0,.int .i64 0,.slice none 0 0,.slice none 0 0] 40
  rw[hw1,show (w.alloc (.cells #[.int .i64 0,.int .i64 0,.int .i64 0,.int .i64 0,.slice none 0 0,.slice none 0 0,.int .i64 0,.int .i64 0,.int .i64 0,.int .i64 0,.slice none 0 0,.slice none 0 0] 40)).heap.size=w.heap.size+1 by simp] at this
  exact this
 clear hw1 n1 n2 n3 n4 n5 n6 n7 n8 n9 n10 n11 n12
 refine wp_loop_rounds 3 ?_
 rw[rounds_succ]
 go_upto_region 5 with fail
 obtain ⟨wb0,hwb⟩:∃W,w1.alloc (.cells #[.int .i64 s.c.c0,.int .i64 s.c.c1,.int .i64 s.c.c2,.int .i64 s.c.c3,.slice A s.c.l.length ca,.slice C s.e.length cc] 37)=W:=⟨_,rfl⟩
 rw[hwb]
 have hA:Hid (Gr w1 wb0∧Below w.heap.size w wb0∧Cls wb0 w1.heap.size [.int .i64 s.c.c0,.int .i64 s.c.c1,.int .i64 s.c.c2,.int .i64 s.c.c3,.slice A s.c.l.length ca,.slice C s.e.length cc]∧Cls wb0 (w.heap.size+1) [.int .i64 0,.int .i64 0,.int .i64 0,.int .i64 0,.slice none 0 0,.slice none 0 0,.int .i64 0,.int .i64 0,.int .i64 0,.int .i64 0,.slice none 0 0,.slice none 0 0]∧Cls wb0 w.heap.size [.int .i64 0,.int .i64 0,.int .i64 0,.int .i64 0,.slice none 0 0,.slice none 0 0,.int .i64 0,.int .i64 0,.int .i64 0,.int .i64 0,.slice none 0 0,.slice none 0 0]∧w.heap.size+1<w1.heap.size∧w1.heap.size<wb0.heap.size):=by
  have hg:Gr w1 wb0:=by rw[←hwb];exact (Gr.refl _).alloc _
  exact ⟨hg,hI.out.1.trans (hg.below.mono hI.out.1.size),by rw[←hwb];exact Cls.new w1 _ _,hI.out.2.1.gr hg,hI.out.2.2.gr hg,hI.out.2.1.lt,by rw[←hwb];simp⟩
 clear hwb
 have hD0:Hid (Below wb0.heap.size wb0 wb0.drew):=(Gr.refl wb0).drew.below
 have hCc:Hid (∀W,Below wb0.heap.size wb0 W→Calls Tryz.prog 25 #[.agg #[.int .i64 s.c.c0,.int .i64 s.c.c1,.int .i64 s.c.c2,.int .i64 s.c.c3,.slice A s.c.l.length ca]] W fun e w'=>∃B cb,e= .returned (.agg #[.int .i64 s.c.c0,.int .i64 s.c.c1,.int .i64 s.c.c2,.int .i64 s.c.c3,.slice B s.c.l.length cb])∧Own w' W.heap.size (.slice B s.c.l.length cb) s.c.l∧Below W.heap.size W w'):=fun W hW=>by
  have hb:=hA.out.2.1.trans (hW.mono hA.out.2.1.size)
  have hr:=hH.out.1.below hb
  exact copyCtx_any s.c A ca W (errC_parts (errT_parts hr.ok).1).2.1 hr.row hr.nr
 have hCl:Hid (∀W,Below wb0.heap.size wb0 W→Calls Tryz.prog 11 #[.slice C s.e.length cc] W fun e w'=>∃C c,e= .returned (.slice C s.e.length c)∧OwnC w' W.heap.size (.slice C s.e.length c) s.e∧Below W.heap.size W w'):=fun W hW=>by
  have hb:=hA.out.2.1.trans (hW.mono hA.out.2.1.size)
  have hr:=hH.out.1.below hb
  have:=(errT_parts hr.ok).2.1
  exact cloneC_any s.e C cc W (by omega) hr.cel hr.nc
 have hKc:Hid (∀W,Cls W w1.heap.size [.int .i64 s.c.c0,.int .i64 s.c.c1,.int .i64 s.c.c2,.int .i64 s.c.c3,.slice A s.c.l.length ca,.slice C s.e.length cc]→(fun w'=>w'.cell? ⟨w1.heap.size,0,none⟩=some (.int .i64 s.c.c0)∧w'.cell? ⟨w1.heap.size,1,none⟩=some (.int .i64 s.c.c1)∧w'.cell? ⟨w1.heap.size,2,none⟩=some (.int .i64 s.c.c2)∧w'.cell? ⟨w1.heap.size,3,none⟩=some (.int .i64 s.c.c3)∧w'.cell? ⟨w1.heap.size,4,none⟩=some (.slice A s.c.l.length ca)∧w'.cell? ⟨w1.heap.size,5,none⟩=some (.slice C s.e.length cc)) W):=fun W hW=>⟨hW.cell (j:=0) rfl,hW.cell (j:=1) rfl,hW.cell (j:=2) rfl,hW.cell (j:=3) rfl,hW.cell (j:=4) rfl,hW.cell (j:=5) rfl⟩
 have hne:Hid (w1.heap.size≠w.heap.size+1):=by have:=hA.out.2.2.2.2.2.1;show _≠_;omega
 refine wp_region_noPanic ?_
 refine wp_region_held_drew (S:=(fun w'=>w'.cell? ⟨w1.heap.size,0,none⟩=some (.int .i64 s.c.c0)∧w'.cell? ⟨w1.heap.size,1,none⟩=some (.int .i64 s.c.c1)∧w'.cell? ⟨w1.heap.size,2,none⟩=some (.int .i64 s.c.c2)∧w'.cell? ⟨w1.heap.size,3,none⟩=some (.int .i64 s.c.c3)∧w'.cell? ⟨w1.heap.size,4,none⟩=some (.slice A s.c.l.length ca)∧w'.cell? ⟨w1.heap.size,5,none⟩=some (.slice C s.e.length cc))) (by kernel_rfl) (hKc.out _ (hA.out.2.2.1.below hD0.out)) (fun hHeld=> ?_)
 refine wpAnyH_take (i:=0) (oi:= ?ois01) (v:= ?vs01) ?hops01 ?hss01 ?hfs01 ?hrs01 ?hQs01 ?hys01 (by assumption) ?rests01
 case hops01=>(simp only[List.getElem?_toArray,List.getElem?_cons_zero];rfl)
 case hss01=>kernel_rfl
 case hfs01=>kernel_rfl
 case hrs01=>kernel_rfl
 case hQs01=>exact fun _ _ _ h=>h
 case hys01=>(refine Or.inl ⟨by rfl,?_⟩;intro w hSw;(try dsimp only at hSw);go_simp<;>with_reducible rfl)
 try simp only[Act.put,List.setIfInBounds_toArray,List.set_cons_zero,List.set_cons_succ]
 refine wpAnyH_take (i:=1) (oi:= ?ois02) (v:= ?vs02) ?hops02 ?hss02 ?hfs02 ?hrs02 ?hQs02 ?hys02 (by assumption) ?rests02
 case hops02=>(simp only[List.getElem?_toArray,List.getElem?_cons_zero,List.getElem?_cons_succ];rfl)
 case hss02=>kernel_rfl
 case hfs02=>kernel_rfl
 case hrs02=>kernel_rfl
 case hQs02=>exact fun _ _ _ h=>h
 case hys02=>(refine Or.inl ⟨by rfl,?_⟩;intro w hSw;(try dsimp only at hSw);go_simp<;>with_reducible rfl)
 try simp only[Act.put,List.setIfInBounds_toArray,List.set_cons_zero,List.set_cons_succ]
 refine wpAnyH_take (i:=2) (oi:= ?ois03) (v:= ?vs03) ?hops03 ?hss03 ?hfs03 ?hrs03 ?hQs03 ?hys03 (by assumption) ?rests03
 case hops03=>(simp only[List.getElem?_toArray,List.getElem?_cons_zero,List.getElem?_cons_succ];rfl)
 case hss03=>kernel_rfl
 case hfs03=>kernel_rfl
 case hrs03=>kernel_rfl
 case hQs03=>exact fun _ _ _ h=>h
 case hys03=>(refine Or.inl ⟨by rfl,?_⟩;intro w hSw;(try dsimp only at hSw);go_simp<;>with_reducible rfl)
 try simp only[Act.put,List.setIfInBounds_toArray,List.set_cons_zero,List.set_cons_succ]
 refine wpAnyH_take (i:=4) (oi:= ?ois04) (v:= ?vs04) ?hops04 ?hss04 ?hfs04 ?hrs04 ?hQs04 ?hys04 (by assumption) ?rests04
 case hops04=>(simp only[List.getElem?_toArray,List.getElem?_cons_zero,List.getElem?_cons_succ];rfl)
 case hss04=>kernel_rfl
 case hfs04=>kernel_rfl
 case hrs04=>kernel_rfl
 case hQs04=>exact fun _ _ _ h=>h
 case hys04=>(refine Or.inl ⟨by rfl,?_⟩;intro w hSw;(try dsimp only at hSw);go_simp<;>with_reducible rfl)
 try simp only[Act.put,List.setIfInBounds_toArray,List.set_cons_zero,List.set_cons_succ]
 refine wpAnyH_take (i:=5) (oi:= ?ois05) (v:= ?vs05) ?hops05 ?hss05 ?hfs05 ?hrs05 ?hQs05 ?hys05 (by assumption) ?rests05
 case hops05=>(simp only[List.getElem?_toArray,List.getElem?_cons_zero,List.getElem?_cons_succ];rfl)
 case hss05=>kernel_rfl
 case hfs05=>kernel_rfl
 case hrs05=>kernel_rfl
 case hQs05=>exact fun _ _ _ h=>h
 case hys05=>(refine Or.inl ⟨by rfl,?_⟩;intro w hSw;(try dsimp only at hSw);go_simp<;>with_reducible rfl)
 try simp only[Act.put,List.setIfInBounds_toArray,List.set_cons_zero,List.set_cons_succ]
 refine wpAnyH_take (i:=8) (oi:= ?ois06) (v:= ?vs06) ?hops06 ?hss06 ?hfs06 ?hrs06 ?hQs06 ?hys06 (by assumption) ?rests06
 case hops06=>(simp only[List.getElem?_toArray,List.getElem?_cons_zero,List.getElem?_cons_succ];rfl)
 case hss06=>kernel_rfl
 case hfs06=>kernel_rfl
 case hrs06=>kernel_rfl
 case hQs06=>exact fun _ _ _ h=>h
 case hys06=>(refine Or.inl ⟨by rfl,?_⟩;intro w hSw;(try dsimp only at hSw);go_simp<;>with_reducible rfl)
 try simp only[Act.put,List.setIfInBounds_toArray,List.set_cons_zero,List.set_cons_succ]
 refine wpAnyH_ready (rs:=[3]) (by kernel_rfl) (by simp) ?_
 refine AllReadyH.cons (o:= ?ois07) ?hops07 (fun K hK=> ?steps07) ?mores07
 case hops07=>(simp only[List.getElem?_toArray,List.getElem?_cons_zero,List.getElem?_cons_succ];rfl)
 case mores07=>exact AllReadyH.nil
 go_simp
 (go_at_call 25;(with_reducible refine Calls.mono (hCc.out _ hD0.out) ?_);rintro e w2 ⟨EA,eca,rfl,f1,f2⟩;have hF:Hid (Below wb0.heap.size wb0 w2∧Own w2 wb0.heap.size (.slice EA s.c.l.length eca) s.c.l):=⟨hD0.out.trans (f2.mono hD0.out.size),f1⟩;clear f1 f2)
 first|(go_wp2_with fail)|skip
 refine hK.out _ _ ?_ (fun hHeld=> ?_)
 ·(try dsimp only);first|with_reducible exact hKc.out _ (hA.out.2.2.1.below hG.out.1)|with_reducible exact hKc.out _ (hA.out.2.2.1.below hF.out.1)|exact hKc.out _ (((((((hA.out.2.2.1.below hG.out.1).oth hne.out _).oth hne.out _).oth hne.out _).oth hne.out _).oth hne.out _).oth hne.out _)
 clear hK K
 try simp only[Act.put,List.setIfInBounds_toArray,List.set_cons_zero,List.set_cons_succ]
 refine wpAnyH_ready (rs:=[6]) (by kernel_rfl) (by simp) ?_
 refine AllReadyH.cons (o:= ?ois08) ?hops08 (fun K hK=> ?steps08) ?mores08
 case hops08=>(simp only[List.getElem?_toArray,List.getElem?_cons_zero,List.getElem?_cons_succ];rfl)
 case mores08=>exact AllReadyH.nil
 go_simp
 (go_at_call 11;(with_reducible refine Calls.mono (hCl.out _ hF.out.1) ?_);rintro e w3 ⟨EC,ecc,rfl,f1,f2⟩;have hG:Hid (Below wb0.heap.size wb0 w3∧Own w3 wb0.heap.size (.slice EA s.c.l.length eca) s.c.l∧OwnC w3 wb0.heap.size (.slice EC s.e.length ecc) s.e):=⟨hF.out.1.trans (f2.mono hF.out.1.size),hF.out.2.below f2,f1.mono hF.out.1.size⟩;clear f1 f2;have p0:=(hA.out.2.2.2.1.below hG.out.1).cell (j:=0) rfl;have z0:=(hA.out.2.2.2.1.below hG.out.1).fz 0;have p1:=(hA.out.2.2.2.1.below hG.out.1).cell (j:=1) rfl;have z1:=(hA.out.2.2.2.1.below hG.out.1).fz 1;have p2:=(hA.out.2.2.2.1.below hG.out.1).cell (j:=2) rfl;have z2:=(hA.out.2.2.2.1.below hG.out.1).fz 2;have p3:=(hA.out.2.2.2.1.below hG.out.1).cell (j:=3) rfl;have z3:=(hA.out.2.2.2.1.below hG.out.1).fz 3;have p4:=(hA.out.2.2.2.1.below hG.out.1).cell (j:=4) rfl;have z4:=(hA.out.2.2.2.1.below hG.out.1).fz 4;have p5:=(hA.out.2.2.2.1.below hG.out.1).cell (j:=5) rfl;have z5:=(hA.out.2.2.2.1.below hG.out.1).fz 5)
 first|(go_wp2_with fail)|skip
 refine hK.out _ _ ?_ (fun hHeld=> ?_)
 ·(try dsimp only);first|with_reducible exact hKc.out _ (hA.out.2.2.1.below hG.out.1)|with_reducible exact hKc.out _ (hA.out.2.2.1.below hF.out.1)|exact hKc.out _ (((((((hA.out.2.2.1.below hG.out.1).oth hne.out _).oth hne.out _).oth hne.out _).oth hne.out _).oth hne.out _).oth hne.out _)
 clear hK K
 try simp only[Act.put,List.setIfInBounds_toArray,List.set_cons_zero,List.set_cons_succ]
 refine wpAnyH_take (i:=7) (oi:= ?ois09) (v:= ?vs09) ?hops09 ?hss09 ?hfs09 ?hrs09 ?hQs09 ?hys09 (by assumption) ?rests09
 case hops09=>(simp only[List.getElem?_toArray,List.getElem?_cons_zero,List.getElem?_cons_succ];rfl)
 case hss09=>kernel_rfl
 case hfs09=>kernel_rfl
 case hrs09=>kernel_rfl
 case hQs09=>exact fun _ _ _ h=>h
 case hys09=>(refine Or.inl ⟨by rfl,?_⟩;intro w hSw;(try dsimp only at hSw);go_simp<;>with_reducible rfl)
 try simp only[Act.put,List.setIfInBounds_toArray,List.set_cons_zero,List.set_cons_succ]
 refine wpAnyH_take (i:=9) (oi:= ?ois010) (v:= ?vs010) ?hops010 ?hss010 ?hfs010 ?hrs010 ?hQs010 ?hys010 (by assumption) ?rests010
 case hops010=>(simp only[List.getElem?_toArray,List.getElem?_cons_zero,List.getElem?_cons_succ];rfl)
 case hss010=>kernel_rfl
 case hfs010=>kernel_rfl
 case hrs010=>kernel_rfl
 case hQs010=>exact fun _ _ _ h=>h
 case hys010=>(refine Or.inl ⟨by rfl,?_⟩;intro w hSw;(try dsimp only at hSw);go_simp<;>with_reducible rfl)
 try simp only[Act.put,List.setIfInBounds_toArray,List.set_cons_zero,List.set_cons_succ]
 refine wpAnyH_ready (rs:=[10]) (by kernel_rfl) (by simp) ?_
 refine AllReadyH.cons (o:= ?ois011) ?hops011 (fun K hK=> ?steps011) ?mores011
 case hops011=>(simp only[List.getElem?_toArray,List.getElem?_cons_zero,List.getElem?_cons_succ];rfl)
 case mores011=>exact AllReadyH.nil
 go_simp
 refine hK.out _ _ ?_ (fun hHeld=> ?_)
 ·(try dsimp only);first|with_reducible exact hKc.out _ (hA.out.2.2.1.below hG.out.1)|with_reducible exact hKc.out _ (hA.out.2.2.1.below hF.out.1)|exact hKc.out _ (((((((hA.out.2.2.1.below hG.out.1).oth hne.out _).oth hne.out _).oth hne.out _).oth hne.out _).oth hne.out _).oth hne.out _)
 clear hK K
 try simp only[Act.put,List.setIfInBounds_toArray,List.set_cons_zero,List.set_cons_succ]
 refine wpAnyH_done (by kernel_rfl) ?_ _
 refine NoPanic.normal ?_
 go_wp2_with fail
 obtain ⟨wd0,hwd⟩:∃W,((((((w3.setCell ⟨w.heap.size+1,0,none⟩ (.int .i64 s.c.c0)).setCell ⟨w.heap.size+1,1,none⟩ (.int .i64 s.c.c1)).setCell ⟨w.heap.size+1,2,none⟩ (.int .i64 s.c.c2)).setCell ⟨w.heap.size+1,3,none⟩ (.int .i64 s.c.c3)).setCell ⟨w.heap.size+1,4,none⟩ (.slice EA s.c.l.length eca)).setCell ⟨w.heap.size+1,5,none⟩ (.slice EC s.e.length ecc))=W:=⟨_,rfl⟩
 rw[hwd]
 have hJ:Hid (Below w.heap.size w wd0∧Cls wd0 (w.heap.size+1) [.int .i64 s.c.c0,.int .i64 s.c.c1,.int .i64 s.c.c2,.int .i64 s.c.c3,.slice EA s.c.l.length eca,.slice EC s.e.length ecc,.int .i64 0,.int .i64 0,.int .i64 0,.int .i64 0,.slice none 0 0,.slice none 0 0]∧Cls wd0 w.heap.size [.int .i64 0,.int .i64 0,.int .i64 0,.int .i64 0,.slice none 0 0,.slice none 0 0,.int .i64 0,.int .i64 0,.int .i64 0,.int .i64 0,.slice none 0 0,.slice none 0 0]∧Own wd0 wb0.heap.size (.slice EA s.c.l.length eca) s.c.l∧OwnC wd0 wb0.heap.size (.slice EC s.e.length ecc) s.e):=by
  have hs1:=hA.out.2.2.2.2.2.1
  have hs2:=hA.out.2.2.2.2.2.2
  have hb3:=hA.out.2.1.trans (hG.out.1.mono hA.out.2.1.size)
  have hge:w.heap.size≤w.heap.size+1:=by omega
  have hnw:w.heap.size≠w.heap.size+1:=by omega
  refine ⟨?_,?_,?_,?_,?_⟩
  ·rw[←hwd];exact (((((hb3.setCell hge _).setCell hge _).setCell hge _).setCell hge _).setCell hge _).setCell hge _
  ·rw[←hwd];exact ((((((hA.out.2.2.2.1.below hG.out.1).put 0 _).put 1 _).put 2 _).put 3 _).put 4 _).put 5 _
  ·rw[←hwd];exact ((((((hA.out.2.2.2.2.1.below hG.out.1).oth hnw _).oth hnw _).oth hnw _).oth hnw _).oth hnw _).oth hnw _
  ·rw[←hwd];exact own_agr hG.out.2.1 ((((((Agr.set _ fun h=>by omega).trans (Agr.set _ fun h=>by omega)).trans (Agr.set _ fun h=>by omega)).trans (Agr.set _ fun h=>by omega)).trans (Agr.set _ fun h=>by omega)).trans (Agr.set _ fun h=>by omega))
  ·rw[←hwd];exact own_agr hG.out.2.2 ((((((Agr.set _ fun h=>by omega).trans (Agr.set _ fun h=>by omega)).trans (Agr.set _ fun h=>by omega)).trans (Agr.set _ fun h=>by omega)).trans (Agr.set _ fun h=>by omega)).trans (Agr.set _ fun h=>by omega))
 clear hwd hG hF hCc hCl hKc hne hD0 hHeld p0 z0 p1 z1 p2 z2 p3 z3 p4 z4 p5 z5
 have hI0:Hid (Own wd0 wb0.heap.size (.slice EA s.c.l.length eca) s.c.l∧OwnC wd0 wb0.heap.size (.slice EC s.e.length ecc) s.e):=⟨hJ.out.2.2.2.1,hJ.out.2.2.2.2⟩
 have hs0H:Hid (w.heap.size+1<wb0.heap.size):=by have h1:=hA.out.2.2.2.2.2.1;have h2:=hA.out.2.2.2.2.2.2;show _<_;omega
 have hI2:Hid (Below w.heap.size w wd0∧Cls wd0 (w.heap.size+1) [.int .i64 s.c.c0,.int .i64 s.c.c1,.int .i64 s.c.c2,.int .i64 s.c.c3,.slice EA s.c.l.length eca,.slice EC s.e.length ecc,.int .i64 0,.int .i64 0,.int .i64 0,.int .i64 0,.slice none 0 0,.slice none 0 0]∧Cls wd0 w.heap.size [.int .i64 0,.int .i64 0,.int .i64 0,.int .i64 0,.slice none 0 0,.slice none 0 0,.int .i64 0,.int .i64 0,.int .i64 0,.int .i64 0,.slice none 0 0,.slice none 0 0]):=⟨hJ.out.1,hJ.out.2.1,hJ.out.2.2.1⟩
 clear hA hI hJ
 have hI:=hI2
 clear hI2
 rw[rounds_succ]
 go_upto_region 5 with fail
 obtain ⟨wb1,hwb⟩:∃W,wd0.alloc (.cells #[.int .i64 t.c.c0,.int .i64 t.c.c1,.int .i64 t.c.c2,.int .i64 t.c.c3,.slice B t.c.l.length cb,.slice D t.e.length cd] 37)=W:=⟨_,rfl⟩
 rw[hwb]
 have hA:Hid (Gr wd0 wb1∧Below w.heap.size w wb1∧Cls wb1 wd0.heap.size [.int .i64 t.c.c0,.int .i64 t.c.c1,.int .i64 t.c.c2,.int .i64 t.c.c3,.slice B t.c.l.length cb,.slice D t.e.length cd]∧Cls wb1 (w.heap.size+1) [.int .i64 s.c.c0,.int .i64 s.c.c1,.int .i64 s.c.c2,.int .i64 s.c.c3,.slice EA s.c.l.length eca,.slice EC s.e.length ecc,.int .i64 0,.int .i64 0,.int .i64 0,.int .i64 0,.slice none 0 0,.slice none 0 0]∧Cls wb1 w.heap.size [.int .i64 0,.int .i64 0,.int .i64 0,.int .i64 0,.slice none 0 0,.slice none 0 0,.int .i64 0,.int .i64 0,.int .i64 0,.int .i64 0,.slice none 0 0,.slice none 0 0]∧w.heap.size+1<wd0.heap.size∧wd0.heap.size<wb1.heap.size):=by
  have hg:Gr wd0 wb1:=by rw[←hwb];exact (Gr.refl _).alloc _
  exact ⟨hg,hI.out.1.trans (hg.below.mono hI.out.1.size),by rw[←hwb];exact Cls.new wd0 _ _,hI.out.2.1.gr hg,hI.out.2.2.gr hg,hI.out.2.1.lt,by rw[←hwb];simp⟩
 clear hwb
 have hD0:Hid (Below wb1.heap.size wb1 wb1.drew):=(Gr.refl wb1).drew.below
 have hCc:Hid (∀W,Below wb1.heap.size wb1 W→Calls Tryz.prog 25 #[.agg #[.int .i64 t.c.c0,.int .i64 t.c.c1,.int .i64 t.c.c2,.int .i64 t.c.c3,.slice B t.c.l.length cb]] W fun e w'=>∃B cb,e= .returned (.agg #[.int .i64 t.c.c0,.int .i64 t.c.c1,.int .i64 t.c.c2,.int .i64 t.c.c3,.slice B t.c.l.length cb])∧Own w' W.heap.size (.slice B t.c.l.length cb) t.c.l∧Below W.heap.size W w'):=fun W hW=>by
  have hb:=hA.out.2.1.trans (hW.mono hA.out.2.1.size)
  have hr:=hH.out.2.1.below hb
  exact copyCtx_any t.c B cb W (errC_parts (errT_parts hr.ok).1).2.1 hr.row hr.nr
 have hCl:Hid (∀W,Below wb1.heap.size wb1 W→Calls Tryz.prog 11 #[.slice D t.e.length cd] W fun e w'=>∃C c,e= .returned (.slice C t.e.length c)∧OwnC w' W.heap.size (.slice C t.e.length c) t.e∧Below W.heap.size W w'):=fun W hW=>by
  have hb:=hA.out.2.1.trans (hW.mono hA.out.2.1.size)
  have hr:=hH.out.2.1.below hb
  have:=(errT_parts hr.ok).2.1
  exact cloneC_any t.e D cd W (by omega) hr.cel hr.nc
 have hKc:Hid (∀W,Cls W wd0.heap.size [.int .i64 t.c.c0,.int .i64 t.c.c1,.int .i64 t.c.c2,.int .i64 t.c.c3,.slice B t.c.l.length cb,.slice D t.e.length cd]→(fun w'=>w'.cell? ⟨wd0.heap.size,0,none⟩=some (.int .i64 t.c.c0)∧w'.cell? ⟨wd0.heap.size,1,none⟩=some (.int .i64 t.c.c1)∧w'.cell? ⟨wd0.heap.size,2,none⟩=some (.int .i64 t.c.c2)∧w'.cell? ⟨wd0.heap.size,3,none⟩=some (.int .i64 t.c.c3)∧w'.cell? ⟨wd0.heap.size,4,none⟩=some (.slice B t.c.l.length cb)∧w'.cell? ⟨wd0.heap.size,5,none⟩=some (.slice D t.e.length cd)) W):=fun W hW=>⟨hW.cell (j:=0) rfl,hW.cell (j:=1) rfl,hW.cell (j:=2) rfl,hW.cell (j:=3) rfl,hW.cell (j:=4) rfl,hW.cell (j:=5) rfl⟩
 have hne:Hid (wd0.heap.size≠w.heap.size+1):=by have:=hA.out.2.2.2.2.2.1;show _≠_;omega
 refine wp_region_noPanic ?_
 refine wp_region_held_drew (S:=(fun w'=>w'.cell? ⟨wd0.heap.size,0,none⟩=some (.int .i64 t.c.c0)∧w'.cell? ⟨wd0.heap.size,1,none⟩=some (.int .i64 t.c.c1)∧w'.cell? ⟨wd0.heap.size,2,none⟩=some (.int .i64 t.c.c2)∧w'.cell? ⟨wd0.heap.size,3,none⟩=some (.int .i64 t.c.c3)∧w'.cell? ⟨wd0.heap.size,4,none⟩=some (.slice B t.c.l.length cb)∧w'.cell? ⟨wd0.heap.size,5,none⟩=some (.slice D t.e.length cd))) (by kernel_rfl) (hKc.out _ (hA.out.2.2.1.below hD0.out)) (fun hHeld=> ?_)
 refine wpAnyH_take (i:=0) (oi:= ?ois11) (v:= ?vs11) ?hops11 ?hss11 ?hfs11 ?hrs11 ?hQs11 ?hys11 (by assumption) ?rests11
 case hops11=>(simp only[List.getElem?_toArray,List.getElem?_cons_zero];rfl)
 case hss11=>kernel_rfl
 case hfs11=>kernel_rfl
 case hrs11=>kernel_rfl
 case hQs11=>exact fun _ _ _ h=>h
 case hys11=>(refine Or.inl ⟨by rfl,?_⟩;intro w hSw;(try dsimp only at hSw);go_simp<;>with_reducible rfl)
 try simp only[Act.put,List.setIfInBounds_toArray,List.set_cons_zero,List.set_cons_succ]
 refine wpAnyH_take (i:=1) (oi:= ?ois12) (v:= ?vs12) ?hops12 ?hss12 ?hfs12 ?hrs12 ?hQs12 ?hys12 (by assumption) ?rests12
 case hops12=>(simp only[List.getElem?_toArray,List.getElem?_cons_zero,List.getElem?_cons_succ];rfl)
 case hss12=>kernel_rfl
 case hfs12=>kernel_rfl
 case hrs12=>kernel_rfl
 case hQs12=>exact fun _ _ _ h=>h
 case hys12=>(refine Or.inl ⟨by rfl,?_⟩;intro w hSw;(try dsimp only at hSw);go_simp<;>with_reducible rfl)
 try simp only[Act.put,List.setIfInBounds_toArray,List.set_cons_zero,List.set_cons_succ]
 refine wpAnyH_take (i:=2) (oi:= ?ois13) (v:= ?vs13) ?hops13 ?hss13 ?hfs13 ?hrs13 ?hQs13 ?hys13 (by assumption) ?rests13
 case hops13=>(simp only[List.getElem?_toArray,List.getElem?_cons_zero,List.getElem?_cons_succ];rfl)
 case hss13=>kernel_rfl
 case hfs13=>kernel_rfl
 case hrs13=>kernel_rfl
 case hQs13=>exact fun _ _ _ h=>h
 case hys13=>(refine Or.inl ⟨by rfl,?_⟩;intro w hSw;(try dsimp only at hSw);go_simp<;>with_reducible rfl)
 try simp only[Act.put,List.setIfInBounds_toArray,List.set_cons_zero,List.set_cons_succ]
 refine wpAnyH_take (i:=4) (oi:= ?ois14) (v:= ?vs14) ?hops14 ?hss14 ?hfs14 ?hrs14 ?hQs14 ?hys14 (by assumption) ?rests14
 case hops14=>(simp only[List.getElem?_toArray,List.getElem?_cons_zero,List.getElem?_cons_succ];rfl)
 case hss14=>kernel_rfl
 case hfs14=>kernel_rfl
 case hrs14=>kernel_rfl
 case hQs14=>exact fun _ _ _ h=>h
 case hys14=>(refine Or.inl ⟨by rfl,?_⟩;intro w hSw;(try dsimp only at hSw);go_simp<;>with_reducible rfl)
 try simp only[Act.put,List.setIfInBounds_toArray,List.set_cons_zero,List.set_cons_succ]
 refine wpAnyH_take (i:=5) (oi:= ?ois15) (v:= ?vs15) ?hops15 ?hss15 ?hfs15 ?hrs15 ?hQs15 ?hys15 (by assumption) ?rests15
 case hops15=>(simp only[List.getElem?_toArray,List.getElem?_cons_zero,List.getElem?_cons_succ];rfl)
 case hss15=>kernel_rfl
 case hfs15=>kernel_rfl
 case hrs15=>kernel_rfl
 case hQs15=>exact fun _ _ _ h=>h
 case hys15=>(refine Or.inl ⟨by rfl,?_⟩;intro w hSw;(try dsimp only at hSw);go_simp<;>with_reducible rfl)
 try simp only[Act.put,List.setIfInBounds_toArray,List.set_cons_zero,List.set_cons_succ]
 refine wpAnyH_take (i:=8) (oi:= ?ois16) (v:= ?vs16) ?hops16 ?hss16 ?hfs16 ?hrs16 ?hQs16 ?hys16 (by assumption) ?rests16
 case hops16=>(simp only[List.getElem?_toArray,List.getElem?_cons_zero,List.getElem?_cons_succ];rfl)
 case hss16=>kernel_rfl
 case hfs16=>kernel_rfl
 case hrs16=>kernel_rfl
 case hQs16=>exact fun _ _ _ h=>h
 case hys16=>(refine Or.inl ⟨by rfl,?_⟩;intro w hSw;(try dsimp only at hSw);go_simp<;>with_reducible rfl)
 try simp only[Act.put,List.setIfInBounds_toArray,List.set_cons_zero,List.set_cons_succ]
 refine wpAnyH_ready (rs:=[3]) (by kernel_rfl) (by simp) ?_
 refine AllReadyH.cons (o:= ?ois17) ?hops17 (fun K hK=> ?steps17) ?mores17
 case hops17=>(simp only[List.getElem?_toArray,List.getElem?_cons_zero,List.getElem?_cons_succ];rfl)
 case mores17=>exact AllReadyH.nil
 go_simp
 (go_at_call 25;(with_reducible refine Calls.mono (hCc.out _ hD0.out) ?_);rintro e w2 ⟨EB,ecb,rfl,f1,f2⟩;have hF:Hid (Below wb1.heap.size wb1 w2∧Own w2 wb1.heap.size (.slice EB t.c.l.length ecb) t.c.l):=⟨hD0.out.trans (f2.mono hD0.out.size),f1⟩;clear f1 f2)
 first|(go_wp2_with fail)|skip
 refine hK.out _ _ ?_ (fun hHeld=> ?_)
 ·(try dsimp only);first|with_reducible exact hKc.out _ (hA.out.2.2.1.below hG.out.1)|with_reducible exact hKc.out _ (hA.out.2.2.1.below hF.out.1)|exact hKc.out _ (((((((hA.out.2.2.1.below hG.out.1).oth hne.out _).oth hne.out _).oth hne.out _).oth hne.out _).oth hne.out _).oth hne.out _)
 clear hK K
 try simp only[Act.put,List.setIfInBounds_toArray,List.set_cons_zero,List.set_cons_succ]
 refine wpAnyH_ready (rs:=[6]) (by kernel_rfl) (by simp) ?_
 refine AllReadyH.cons (o:= ?ois18) ?hops18 (fun K hK=> ?steps18) ?mores18
 case hops18=>(simp only[List.getElem?_toArray,List.getElem?_cons_zero,List.getElem?_cons_succ];rfl)
 case mores18=>exact AllReadyH.nil
 go_simp
 (go_at_call 11;(with_reducible refine Calls.mono (hCl.out _ hF.out.1) ?_);rintro e w3 ⟨ED,ecd,rfl,f1,f2⟩;have hG:Hid (Below wb1.heap.size wb1 w3∧Own w3 wb1.heap.size (.slice EB t.c.l.length ecb) t.c.l∧OwnC w3 wb1.heap.size (.slice ED t.e.length ecd) t.e):=⟨hF.out.1.trans (f2.mono hF.out.1.size),hF.out.2.below f2,f1.mono hF.out.1.size⟩;clear f1 f2;have p6:=(hA.out.2.2.2.1.below hG.out.1).cell (j:=6) rfl;have z6:=(hA.out.2.2.2.1.below hG.out.1).fz 6;have p7:=(hA.out.2.2.2.1.below hG.out.1).cell (j:=7) rfl;have z7:=(hA.out.2.2.2.1.below hG.out.1).fz 7;have p8:=(hA.out.2.2.2.1.below hG.out.1).cell (j:=8) rfl;have z8:=(hA.out.2.2.2.1.below hG.out.1).fz 8;have p9:=(hA.out.2.2.2.1.below hG.out.1).cell (j:=9) rfl;have z9:=(hA.out.2.2.2.1.below hG.out.1).fz 9;have p10:=(hA.out.2.2.2.1.below hG.out.1).cell (j:=10) rfl;have z10:=(hA.out.2.2.2.1.below hG.out.1).fz 10;have p11:=(hA.out.2.2.2.1.below hG.out.1).cell (j:=11) rfl;have z11:=(hA.out.2.2.2.1.below hG.out.1).fz 11)
 first|(go_wp2_with fail)|skip
 refine hK.out _ _ ?_ (fun hHeld=> ?_)
 ·(try dsimp only);first|with_reducible exact hKc.out _ (hA.out.2.2.1.below hG.out.1)|with_reducible exact hKc.out _ (hA.out.2.2.1.below hF.out.1)|exact hKc.out _ (((((((hA.out.2.2.1.below hG.out.1).oth hne.out _).oth hne.out _).oth hne.out _).oth hne.out _).oth hne.out _).oth hne.out _)
 clear hK K
 try simp only[Act.put,List.setIfInBounds_toArray,List.set_cons_zero,List.set_cons_succ]
 refine wpAnyH_take (i:=7) (oi:= ?ois19) (v:= ?vs19) ?hops19 ?hss19 ?hfs19 ?hrs19 ?hQs19 ?hys19 (by assumption) ?rests19
 case hops19=>(simp only[List.getElem?_toArray,List.getElem?_cons_zero,List.getElem?_cons_succ];rfl)
 case hss19=>kernel_rfl
 case hfs19=>kernel_rfl
 case hrs19=>kernel_rfl
 case hQs19=>exact fun _ _ _ h=>h
 case hys19=>(refine Or.inl ⟨by rfl,?_⟩;intro w hSw;(try dsimp only at hSw);go_simp<;>with_reducible rfl)
 try simp only[Act.put,List.setIfInBounds_toArray,List.set_cons_zero,List.set_cons_succ]
 refine wpAnyH_take (i:=9) (oi:= ?ois110) (v:= ?vs110) ?hops110 ?hss110 ?hfs110 ?hrs110 ?hQs110 ?hys110 (by assumption) ?rests110
 case hops110=>(simp only[List.getElem?_toArray,List.getElem?_cons_zero,List.getElem?_cons_succ];rfl)
 case hss110=>kernel_rfl
 case hfs110=>kernel_rfl
 case hrs110=>kernel_rfl
 case hQs110=>exact fun _ _ _ h=>h
 case hys110=>(refine Or.inl ⟨by rfl,?_⟩;intro w hSw;(try dsimp only at hSw);go_simp<;>with_reducible rfl)
 try simp only[Act.put,List.setIfInBounds_toArray,List.set_cons_zero,List.set_cons_succ]
 refine wpAnyH_ready (rs:=[10]) (by kernel_rfl) (by simp) ?_
 refine AllReadyH.cons (o:= ?ois111) ?hops111 (fun K hK=> ?steps111) ?mores111
 case hops111=>(simp only[List.getElem?_toArray,List.getElem?_cons_zero,List.getElem?_cons_succ];rfl)
 case mores111=>exact AllReadyH.nil
 go_simp
 refine hK.out _ _ ?_ (fun hHeld=> ?_)
 ·(try dsimp only);first|with_reducible exact hKc.out _ (hA.out.2.2.1.below hG.out.1)|with_reducible exact hKc.out _ (hA.out.2.2.1.below hF.out.1)|exact hKc.out _ (((((((hA.out.2.2.1.below hG.out.1).oth hne.out _).oth hne.out _).oth hne.out _).oth hne.out _).oth hne.out _).oth hne.out _)
 clear hK K
 try simp only[Act.put,List.setIfInBounds_toArray,List.set_cons_zero,List.set_cons_succ]
 refine wpAnyH_done (by kernel_rfl) ?_ _
 refine NoPanic.normal ?_
 go_wp2_with fail
 obtain ⟨wd1,hwd⟩:∃W,((((((w3.setCell ⟨w.heap.size+1,6,none⟩ (.int .i64 t.c.c0)).setCell ⟨w.heap.size+1,7,none⟩ (.int .i64 t.c.c1)).setCell ⟨w.heap.size+1,8,none⟩ (.int .i64 t.c.c2)).setCell ⟨w.heap.size+1,9,none⟩ (.int .i64 t.c.c3)).setCell ⟨w.heap.size+1,10,none⟩ (.slice EB t.c.l.length ecb)).setCell ⟨w.heap.size+1,11,none⟩ (.slice ED t.e.length ecd))=W:=⟨_,rfl⟩
 rw[hwd]
 have hJ:Hid (Below w.heap.size w wd1∧Cls wd1 (w.heap.size+1) [.int .i64 s.c.c0,.int .i64 s.c.c1,.int .i64 s.c.c2,.int .i64 s.c.c3,.slice EA s.c.l.length eca,.slice EC s.e.length ecc,.int .i64 t.c.c0,.int .i64 t.c.c1,.int .i64 t.c.c2,.int .i64 t.c.c3,.slice EB t.c.l.length ecb,.slice ED t.e.length ecd]∧Cls wd1 w.heap.size [.int .i64 0,.int .i64 0,.int .i64 0,.int .i64 0,.slice none 0 0,.slice none 0 0,.int .i64 0,.int .i64 0,.int .i64 0,.int .i64 0,.slice none 0 0,.slice none 0 0]∧Own wd1 wb1.heap.size (.slice EB t.c.l.length ecb) t.c.l∧OwnC wd1 wb1.heap.size (.slice ED t.e.length ecd) t.e∧Own wd1 wb0.heap.size (.slice EA s.c.l.length eca) s.c.l∧OwnC wd1 wb0.heap.size (.slice EC s.e.length ecc) s.e):=by
  have hs1:=hA.out.2.2.2.2.2.1
  have hs2:=hA.out.2.2.2.2.2.2
  have hb3:=hA.out.2.1.trans (hG.out.1.mono hA.out.2.1.size)
  have hge:w.heap.size≤w.heap.size+1:=by omega
  have hnw:w.heap.size≠w.heap.size+1:=by omega
  refine ⟨?_,?_,?_,?_,?_,?_,?_⟩
  ·rw[←hwd];exact (((((hb3.setCell hge _).setCell hge _).setCell hge _).setCell hge _).setCell hge _).setCell hge _
  ·rw[←hwd];exact ((((((hA.out.2.2.2.1.below hG.out.1).put 6 _).put 7 _).put 8 _).put 9 _).put 10 _).put 11 _
  ·rw[←hwd];exact ((((((hA.out.2.2.2.2.1.below hG.out.1).oth hnw _).oth hnw _).oth hnw _).oth hnw _).oth hnw _).oth hnw _
  ·rw[←hwd];exact own_agr hG.out.2.1 ((((((Agr.set _ fun h=>by omega).trans (Agr.set _ fun h=>by omega)).trans (Agr.set _ fun h=>by omega)).trans (Agr.set _ fun h=>by omega)).trans (Agr.set _ fun h=>by omega)).trans (Agr.set _ fun h=>by omega))
  ·rw[←hwd];exact own_agr hG.out.2.2 ((((((Agr.set _ fun h=>by omega).trans (Agr.set _ fun h=>by omega)).trans (Agr.set _ fun h=>by omega)).trans (Agr.set _ fun h=>by omega)).trans (Agr.set _ fun h=>by omega)).trans (Agr.set _ fun h=>by omega))
  ·have hbx:Below wd0.heap.size wd0 w3:=hA.out.1.below.trans (hG.out.1.mono hA.out.1.size)
   have hs00:=hs0H.out
   rw[←hwd];exact own_agr (hI0.out.1.below hbx) ((((((Agr.set _ fun h=>by omega).trans (Agr.set _ fun h=>by omega)).trans (Agr.set _ fun h=>by omega)).trans (Agr.set _ fun h=>by omega)).trans (Agr.set _ fun h=>by omega)).trans (Agr.set _ fun h=>by omega))
  ·have hbx:Below wd0.heap.size wd0 w3:=hA.out.1.below.trans (hG.out.1.mono hA.out.1.size)
   have hs00:=hs0H.out
   rw[←hwd];exact own_agr (OwnG.below hI0.out.2 hbx) ((((((Agr.set _ fun h=>by omega).trans (Agr.set _ fun h=>by omega)).trans (Agr.set _ fun h=>by omega)).trans (Agr.set _ fun h=>by omega)).trans (Agr.set _ fun h=>by omega)).trans (Agr.set _ fun h=>by omega))
 clear hwd hG hF hCc hCl hKc hne hD0 hHeld p6 z6 p7 z7 p8 z8 p9 z9 p10 z10 p11 z11
 rw[rounds_succ]
 have q0:=hJ.out.2.1.cell (j:=0) rfl
 have q1:=hJ.out.2.1.cell (j:=1) rfl
 have q2:=hJ.out.2.1.cell (j:=2) rfl
 have q3:=hJ.out.2.1.cell (j:=3) rfl
 have q4:=hJ.out.2.1.cell (j:=4) rfl
 have q5:=hJ.out.2.1.cell (j:=5) rfl
 have q6:=hJ.out.2.1.cell (j:=6) rfl
 have q7:=hJ.out.2.1.cell (j:=7) rfl
 have q8:=hJ.out.2.1.cell (j:=8) rfl
 have q9:=hJ.out.2.1.cell (j:=9) rfl
 have q10:=hJ.out.2.1.cell (j:=10) rfl
 have q11:=hJ.out.2.1.cell (j:=11) rfl
 have r0:=hJ.out.2.2.1.cell (j:=0) rfl
 have r1:=hJ.out.2.2.1.cell (j:=1) rfl
 have r2:=hJ.out.2.2.1.cell (j:=2) rfl
 have r3:=hJ.out.2.2.1.cell (j:=3) rfl
 have r4:=hJ.out.2.2.1.cell (j:=4) rfl
 have r5:=hJ.out.2.2.1.cell (j:=5) rfl
 have r6:=hJ.out.2.2.1.cell (j:=6) rfl
 have r7:=hJ.out.2.2.1.cell (j:=7) rfl
 have r8:=hJ.out.2.2.1.cell (j:=8) rfl
 have r9:=hJ.out.2.2.1.cell (j:=9) rfl
 have r10:=hJ.out.2.2.1.cell (j:=10) rfl
 have r11:=hJ.out.2.2.1.cell (j:=11) rfl
 have z0:=hJ.out.2.2.1.fz 0
 have z1:=hJ.out.2.2.1.fz 1
 have z2:=hJ.out.2.2.1.fz 2
 have z3:=hJ.out.2.2.1.fz 3
 have z4:=hJ.out.2.2.1.fz 4
 have z5:=hJ.out.2.2.1.fz 5
 have z6:=hJ.out.2.2.1.fz 6
 have z7:=hJ.out.2.2.1.fz 7
 have z8:=hJ.out.2.2.1.fz 8
 have z9:=hJ.out.2.2.1.fz 9
 have z10:=hJ.out.2.2.1.fz 10
 have z11:=hJ.out.2.2.1.fz 11
 go_wp2
 have hs00:=hs0H.out
 have hs1:=hA.out.2.2.2.2.2.1
 have hs2:=hA.out.2.2.2.2.2.2
 have hAg:∀base,w.heap.size<base→Agr (fun b=>base≤b) wd1 ((((((((((((wd1.setCell ⟨w.heap.size,0,none⟩ (.int .i64 s.c.c0)).setCell ⟨w.heap.size,1,none⟩ (.int .i64 s.c.c1)).setCell ⟨w.heap.size,2,none⟩ (.int .i64 s.c.c2)).setCell ⟨w.heap.size,3,none⟩ (.int .i64 s.c.c3)).setCell ⟨w.heap.size,4,none⟩ (.slice EA s.c.l.length eca)).setCell ⟨w.heap.size,5,none⟩ (.slice EC s.e.length ecc)).setCell ⟨w.heap.size,6,none⟩ (.int .i64 t.c.c0)).setCell ⟨w.heap.size,7,none⟩ (.int .i64 t.c.c1)).setCell ⟨w.heap.size,8,none⟩ (.int .i64 t.c.c2)).setCell ⟨w.heap.size,9,none⟩ (.int .i64 t.c.c3)).setCell ⟨w.heap.size,10,none⟩ (.slice EB t.c.l.length ecb)).setCell ⟨w.heap.size,11,none⟩ (.slice ED t.e.length ecd)):=fun base hbase=>((((((((((((Agr.set _ fun h=>by omega).trans (Agr.set _ fun h=>by omega)).trans (Agr.set _ fun h=>by omega)).trans (Agr.set _ fun h=>by omega)).trans (Agr.set _ fun h=>by omega)).trans (Agr.set _ fun h=>by omega)).trans (Agr.set _ fun h=>by omega)).trans (Agr.set _ fun h=>by omega)).trans (Agr.set _ fun h=>by omega)).trans (Agr.set _ fun h=>by omega)).trans (Agr.set _ fun h=>by omega)).trans (Agr.set _ fun h=>by omega))
 have hl0:w.heap.size≤wb0.heap.size:=by omega
 have hl1:w.heap.size≤wb1.heap.size:=by have:=hA.out.2.1.size;omega
 exact bodyPost_ret (v:= .agg #[.int .i64 s.c.c0,.int .i64 s.c.c1,.int .i64 s.c.c2,.int .i64 s.c.c3,.slice EA s.c.l.length eca,.slice EC s.e.length ecc,.int .i64 t.c.c0,.int .i64 t.c.c1,.int .i64 t.c.c2,.int .i64 t.c.c3,.slice EB t.c.l.length ecb,.slice ED t.e.length ecd]) (by simp[results,Tryz.results7,go_sem,r0,r1,r2,r3,r4,r5,r6,r7,r8,r9,r10,r11]) rfl ⟨EA,eca,EC,ecc,EB,ecb,ED,ecd,rfl,⟨Own.mono (own_agr hJ.out.2.2.2.2.2.1 (hAg _ (by omega))) hl0,OwnG.mono (own_agr hJ.out.2.2.2.2.2.2 (hAg _ (by omega))) hl0⟩,⟨Own.mono (own_agr hJ.out.2.2.2.1 (hAg _ (by omega))) hl1,OwnG.mono (own_agr hJ.out.2.2.2.2.1 (hAg _ (by omega))) hl1⟩,((((((((((((hJ.out.1.setCell (Nat.le_refl _) _).setCell (Nat.le_refl _) _).setCell (Nat.le_refl _) _).setCell (Nat.le_refl _) _).setCell (Nat.le_refl _) _).setCell (Nat.le_refl _) _).setCell (Nat.le_refl _) _).setCell (Nat.le_refl _) _).setCell (Nat.le_refl _) _).setCell (Nat.le_refl _) _).setCell (Nat.le_refl _) _).setCell (Nat.le_refl _) _)⟩
end Go.Proofs.YtkadjjmkokhldaaGreat

namespace Go.Proofs.YtkadjjmkokhldaaGreat
open Go.RowKit Go.Sort

theorem Tryz.infoQ7:(Tryz.prog.info? 48).map (fun i=>(i.zero,i.size,i.bytes))=some (some (.agg #[.int .i64 0,.int .i64 0,.int .i64 0,.int .i64 0,.int .i64 0,.int .i64 0,.slice none 0 0]),7,72):=by kernel_rfl
theorem wpList_append_q7 (w:World) {ops:Array Oper} {rest:List Oper} {o:Oper} {a:Act} {Q:Exit→Act→World→Prop} (hgd:o.guard=none) (s x:Operand)
  (ho:o.op= .call { callee:= .builtin .append,args:= #[s,x],argTypes:= #[42,42] })
  (base:Nat) (v:Value) (l m:List Stp) (A:Option Addr) (cap:Nat) (hs:a.eval s=v) (hx:a.eval x= .slice A m.length cap) (hown:OwnG encQ 7 48 w base v l) (hr:RowG encQ 7 w A m) (hA:A=none→cap=0)
  (hml:l.length+m.length≤maxLen) (hb:(l.length+m.length)*72≤140737488355328) (hbase:base≤w.heap.size)
  (h:∀v' w',OwnG encQ 7 48 w' base v' (l++m)→w.grownBy w' v.ownBlock→wpList Tryz.prog ops Q rest (a.put o.dst v') w'):wpList Tryz.prog ops Q (o::rest) a w :=
 wpList_plain hgd fun _ hK=>wp_append_g encQ_len encQ_one (by omega) 42 Tryz.underlying42 (.agg #[.int .i64 0,.int .i64 0,.int .i64 0,.int .i64 0,.int .i64 0,.int .i64 0,.slice none 0 0]) 72 Tryz.infoQ7 rfl w s x ho base v l m A cap hs hx hown hr hA hml hb hbase fun v' w' h2 h3=>hK _ _ (h v' w' h2 h3)
set_option maxRecDepth 100000 in
set_option maxHeartbeats 400000 in
theorem cloneN_any (q:List Int) (A:Option Addr) (cap:Nat) (w:World) (hl:q.length*8≤140737488351232) (hr:RowI w A q) (hA:A=none→cap=0) :
  Calls Tryz.prog 9 #[.slice A q.length cap] w fun e w'=>∃C c,e= .returned (.slice C q.length c)∧OwnG encI 1 3 w' w.heap.size (.slice C q.length c) q∧Below w.heap.size w w':=by
 have hrH:Hid (RowI w A q):=hr
 clear hr
 have q22:∀(w:World) (a:Option Addr) (n c n' c':Nat),(binOp .eql 46 (.slice a n c) (.slice none n' c')).run Tryz.prog w= .ok (.bool a.isNone) w:=fun w a n c n' c'=>Lib.run_eql_slice_nil w _ _ a n c n' c' Tryz.underlying46
 cases A with
 | none =>
  have hq0:Hid (q=[]):=by
   rcases hrH.out with h|⟨_,_,h,_⟩
   ·exact h
   ·cases h
  go_enter Tryz.func9,Tryz.ntmps9
  go_wp2
  go_ret
  rw[hq0.out]
  exact ⟨_,_,rfl,OwnG.nil _ _ _ _ _,Below.refl _ _⟩
 | some ad =>
  go_enter Tryz.func9,Tryz.ntmps9
  have hoX:Hid (OwnG encI 1 3 (w.alloc (.cells #[] 3)) w.heap.size (.slice (some ⟨w.heap.size,0,none⟩) 0 0) []∧RowI (w.alloc (.cells #[] 3)) (some ad) q∧([]:List Int).length+q.length≤maxLen∧(([]:List Int).length+q.length)*8≤140737488355328∧w.heap.size≤(w.alloc (.cells #[] 3)).heap.size) :=
   ⟨⟨rfl,Or.inr ⟨w.heap.size,0,#[],rfl,Nat.le_refl _,(MapKept.heap_alloc _ _).1,Nat.le_refl _,by simp,rfl,rfl⟩⟩,hrH.out.gr ((Gr.refl _).alloc _),by unfold maxLen;simp;omega,by simp;omega,by simp⟩
  go_wp2_with (at_builtin;refine wpList_append_i _ rfl (.tmp 5) (.tmp 6) rfl w.heap.size (.slice (some ⟨w.heap.size,0,none⟩) 0 0) [] q (some ad) cap rfl rfl hoX.out.1 hoX.out.2.1 (fun h=>by cases h) hoX.out.2.2.1 hoX.out.2.2.2.1 hoX.out.2.2.2.2 ?_;intro v1 w1 hown1 hgr1)
  have hfin:Hid (OwnG encI 1 3 w1 w.heap.size v1 q∧Below w.heap.size w w1):=⟨hown1,((Gr.refl w).alloc _).below.trans (OwnG.grown_below hoX.out.1 hgr1 hoX.out.2.2.2.2)⟩
  clear hown1 hgr1
  go_ret
  obtain ⟨C,c,hv,_⟩:=OwnG.row encI_len hfin.out.1
  subst hv
  exact ⟨C,c,rfl,hfin.out⟩
set_option maxRecDepth 100000 in
set_option maxHeartbeats 400000 in
theorem cloneQ_any (q:List Stp) (A:Option Addr) (cap:Nat) (w:World) (hl:q.length*72≤140737488351232) (hr:RowG encQ 7 w A q) (hA:A=none→cap=0) :
  Calls Tryz.prog 8 #[.slice A q.length cap] w fun e w'=>∃C c,e= .returned (.slice C q.length c)∧OwnG encQ 7 48 w' w.heap.size (.slice C q.length c) q∧Below w.heap.size w w':=by
 have hrH:Hid (RowG encQ 7 w A q):=hr
 clear hr
 have q22:∀(w:World) (a:Option Addr) (n c n' c':Nat),(binOp .eql 42 (.slice a n c) (.slice none n' c')).run Tryz.prog w= .ok (.bool a.isNone) w:=fun w a n c n' c'=>Lib.run_eql_slice_nil w _ _ a n c n' c' Tryz.underlying42
 cases A with
 | none =>
  have hq0:Hid (q=[]):=by
   rcases hrH.out with h|⟨_,_,h,_⟩
   ·exact h
   ·cases h
  go_enter Tryz.func8,Tryz.ntmps8
  go_wp2
  go_ret
  rw[hq0.out]
  exact ⟨_,_,rfl,OwnG.nil _ _ _ _ _,Below.refl _ _⟩
 | some ad =>
  go_enter Tryz.func8,Tryz.ntmps8
  have hoX:Hid (OwnG encQ 7 48 (w.alloc (.cells #[] 48)) w.heap.size (.slice (some ⟨w.heap.size,0,none⟩) 0 0) []∧RowG encQ 7 (w.alloc (.cells #[] 48)) (some ad) q∧([]:List Stp).length+q.length≤maxLen∧(([]:List Stp).length+q.length)*72≤140737488355328∧w.heap.size≤(w.alloc (.cells #[] 48)).heap.size) :=
   ⟨⟨rfl,Or.inr ⟨w.heap.size,0,#[],rfl,Nat.le_refl _,(MapKept.heap_alloc _ _).1,Nat.le_refl _,by simp,rfl,rfl⟩⟩,hrH.out.gr ((Gr.refl _).alloc _),by unfold maxLen;simp;omega,by simp;omega,by simp⟩
  go_wp2_with (at_builtin;refine wpList_append_q7 _ rfl (.tmp 5) (.tmp 6) rfl w.heap.size (.slice (some ⟨w.heap.size,0,none⟩) 0 0) [] q (some ad) cap rfl rfl hoX.out.1 hoX.out.2.1 (fun h=>by cases h) hoX.out.2.2.1 hoX.out.2.2.2.1 hoX.out.2.2.2.2 ?_;intro v1 w1 hown1 hgr1)
  have hfin:Hid (OwnG encQ 7 48 w1 w.heap.size v1 q∧Below w.heap.size w w1):=⟨hown1,((Gr.refl w).alloc _).below.trans (OwnG.grown_below hoX.out.1 hgr1 hoX.out.2.2.2.2)⟩
  clear hown1 hgr1
  go_ret
  obtain ⟨C,c,hv,_⟩:=OwnG.row encQ_len hfin.out.1
  subst hv
  exact ⟨C,c,rfl,hfin.out⟩
end Go.Proofs.YtkadjjmkokhldaaGreat

namespace Go.Proofs.YtkadjjmkokhldaaGreat
open Go.RowKit Go.Sort

section
variable {w wr:World} {N M:Nat} {s t:Tab} {qs:List (List Stp)} {s' t':Tab} {qs':List (List Stp)} {n0 n1:Nat}
theorem doTw (h:Twn w wr N M s t qs s' t' qs' n0 n1) (hn:n1≤wr.heap.size) (k x2 x3 x4 x5:Int):Calls Tryz.prog 5 #[.pointer (some ⟨N,0,none⟩),.agg #[.int .i64 k,.int .i64 x2,.int .i64 x3,.int .i64 x4,.int .i64 x5]] wr fun e w'=>e= .returned (.int .i64 (ndE s t 2 k x2 x3 x4 x5))∧Twn w w' N M (ndS s 2 k x2 x3 x4 x5) (ndT t 2 k x2 x3 x4 x5) qs s' t' qs' n0 n1∧Sp (fun b=>b≠N) (fun t=>t=77) wr w':=by
 obtain ⟨P,P',h1,h2,h3,h4,h5,h6⟩:=h.ex
 refine (do_any h1 k x2 x3 x4 x5).mono ?_
 rintro e w' ⟨rfl,f1,f2⟩
 exact ⟨rfl,h.wrote h1 h2 h3 h4 h5 h6 hn f1 f2⟩
theorem takeTw (h:Twn w wr N M s t qs s' t' qs' n0 n1) (hn:n1≤wr.heap.size) (a b:Tab) (PA PB PC PD:Option Addr) (pca pcb pcc pcd:Nat) (ra:Row wr PA a.c.l) (rc:RowC wr PC a.e) (rb:Row wr PB b.c.l) (rd:RowC wr PD b.e) (la:a.c.l.length≤maxLen) (lc:a.e.length≤maxLen) (lb:b.c.l.length≤maxLen) (ld:b.e.length≤maxLen) (na:PA=none→pca=0) (nb:PB=none→pcb=0) :
  Calls Tryz.prog 12 #[.pointer (some ⟨N,0,none⟩),.agg #[.int .i64 a.c.c0,.int .i64 a.c.c1,.int .i64 a.c.c2,.int .i64 a.c.c3,.slice PA a.c.l.length pca,.slice PC a.e.length pcc,.int .i64 b.c.c0,.int .i64 b.c.c1,.int .i64 b.c.c2,.int .i64 b.c.c3,.slice PB b.c.l.length pcb,.slice PD b.e.length pcd]] wr fun e w'=>e= .returned (.int .i64 (tkE s t a b))∧Twn w w' N M (tkS s t a b) (tkT s t a b) qs s' t' qs' n0 n1∧Sp (fun b=>b≠N) (fun t=>t=77) wr w':=by
 obtain ⟨P,P',h1,h2,h3,h4,h5,h6⟩:=h.ex
 refine (take_any h1 a b PA PB PC PD pca pcb pcc pcd ra rc rb rd la lc lb ld na nb).mono ?_
 rintro e w' ⟨rfl,f1,f2⟩
 exact ⟨rfl,h.wrote h1 h2 h3 h4 h5 h6 hn f1 f2⟩
theorem watchTw (h:Twn w wr N M s t qs s' t' qs' n0 n1) (hn:n1≤wr.heap.size) (q:List Stp) (QA:Option Addr) (cq:Nat) (hl:q.length≤maxLen) (hq:Stps wr QA q) :
  Calls Tryz.prog 13 #[.pointer (some ⟨N,0,none⟩),.slice QA q.length cq] wr fun e w'=>e= .returned (.int .i64 (wtE q qs))∧Twn w w' N M s t (wtQ q qs) s' t' qs' n0 n1∧Sp (fun b=>b≠N) (fun t=>t=77) wr w':=by
 obtain ⟨P,P',h1,h2,h3,h4,h5,h6⟩:=h.ex
 refine (watch_any h1 q QA cq hl hq).mono ?_
 rintro e w' ⟨rfl,f1,f2⟩
 exact ⟨rfl,h.wrote h1 h2 h3 h4 h5 h6 hn f1 f2⟩
theorem viewsTw (h:Twn w wr N M s t qs s' t' qs' n0 n1):Calls Tryz.prog 6 #[.pointer (some ⟨N,0,none⟩)] wr fun e w'=>e= .returned (.int .i64 (qs.length:Int))∧w'=wr:=by
 obtain ⟨P,P',h1,_⟩:=h.ex
 exact views_any h1
theorem viewTw (h:Twn w wr N M s t qs s' t' qs' n0 n1) {j:Nat} (hj:j<qs.length) :
  Calls Tryz.prog 18 #[.pointer (some ⟨N,0,none⟩),.int .i64 j] wr fun e w'=>∃(L:List Itm) (C:Option Addr) (k:Nat),e= .returned (.tuple #[.slice C L.length k,.int .i64 (plnE qs[j] (ofR s) (ofR t))])∧L.map Itm.z=evlF qs[j] (ofR s) (ofR t)∧Lv w' C k L∧Below wr.heap.size wr w'∧NwT w' k wr.heap.size C L:=by
 obtain ⟨P,P',h1,_⟩:=h.ex
 exact view_any h1 hj
theorem wholeTw (h:Twn w wr N M s t qs s' t' qs' n0 n1) :
  Calls Tryz.prog 7 #[.pointer (some ⟨N,0,none⟩)] wr fun e w'=>∃(EA:Option Addr) (eca:Nat) (EC:Option Addr) (ecc:Nat) (EB:Option Addr) (ecb:Nat) (ED:Option Addr) (ecd:Nat),e= .returned (.agg #[.int .i64 s.c.c0,.int .i64 s.c.c1,.int .i64 s.c.c2,.int .i64 s.c.c3,.slice EA s.c.l.length eca,.slice EC s.e.length ecc,.int .i64 t.c.c0,.int .i64 t.c.c1,.int .i64 t.c.c2,.int .i64 t.c.c3,.slice EB t.c.l.length ecb,.slice ED t.e.length ecd])∧(Own w' wr.heap.size (.slice EA s.c.l.length eca) s.c.l∧OwnC w' wr.heap.size (.slice EC s.e.length ecc) s.e)∧(Own w' wr.heap.size (.slice EB t.c.l.length ecb) t.c.l∧OwnC w' wr.heap.size (.slice ED t.e.length ecd) t.e)∧Below wr.heap.size wr w':=by
 obtain ⟨P,P',h1,_⟩:=h.ex
 exact whole_any h1
end
theorem Own.rows {w:World} {base n c:Nat} {A:Option Addr} {l:List (Int×Int)} (h:Own w base (.slice A n c) l):Row w A l∧(A=none→c=0):=by
 obtain ⟨A',c',e,h1,h2,_⟩:=h.row
 injection e with e1 _ e3
 subst e1 e3
 exact ⟨h2,h1⟩
theorem OwnC.rows {w:World} {base n c:Nat} {A:Option Addr} {l:List Cel} (h:OwnC w base (.slice A n c) l):RowC w A l∧(A=none→c=0):=by
 obtain ⟨A',c',e,h1,h2,_⟩:=OwnG.row encC_len h
 injection e with e1 _ e3
 subst e1 e3
 exact ⟨h2,h1⟩
theorem wtQ_bare {q q':List Stp} {qs:List (List Stp)} (e:q'.map Go.Proofs.YtkadjjmkokhldaaGreat.bare=q.map Go.Proofs.YtkadjjmkokhldaaGreat.bare):(wtQ q qs).map (List.map Go.Proofs.YtkadjjmkokhldaaGreat.bare)=(wtQ q' qs).map (List.map Go.Proofs.YtkadjjmkokhldaaGreat.bare):=by
 have e1:errQ q=errQ q':=by rw[←errQ_bare q,←e,errQ_bare]
 have e2:wtE q qs=wtE q' qs:=by unfold wtE;rw[e1]
 unfold wtQ
 rw[e2]
 by_cases h:wtE q' qs=0
 ·rw[if_pos h,if_pos h,List.map_append,List.map_append,List.map_cons,List.map_cons,e]
 ·rw[if_neg h,if_neg h]
theorem RowG.spT {α : Type} {enc: α → List Value} {k k' m c:Nat} {T:TypeId} {K K':Nat→Prop} {U:TypeId→Prop} {w w':World} {A:Option Addr} {l:List α} (h:RowG enc k w A l) (hs:RowS T k' K w A m c) (q:Sp K' U w w') (hU:¬U T):RowG enc k w' A l:=by
 rcases h with h|⟨b,off,hA,hb,hc⟩
 ·exact Or.inl h
 ·obtain ⟨_,_,_,_,cur,h5,_⟩:=hs.2.2 _ hA
  refine Or.inr ⟨b,off,hA,Nat.lt_of_lt_of_le hb q.size,fun j hj i hi=> ?_⟩
  rw[World.cell?_of_block (a:=⟨b,off+j*k+i,none⟩) (q.oth b cur T h5 hU)]
  exact hc j hj i hi
/-- An act, and its copies, which are to be spoilt. -/
structure Bag (w:World) (n0 n1 XB PB:Nat) (x:Actm) (q':List Stp) (Q:Option Addr) (cq:Nat) (EA:Option Addr) (eca:Nat) (EC:Option Addr) (ecc:Nat) (EB:Option Addr) (ecb:Nat) (ED:Option Addr) (ecd:Nat):Prop where
 cx:Cl 44 w XB (encA x)
 cp:Cl 40 w PB [.int .i64 x.a.c.c0,.int .i64 x.a.c.c1,.int .i64 x.a.c.c2,.int .i64 x.a.c.c3,.slice EA x.a.c.l.length eca,.slice EC x.a.e.length ecc,.int .i64 x.b.c.c0,.int .i64 x.b.c.c1,.int .i64 x.b.c.c2,.int .i64 x.b.c.c3,.slice EB x.b.c.l.length ecb,.slice ED x.b.e.length ecd]
 qr:RowG encQ 7 w Q q'
 qs:RowS 48 7 (Hole n0 n1) w Q q'.length cq
 ql:∀y∈q',RowS 3 1 (Hole n0 n1) w y.p y.l.length y.n
 rA:RowS 52 2 (Hole n0 n1) w EA x.a.c.l.length eca
 rC:RowS 55 5 (Hole n0 n1) w EC x.a.e.length ecc
 rB:RowS 52 2 (Hole n0 n1) w EB x.b.c.l.length ecb
 rD:RowS 55 5 (Hole n0 n1) w ED x.b.e.length ecd
theorem Bag.sp {w w':World} {n0 n1 XB PB:Nat} {x:Actm} {q':List Stp} {Q:Option Addr} {cq:Nat} {EA:Option Addr} {eca:Nat} {EC:Option Addr} {ecc:Nat} {EB:Option Addr} {ecb:Nat} {ED:Option Addr} {ecd:Nat} {K:Nat→Prop} {U:TypeId→Prop} (h:Bag w n0 n1 XB PB x q' Q cq EA eca EC ecc EB ecb ED ecd) (k:Sp K U w w') (h1:¬U 44) (h2:¬U 40) (h3:¬U 48):Bag w' n0 n1 XB PB x q' Q cq EA eca EC ecc EB ecb ED ecd :=
 ⟨h.cx.sp k h1,h.cp.sp k h2,h.qr.spT h.qs k h3,h.qs.sp k,fun y hy=>(h.ql y hy).sp k,h.rA.sp k,h.rC.sp k,h.rB.sp k,h.rD.sp k⟩
theorem Bag.below {w w':World} {n0 n1 XB PB:Nat} {x:Actm} {q':List Stp} {Q:Option Addr} {cq:Nat} {EA:Option Addr} {eca:Nat} {EC:Option Addr} {ecc:Nat} {EB:Option Addr} {ecb:Nat} {ED:Option Addr} {ecd:Nat} (h:Bag w n0 n1 XB PB x q' Q cq EA eca EC ecc EB ecb ED ecd) (k:Below w.heap.size w w'):Bag w' n0 n1 XB PB x q' Q cq EA eca EC ecc EB ecb ED ecd :=
 h.sp (Sp.of (K:=fun _=>True) (U:=fun _=>False) k) id id id
/-- The kinds that are spoilt. -/
def SpT:TypeId→Prop:=fun t=>t=3∨t=90∨t=48∨t=55∨t=52
theorem SpT.pk:¬SpT 40:=by unfold SpT;decide
theorem SpT.q (t:TypeId) (h:t=48):SpT t:=Or.inr (Or.inr (Or.inl h))
theorem SpT.c (t:TypeId) (h:t=55):SpT t:=Or.inr (Or.inr (Or.inr (Or.inl h)))
theorem SpT.d (t:TypeId) (h:t=52):SpT t:=Or.inr (Or.inr (Or.inr (Or.inr h)))
theorem SpT.i (t:TypeId) (h:t=3∨t=90):SpT t:=h.elim Or.inl fun h=>Or.inr (Or.inl h)
/-- What is still to be spoilt of an act's packet, and of the node's. -/
structure Bag2 (w:World) (n0 n1 n3 PB:Nat) (a b:Tab) (EA:Option Addr) (eca:Nat) (EC:Option Addr) (ecc:Nat) (EB:Option Addr) (ecb:Nat) (ED:Option Addr) (ecd:Nat):Prop where
 cp:Cl 40 w PB [.int .i64 a.c.c0,.int .i64 a.c.c1,.int .i64 a.c.c2,.int .i64 a.c.c3,.slice EA a.c.l.length eca,.slice EC a.e.length ecc,.int .i64 b.c.c0,.int .i64 b.c.c1,.int .i64 b.c.c2,.int .i64 b.c.c3,.slice EB b.c.l.length ecb,.slice ED b.e.length ecd]
 rA:RowS 52 2 (HoleTo n0 n1 n3) w EA a.c.l.length eca
 rC:RowS 55 5 (HoleTo n0 n1 n3) w EC a.e.length ecc
 rB:RowS 52 2 (HoleTo n0 n1 n3) w EB b.c.l.length ecb
 rD:RowS 55 5 (HoleTo n0 n1 n3) w ED b.e.length ecd
theorem Bag2.sp {w w':World} {n0 n1 n3 PB:Nat} {a b:Tab} {EA:Option Addr} {eca:Nat} {EC:Option Addr} {ecc:Nat} {EB:Option Addr} {ecb:Nat} {ED:Option Addr} {ecd:Nat} {K:Nat→Prop} (h:Bag2 w n0 n1 n3 PB a b EA eca EC ecc EB ecb ED ecd) (k:Sp K SpT w w'):Bag2 w' n0 n1 n3 PB a b EA eca EC ecc EB ecb ED ecd :=
 ⟨h.cp.sp k SpT.pk,h.rA.sp k,h.rC.sp k,h.rB.sp k,h.rD.sp k⟩
theorem Bag.two {w:World} {n0 n1 XB PB:Nat} {x:Actm} {q':List Stp} {Q:Option Addr} {cq:Nat} {EA:Option Addr} {eca:Nat} {EC:Option Addr} {ecc:Nat} {EB:Option Addr} {ecb:Nat} {ED:Option Addr} {ecd:Nat} (h:Bag w n0 n1 XB PB x q' Q cq EA eca EC ecc EB ecb ED ecd) (n3:Nat):Bag2 w n0 n1 n3 PB x.a x.b EA eca EC ecc EB ecb ED ecd :=
 ⟨h.cp,h.rA.to,h.rC.to,h.rB.to,h.rD.to⟩
theorem Sp.kinds {K:Nat→Prop} {U:TypeId→Prop} {w w':World} (h:Sp K U w w') (k:∀t,U t→SpT t):Sp K SpT w w':=h.mono (fun _ h=>h) k
/-- What a view told may be spoilt. -/
theorem NwT.spoil {w w1:World} {n0 n1 n3 k:Nat} {C:Option Addr} {L:List Itm} (h:NwT w1 k w.heap.size C L) (hL:Lv w1 C k L) (h3:n3≤w.heap.size) :
  SetW w1 w.heap.size w1.heap.size C L.length k∧∀b,HoleTo n0 n1 n3 b→b<w.heap.size∨w1.heap.size≤b:=by
 refine ⟨h.set hL.nilc hL.items ⟨fun a ha=> ?_,fun x hx a ha=> ?_⟩,fun b hb=>Or.inl (by have:=hb.2;omega)⟩
 ·obtain ⟨_,_,cur,h5,_⟩:=h.arr a ha
  exact (Array.getElem?_eq_some_iff.1 h5).1
 ·obtain ⟨_,_,cur,h5,_⟩:=(h.rows x hx).1 a ha
  exact (Array.getElem?_eq_some_iff.1 h5).1
theorem encA_one (x:Actm):∀u∈encA x,u.oneCell'=true:=by
 intro u hu
 simp only[encA,List.mem_cons,List.not_mem_nil,or_false] at hu
 rcases hu with h|h|h|h|h|h|h|h|h|h|h|h|h|h|h|h|h|h|h<;>rw[h]<;>rfl
theorem alloc_sets (T:TypeId) (w:World):∀(l pre z:List Value),z.length=l.length→(w.alloc (.cells (pre++z).toArray T)).setCells w.heap.size pre.length l=w.alloc (.cells (pre++l).toArray T)
 | [],pre,z,h=>by
  obtain rfl:z=[]:=List.eq_nil_of_length_eq_zero h
  rfl
 | v::l,pre,[],h=>by cases h
 | v::l,pre,u::z,h=>by
  have h1:(w.alloc (.cells (pre++u::z).toArray T)).setCell ⟨w.heap.size,pre.length,none⟩ v=w.alloc (.cells ((pre++[v])++z).toArray T):=by
   rw[World.setCell_alloc_new]
   simp
  rw[World.setCells,h1]
  have h2:=alloc_sets T w l (pre++[v]) z (by simpa using h)
  rw[List.length_append,List.length_singleton] at h2
  rw[h2]
  simp
/-- The weights of what an act names. -/
structure ActW (x:Actm):Prop where
 wa:x.a.c.l.length*16≤140737488351232
 wc:x.a.e.length*40≤140737488351232
 wb:x.b.c.l.length*16≤140737488351232
 wd:x.b.e.length*40≤140737488351232
 wq:x.q.length*72≤140737488351232
 wl:∀y∈x.q,y.l.length*8≤140737488351232
/-- A query just copied; its lists are the elder ones still. -/
theorem QI.start {w0 w w1:World} {n0:Nat} {Q A:Option Addr} {c:Nat} {q:List Stp} (hs:Stps w0 A q) (hw:∀y∈q,y.l.length*8≤140737488351232) (h0:w0.heap.size≤n0) (hb:Below w0.heap.size w0 w1) (hn:n0≤w.heap.size) (ho:OwnG encQ 7 48 w1 w.heap.size (.slice Q q.length c) q):QI w1 n0 Q c q q 0:=by
 obtain ⟨Q',c',e,h1,h2,_⟩:=OwnG.row encQ_len ho
 injection e with e1 _ e3
 subst e1 e3
 refine ⟨h2,RowS.of ho fun g hg _ k=>by have k':g<n0:=k;omega,rfl,rfl,fun y hy=>⟨hw y hy,(hs.each y hy).2⟩,fun i hi hj=>by omega,fun i hi _=> ?_⟩
 have hh:=(hs.each _ (List.getElem_mem hi)).1
 exact ⟨hh.below hb,fun a ha hl=>by have:=hh.lt a ha hl;show a.block<n0;omega⟩
/-- A cell of a block is written. -/
theorem Cl.sput {T:TypeId} {w:World} {B:Nat} {l:List Value} (h:Cl T w B l) (j:Nat) (v:Value):Sp (fun g=>g≠B) (fun t=>t=T) w (w.setCell ⟨B,j,none⟩ v) :=
 (One.set (n:=l.toArray.size) ⟨⟨rfl,rfl,rfl,Nat.le_refl _,fun _ _ _=>rfl⟩,⟨_,h,rfl⟩⟩ j v).sp (fun h=>h rfl) h rfl
section
variable {w wr w':World} {N M:Nat} {s t:Tab} {qs:List (List Stp)} {s' t':Tab} {qs':List (List Stp)} {n0 n1:Nat}
theorem Twn.less (h:Twn w wr N M s t qs s' t' qs' n0 n1) {m:Nat} (hm:m≤n1):Twn w wr N M s t qs s' t' qs' n0 m:=by
 obtain ⟨P,P',h1,h2,h3,h4,h5,h6⟩:=h.ex
 have hh:∀b,Hole n0 n1 b→Hole n0 m b:=fun b hb=>hb.elim Or.inl fun hb=>Or.inr (Nat.le_trans hm hb)
 exact ⟨⟨P,P',h1,h2,h3,h4,fun b hb=>hh b (h5 b hb),fun b hb=>hh b (h6 b hb)⟩,h.bel,h.hN,h.hM,h.ne,h.lN,h.lM⟩
theorem Twn.put {U:TypeId→Prop} {B:Nat} (h:∀m,Twn w wr N M s t qs s' t' qs' n0 m) (k:Sp (fun g=>g≠B) U wr w') (hB:n0≤B) (m:Nat):Twn w w' N M s t qs s' t' qs' n0 m:=by
 refine ((h (m+B+1)).sp (k.mono (fun b hb e=> ?_) fun _ h=>h)).less (m:=m) (by omega)
 have hb':(b<n0∨m+B+1≤b):=hb.1
 omega
theorem QI.sp {K:Nat→Prop} {U:TypeId→Prop} {Q:Option Addr} {c:Nat} {q q':List Stp} {j:Nat} (h:QI wr n0 Q c q q' j) (k:Sp K U wr w') (h1:¬U 48) (h2:¬U 3) (hK:∀b,b<n0→K b):QI w' n0 Q c q q' j :=
 ⟨h.row.spT h.rs k h1,h.rs.sp k,h.len,h.bare,h.wt,fun i hi hj=>⟨(h.new i hi hj).1.spT (h.new i hi hj).2 k h2,(h.new i hi hj).2.sp k⟩,fun i hi hj=>⟨(h.old i hi hj).1.agr (h.old i hi hj).2 (k.agr hK),(h.old i hi hj).2⟩⟩
/-- While an act is copied. -/
structure Cop (w wd:World) (N M:Nat) (s t:Tab) (qs:List (List Stp)) (n0:Nat) (x:Actm) (q':List Stp) (Q:Option Addr) (cq:Nat) (j:Nat):Prop where
 two:∀m,Twn w wd N M s t qs s t qs n0 m
 cx:Cl 44 wd n0 (encA x)
 qi:QI wd n0 Q cq x.q q' j
theorem Cop.below {x:Actm} {q':List Stp} {Q:Option Addr} {cq j:Nat} (h:Cop w wr N M s t qs n0 x q' Q cq j) (k:Below wr.heap.size wr w'):Cop w w' N M s t qs n0 x q' Q cq j :=
 ⟨fun m=>(h.two m).below k,h.cx.below k,h.qi.below k⟩
theorem Cop.le {x:Actm} {q':List Stp} {Q:Option Addr} {cq j:Nat} (h:Cop w wr N M s t qs n0 x q' Q cq j):n0<wr.heap.size:=h.cx.lt
theorem Cop.put {x:Actm} {q':List Stp} {Q:Option Addr} {cq j B:Nat} (h:Cop w wr N M s t qs n0 x q' Q cq j) (k:Sp (fun g=>g≠B) (fun t=>t=40) wr w') (hB:n0<B):Cop w w' N M s t qs n0 x q' Q cq j :=
 ⟨Twn.put h.two k (by omega),h.cx.sp k (by decide),h.qi.sp k (by decide) (by decide) fun b hb e=>by omega⟩
/-- One more list of the query is copied. -/
theorem Cop.step {x:Actm} {q':List Stp} {b c j:Nat} (h:Cop w wr N M s t qs n0 x q' (some ⟨b,0,none⟩) c j) (hj:j<q'.length) {C:Option Addr} {cc:Nat} (k:Below wr.heap.size wr w') (ho:OwnG encI 1 3 w' wr.heap.size (.slice C q'[j].l.length cc) q'[j].l) :
  Cop w (w'.setCell ⟨b,j*7+6,none⟩ (.slice C q'[j].l.length cc)) N M s t qs n0 x (q'.set j { q'[j] with p:=C,n:=cc }) (some ⟨b,0,none⟩) c (j+1):=by
 have h1:=h.below k
 obtain ⟨hb0,_,_,_,cur,hcur,_⟩:=h1.qi.rs.2.2 _ rfl
 have hb:¬b<n0:=hb0
 have hsp:Sp (fun g=>g≠b) (fun t=>t=48) w' (w'.setCell ⟨b,j*7+6,none⟩ (.slice C q'[j].l.length cc)):=(One.set (n:=cur.size) ⟨⟨rfl,rfl,rfl,Nat.le_refl _,fun _ _ _=>rfl⟩,⟨cur,hcur,rfl⟩⟩ _ _).sp (fun h=>h rfl) hcur rfl
 exact ⟨Twn.put h1.two hsp (by omega),h1.cx.sp hsp (by decide),h.qi.step hj k ho (Nat.le_of_lt h.le)⟩
/-- All is copied. -/
theorem Cop.bag {x:Actm} {q':List Stp} {Q:Option Addr} {cq PB:Nat} {EA:Option Addr} {eca:Nat} {EC:Option Addr} {ecc:Nat} {EB:Option Addr} {ecb:Nat} {ED:Option Addr} {ecd:Nat} {b0 b1:Nat} (h:Cop w wr N M s t qs n0 x q' Q cq x.q.length) (hp:Cl 40 wr PB [.int .i64 x.a.c.c0,.int .i64 x.a.c.c1,.int .i64 x.a.c.c2,.int .i64 x.a.c.c3,.slice EA x.a.c.l.length eca,.slice EC x.a.e.length ecc,.int .i64 x.b.c.c0,.int .i64 x.b.c.c1,.int .i64 x.b.c.c2,.int .i64 x.b.c.c3,.slice EB x.b.c.l.length ecb,.slice ED x.b.e.length ecd]) (hb0:n0≤b0) (hb1:n0≤b1) (o1:Own wr b0 (.slice EA x.a.c.l.length eca) x.a.c.l) (o2:OwnC wr b0 (.slice EC x.a.e.length ecc) x.a.e) (o3:Own wr b1 (.slice EB x.b.c.l.length ecb) x.b.c.l) (o4:OwnC wr b1 (.slice ED x.b.e.length ecd) x.b.e) :
  Bag wr n0 wr.heap.size n0 PB x q' Q cq EA eca EC ecc EB ecb ED ecd:=by
 have hh:∀ {T:TypeId} {k bb:Nat} {p:Option Addr} {m c:Nat} {l:List Value},n0≤bb→wr.ownsRow bb T k (.slice p m c) m l→RowS T k (Hole n0 wr.heap.size) wr p m c:=fun hb ho=>(RowS.of ho fun g hg _ k=>by have k':g<n0:=k;omega).hole (Nat.le_refl _)
 refine ⟨h.cx,hp,h.qi.row,h.qi.rs.hole (Nat.le_refl _),fun y hy=> ?_,hh hb0 o1,hh hb0 o2,hh hb1 o3,hh hb1 o4⟩
 obtain ⟨i,hi,rfl⟩:=List.getElem_of_mem hy
 exact (h.qi.new i hi (by rw[←h.qi.len];exact hi)).2.hole (Nat.le_refl _)
end
theorem buildX (a b c d:Int) (A:Option Addr) (n k:Nat) (w:World):(Instr.build 34 #[(0,.agg #[.int .i64 a,.int .i64 b,.int .i64 c,.int .i64 d]),(1,.slice A n k)]).run Tryz.prog w= .ok (.agg #[.int .i64 a,.int .i64 b,.int .i64 c,.int .i64 d,.slice A n k]) w:=by kernel_rfl
theorem buildT (a b c d:Int) (A:Option Addr) (n k:Nat) (B:Option Addr) (m j:Nat) (w:World):(Instr.build 37 #[(0,.agg #[.int .i64 a,.int .i64 b,.int .i64 c,.int .i64 d,.slice A n k]),(1,.slice B m j)]).run Tryz.prog w= .ok (.agg #[.int .i64 a,.int .i64 b,.int .i64 c,.int .i64 d,.slice A n k,.slice B m j]) w:=by kernel_rfl
theorem exec_buildX {ev:Operand→Value} {o:Oper} (p q:Operand) (ho:o.op= .build 34 #[(0,p),(1,q)]) {a b c d:Int} {A:Option Addr} {n k:Nat} (h1:ev p= .agg #[.int .i64 a,.int .i64 b,.int .i64 c,.int .i64 d]) (h2:ev q= .slice A n k) (w:World):Sem.run Tryz.prog (execOp ev o) w= .ok (.value (.agg #[.int .i64 a,.int .i64 b,.int .i64 c,.int .i64 d,.slice A n k])) w:=by
 unfold execOp
 simp only[ho,List.map_toArray,List.map_cons,List.map_nil,h1,h2,Sem.run_bind,Sem.run_pure,Result.andThen_ok,buildX]
theorem exec_buildT {ev:Operand→Value} {o:Oper} (p q:Operand) (ho:o.op= .build 37 #[(0,p),(1,q)]) {a b c d:Int} {A:Option Addr} {n k:Nat} {B:Option Addr} {m j:Nat} (h1:ev p= .agg #[.int .i64 a,.int .i64 b,.int .i64 c,.int .i64 d,.slice A n k]) (h2:ev q= .slice B m j) (w:World):Sem.run Tryz.prog (execOp ev o) w= .ok (.value (.agg #[.int .i64 a,.int .i64 b,.int .i64 c,.int .i64 d,.slice A n k,.slice B m j])) w:=by
 unfold execOp
 simp only[ho,List.map_toArray,List.map_cons,List.map_nil,h1,h2,Sem.run_bind,Sem.run_pure,Result.andThen_ok,buildT]
end Go.Proofs.YtkadjjmkokhldaaGreat
