import Derived.Test.YtbkjgjjpnfhkhaaGreatDoorM32
import Derived.Shelf.Strconv.Itoa3
import Derived.Shelf.Unicode.PredsPay
import Derived.Lib.ItoaLen
set_option maxRecDepth 100000
set_option maxHeartbeats 8000000
open Go renaming World → H, Calls → T, Addr → q
open Go.Ending renaming returned → Q
open Go.IntKind renaming i64 → V
open Go.Obj renaming cells → Y
open Go.Proofs.Tryz renaming prog → U
open Go.RowKit renaming Hid → Z
open Go.Value renaming slice → I, int → J, agg → ia
namespace Go.Proofs.YtbkjgjjpnfhkhaaGreatDoor
open Go.RowKit Go.Sort

theorem cP {w w':H} {c:Nat} {e:TypeId} {k:Nat} {v:Value} {n:Nat} {l:List Value} (h:w.ownsRow c e k v n l) (d:Agr (fun b=>c<=b) w w'):w'.ownsRow c e k v n l:=by
 refine ⟨h.1,?_⟩;rcases h.2 with h1|⟨g,cap,cur,hv,hb,hc,rest⟩
 ·exact oL h1
 ·exact oR ⟨g,cap,cur,hv,hb,(d.block g hb (Array.getElem?_eq_some_iff.1 hc).1).trans hc,rest⟩
theorem ux {w:H} {N O:Nat} {P:Nat->Prop} {id:Int} {s t:Tab} {qs:List (List Stp)} (h:Nd w N O P id s t qs) :
  T U 16 #[.pointer (jb4 N O)] w fun e w'=>∃(EA:Option q) (E:Nat) (EC:Option q) (F:Nat) (EB:Option q) (ah:Nat) (ED:Option q) (ak:Nat),e= Q (ia (T2 s EA E EC F t EB ah ED ak).toArray)/\(Own w' w.heap.size (I EA s.c.l.length E) s.c.l/\cL w' w.heap.size (I EC s.e.length F) s.e)/\(Own w' w.heap.size (I EB t.c.l.length ah) t.c.l/\cL w' w.heap.size (I ED t.e.length ak) t.e)/\jb2 w w':=by
 obtain ⟨A,ca,C,cc,a0,bt⟩:=h.ts;obtain ⟨B,cb,D,cd,a1,bv⟩:=h.tt;have b2:=s7 (J V s.c.c0) (J V s.c.c1) (J V s.c.c2) (J V s.c.c3) (I A s.c.l.length ca) (I C s.e.length cc) (J V t.c.c0) (J V t.c.c1) (J V t.c.c2) (J V t.c.c3) (I B t.c.l.length cb) (I D t.e.length cd);have b3:=s8 (J V s.c.c0) (J V s.c.c1) (J V s.c.c2) (J V s.c.c3) (I A s.c.l.length ca) (I C s.e.length cc) (J V t.c.c0) (J V t.c.c1) (J V t.c.c2) (J V t.c.c3) (I B t.c.l.length cb) (I D t.e.length cd);have n1:=a0.k0;have n2:=a0.k1;have n3:=a0.k2;have n4:=a0.k3;have n5:=a0.k4;have n6:=a0.k5;have n7:=a1.k0;have n8:=a1.k1;have n9:=a1.k2;have b4:=a1.k3;have b5:=a1.k4;have b6:=a1.k5;have hH:=ja3 bt bv trivial;have b1:N<w.heap.size:=h.blk.lt;go_enter Tryz.func16,Tryz.ntmps16;go_wp2;obtain ⟨w1,a7⟩:=jb0 ((w.alloc (Y #[J V 0,J V 0,J V 0,J V 0,I none 0 0,I none 0 0,J V 0,J V 0,J V 0,J V 0,I none 0 0,I none 0 0] 43)).alloc (Y #[J V 0,J V 0,J V 0,J V 0,I none 0 0,I none 0 0,J V 0,J V 0,J V 0,J V 0,I none 0 0,I none 0 0] 43));rw[a7];have hI:Z (jb2 w w1/\Cls w1 (w.heap.size+1) Z2/\Cls w1 w.heap.size Z2):=by refine ⟨by rw[<-a7];exact (((gR w).alloc _).alloc _).below,?_,by rw[<-a7];exact (Cls.new w _ _).gr ((gR _).alloc _)⟩;have:=Cls.new (w.alloc (Y #[J V 0,J V 0,J V 0,J V 0,I none 0 0,I none 0 0,J V 0,J V 0,J V 0,J V 0,I none 0 0,I none 0 0] 43)) #[J V 0,J V 0,J V 0,J V 0,I none 0 0,I none 0 0,J V 0,J V 0,J V 0,J V 0,I none 0 0,I none 0 0] 43;rw[a7,show (w.alloc (Y #[J V 0,J V 0,J V 0,J V 0,I none 0 0,I none 0 0,J V 0,J V 0,J V 0,J V 0,I none 0 0,I none 0 0] 43)).heap.size=w.heap.size+1 by simp] at this;exact this
 refine wp_loop_rounds 3 ?_;rw[rounds_succ];go_upto_region 5 with fail;obtain ⟨k,ao⟩:=jb0 (w1.alloc (Y #[J V s.c.c0,J V s.c.c1,J V s.c.c2,J V s.c.c3,I A s.c.l.length ca,I C s.e.length cc] 35));rw[ao];have f:Z (Gr w1 k/\jb2 w k/\Cls k w1.heap.size (T6 s A ca C cc)/\Cls k (w.heap.size+1) Z2/\Cls k w.heap.size Z2/\w.heap.size+1<w1.heap.size/\w1.heap.size<k.heap.size):=by
  have hg:Gr w1 k:=by rw[<-ao];exact (gR _).alloc _
  exact ⟨hg,hI.out.1.trans (hg.below.mono hI.out.1.size),by rw[<-ao];exact Cls.new w1 _ _,hI.out.2.1.gr hg,hI.out.2.2.gr hg,hI.out.2.1.lt,by rw[<-ao];simp⟩
 have an:=ja1 ((gR k).drew.below);have a5:Z (∀W,jb2 k W->T U 35 #[ia (ja7 s.c A ca)] W fun e w'=>∃B cb,e= Q (ia (ja7 s.c B cb))/\Own w' W.heap.size (I B s.c.l.length cb) s.c.l/\jb2 W w'):=fun W hW=>by have hb:=f.out.2.1.trans (hW.mono f.out.2.1.size);have hr:=hH.out.1.below hb;exact fH s.c A ca W (aY (af hr.ok).1).2.1 hr.row hr.nr
 have a6:Z (∀W,jb2 k W->T U 36 #[I C s.e.length cc] W fun e w'=>∃C c,e= Q (I C s.e.length c)/\cL w' W.heap.size (I C s.e.length c) s.e/\jb2 W w'):=fun W hW=>by have hb:=f.out.2.1.trans (hW.mono f.out.2.1.size);have hr:=hH.out.1.below hb;have:=(af hr.ok).2.1;exact lp s.e C cc W (by omega) hr.cel hr.nc
 have n:Z (∀W,Cls W w1.heap.size (T6 s A ca C cc)->(fun w'=>jb1 w' w1.heap.size 0 (J V s.c.c0)/\jb1 w' w1.heap.size 1 (J V s.c.c1)/\jb1 w' w1.heap.size 2 (J V s.c.c2)/\jb1 w' w1.heap.size 3 (J V s.c.c3)/\jb1 w' w1.heap.size 4 (I A s.c.l.length ca)/\jb1 w' w1.heap.size 5 (I C s.e.length cc)) W):=fun W hW=>⟨hW.cell (j:=0) rfl,hW.cell (j:=1) rfl,hW.cell (j:=2) rfl,hW.cell (j:=3) rfl,hW.cell (j:=4) rfl,hW.cell (j:=5) rfl⟩;have d:Z (w1.heap.size≠w.heap.size+1):=by have:=f.out.2.2.2.2.2.1;show _≠_;omega
 refine wp_region_noPanic ?_;refine wp_region_held_drew (S:=(fun w'=>jb1 w' w1.heap.size 0 (J V s.c.c0)/\jb1 w' w1.heap.size 1 (J V s.c.c1)/\jb1 w' w1.heap.size 2 (J V s.c.c2)/\jb1 w' w1.heap.size 3 (J V s.c.c3)/\jb1 w' w1.heap.size 4 (I A s.c.l.length ca)/\jb1 w' w1.heap.size 5 (I C s.e.length cc))) (by kernel_rfl) (n.out _ (f.out.2.2.1.below an.out)) (fun hHeld=> ?_);refine tks [0,1,2,4,5,8] (by assumption) ?_;iterate 6 (refine tk (v:= ?_) (by rfl) (by kernel_rfl) ?_ ?_;rotate_left;· (refine oL ⟨by rfl,?_⟩;intro w aL;(try dsimp only at aL);go_simp<;>with_reducible rfl);try simp only[Act.put,yA,kh,yS])
 refine tk0 ?_;refine rdy 3 (by kernel_rfl) (by rfl) fun K hK=> ?_;go_simp;(go_at_call 35;(with_reducible refine cM (a5.out _ an.out) ?_);rintro e w2 ⟨EA,E,rfl,f1,f2⟩;have hF:Z (jb2 k w2/\Own w2 k.heap.size (I EA s.c.l.length E) s.c.l):=⟨an.out.trans (f2.mono an.out.size),f1⟩;clear f1 f2);first|(go_wp2_with fail)|skip
 refine hK.out _ _ ?_ (fun hHeld=> ?_)
 ·(try dsimp only);first|with_reducible exact n.out _ (f.out.2.2.1.below m.out.1)|with_reducible exact n.out _ (f.out.2.2.1.below hF.out.1)|exact n.out _ (((((((f.out.2.2.1.below m.out.1).oth d.out _).oth d.out _).oth d.out _).oth d.out _).oth d.out _).oth d.out _)
 refine rdy 6 (by kernel_rfl) (by rfl) fun K hK=> ?_;go_simp;(go_at_call 36;(with_reducible refine cM (a6.out _ hF.out.1) ?_);rintro e w3 ⟨EC,F,rfl,f1,f2⟩;have m:Z (jb2 k w3/\Own w3 k.heap.size (I EA s.c.l.length E) s.c.l/\cL w3 k.heap.size (I EC s.e.length F) s.e):=⟨hF.out.1.trans (f2.mono hF.out.1.size),hF.out.2.below f2,f1.mono hF.out.1.size⟩;clear f1 f2;have p0:=(f.out.2.2.2.1.below m.out.1).cell (j:=0) rfl;have z0:=(f.out.2.2.2.1.below m.out.1).fz 0;have p1:=(f.out.2.2.2.1.below m.out.1).cell (j:=1) rfl;have z1:=(f.out.2.2.2.1.below m.out.1).fz 1;have p2:=(f.out.2.2.2.1.below m.out.1).cell (j:=2) rfl;have z2:=(f.out.2.2.2.1.below m.out.1).fz 2;have p3:=(f.out.2.2.2.1.below m.out.1).cell (j:=3) rfl;have z3:=(f.out.2.2.2.1.below m.out.1).fz 3;have p4:=(f.out.2.2.2.1.below m.out.1).cell (j:=4) rfl;have z4:=(f.out.2.2.2.1.below m.out.1).fz 4;have p5:=(f.out.2.2.2.1.below m.out.1).cell (j:=5) rfl;have z5:=(f.out.2.2.2.1.below m.out.1).fz 5);first|(go_wp2_with fail)|skip
 refine hK.out _ _ ?_ (fun hHeld=> ?_)
 ·(try dsimp only);first|with_reducible exact n.out _ (f.out.2.2.1.below m.out.1)|with_reducible exact n.out _ (f.out.2.2.1.below hF.out.1)|exact n.out _ (((((((f.out.2.2.1.below m.out.1).oth d.out _).oth d.out _).oth d.out _).oth d.out _).oth d.out _).oth d.out _)
 refine tks [7,9] (by assumption) ?_;iterate 2 (refine tk (v:= ?_) (by rfl) (by kernel_rfl) ?_ ?_;rotate_left;· (refine oL ⟨by rfl,?_⟩;intro w aL;(try dsimp only at aL);go_simp<;>with_reducible rfl);try simp only[Act.put,yA,kh,yS])
 refine tk0 ?_;refine rdy 10 (by kernel_rfl) (by rfl) fun K hK=> ?_;go_simp;refine hK.out _ _ ?_ (fun hHeld=> ?_)
 ·(try dsimp only);first|with_reducible exact n.out _ (f.out.2.2.1.below m.out.1)|with_reducible exact n.out _ (f.out.2.2.1.below hF.out.1)|exact n.out _ (((((((f.out.2.2.1.below m.out.1).oth d.out _).oth d.out _).oth d.out _).oth d.out _).oth d.out _).oth d.out _)
 refine wpAnyH_done (by kernel_rfl) ?_ _;refine NoPanic.normal ?_;go_wp2_with fail;obtain ⟨g,u⟩:=jb0 ((((((w3.setCell (jb5 (w.heap.size+1) 0) (J V s.c.c0)).setCell (jb5 (w.heap.size+1) 1) (J V s.c.c1)).setCell (jb5 (w.heap.size+1) 2) (J V s.c.c2)).setCell (jb5 (w.heap.size+1) 3) (J V s.c.c3)).setCell (jb5 (w.heap.size+1) 4) (I EA s.c.l.length E)).setCell (jb5 (w.heap.size+1) 5) (I EC s.e.length F));rw[u];have hJ:Z (jb2 w g/\Cls g (w.heap.size+1) [J V s.c.c0,J V s.c.c1,J V s.c.c2,J V s.c.c3,I EA s.c.l.length E,I EC s.e.length F,J V 0,J V 0,J V 0,J V 0,I none 0 0,I none 0 0]/\Cls g w.heap.size Z2/\Own g k.heap.size (I EA s.c.l.length E) s.c.l/\cL g k.heap.size (I EC s.e.length F) s.e):=by
  have be:=f.out.2.2.2.2.2.1;have bh:=f.out.2.2.2.2.2.2;have a9:=f.out.2.1.trans (m.out.1.mono f.out.2.1.size);have R:w.heap.size<=w.heap.size+1:=by omega
  have ad:w.heap.size≠w.heap.size+1:=by omega
  refine ⟨?_,?_,?_,?_,?_⟩
  ·rw[<-u];exact (((((a9.setCell R _).setCell R _).setCell R _).setCell R _).setCell R _).setCell R _
  ·rw[<-u];exact ((((((f.out.2.2.2.1.below m.out.1).put 0 _).put 1 _).put 2 _).put 3 _).put 4 _).put 5 _
  ·rw[<-u];exact ((((((f.out.2.2.2.2.1.below m.out.1).oth ad _).oth ad _).oth ad _).oth ad _).oth ad _).oth ad _
  ·rw[<-u];exact cP m.out.2.1 ((((((aS _ fun h=>by omega).trans (aS _ fun h=>by omega)).trans (aS _ fun h=>by omega)).trans (aS _ fun h=>by omega)).trans (aS _ fun h=>by omega)).trans (aS _ fun h=>by omega))
  ·rw[<-u];exact cP m.out.2.2 ((((((aS _ fun h=>by omega).trans (aS _ fun h=>by omega)).trans (aS _ fun h=>by omega)).trans (aS _ fun h=>by omega)).trans (aS _ fun h=>by omega)).trans (aS _ fun h=>by omega))
 have bb:=ja2 hJ.out.2.2.2.1 hJ.out.2.2.2.2;have a3:Z (w.heap.size+1<k.heap.size):=by have h1:=f.out.2.2.2.2.2.1;have h2:=f.out.2.2.2.2.2.2;show _<_;omega
 have bp:=ja3 hJ.out.1 hJ.out.2.1 hJ.out.2.2.1;have hI:=bp;rw[rounds_succ];go_upto_region 5 with fail;obtain ⟨r,ao⟩:=jb0 (g.alloc (Y #[J V t.c.c0,J V t.c.c1,J V t.c.c2,J V t.c.c3,I B t.c.l.length cb,I D t.e.length cd] 35));rw[ao];have f:Z (Gr g r/\jb2 w r/\Cls r g.heap.size (T6 t B cb D cd)/\Cls r (w.heap.size+1) [J V s.c.c0,J V s.c.c1,J V s.c.c2,J V s.c.c3,I EA s.c.l.length E,I EC s.e.length F,J V 0,J V 0,J V 0,J V 0,I none 0 0,I none 0 0]/\Cls r w.heap.size Z2/\w.heap.size+1<g.heap.size/\g.heap.size<r.heap.size):=by
  have hg:Gr g r:=by rw[<-ao];exact (gR _).alloc _
  exact ⟨hg,hI.out.1.trans (hg.below.mono hI.out.1.size),by rw[<-ao];exact Cls.new g _ _,hI.out.2.1.gr hg,hI.out.2.2.gr hg,hI.out.2.1.lt,by rw[<-ao];simp⟩
 have an:=ja1 ((gR r).drew.below);have a5:Z (∀W,jb2 r W->T U 35 #[ia (ja7 t.c B cb)] W fun e w'=>∃B cb,e= Q (ia (ja7 t.c B cb))/\Own w' W.heap.size (I B t.c.l.length cb) t.c.l/\jb2 W w'):=fun W hW=>by have hb:=f.out.2.1.trans (hW.mono f.out.2.1.size);have hr:=hH.out.2.1.below hb;exact fH t.c B cb W (aY (af hr.ok).1).2.1 hr.row hr.nr
 have a6:Z (∀W,jb2 r W->T U 36 #[I D t.e.length cd] W fun e w'=>∃C c,e= Q (I C t.e.length c)/\cL w' W.heap.size (I C t.e.length c) t.e/\jb2 W w'):=fun W hW=>by have hb:=f.out.2.1.trans (hW.mono f.out.2.1.size);have hr:=hH.out.2.1.below hb;have:=(af hr.ok).2.1;exact lp t.e D cd W (by omega) hr.cel hr.nc
 have n:Z (∀W,Cls W g.heap.size (T6 t B cb D cd)->(fun w'=>jb1 w' g.heap.size 0 (J V t.c.c0)/\jb1 w' g.heap.size 1 (J V t.c.c1)/\jb1 w' g.heap.size 2 (J V t.c.c2)/\jb1 w' g.heap.size 3 (J V t.c.c3)/\jb1 w' g.heap.size 4 (I B t.c.l.length cb)/\jb1 w' g.heap.size 5 (I D t.e.length cd)) W):=fun W hW=>⟨hW.cell (j:=0) rfl,hW.cell (j:=1) rfl,hW.cell (j:=2) rfl,hW.cell (j:=3) rfl,hW.cell (j:=4) rfl,hW.cell (j:=5) rfl⟩;have d:Z (g.heap.size≠w.heap.size+1):=by have:=f.out.2.2.2.2.2.1;show _≠_;omega
 refine wp_region_noPanic ?_;refine wp_region_held_drew (S:=(fun w'=>jb1 w' g.heap.size 0 (J V t.c.c0)/\jb1 w' g.heap.size 1 (J V t.c.c1)/\jb1 w' g.heap.size 2 (J V t.c.c2)/\jb1 w' g.heap.size 3 (J V t.c.c3)/\jb1 w' g.heap.size 4 (I B t.c.l.length cb)/\jb1 w' g.heap.size 5 (I D t.e.length cd))) (by kernel_rfl) (n.out _ (f.out.2.2.1.below an.out)) (fun hHeld=> ?_);refine tks [0,1,2,4,5,8] (by assumption) ?_;iterate 6 (refine tk (v:= ?_) (by rfl) (by kernel_rfl) ?_ ?_;rotate_left;· (refine oL ⟨by rfl,?_⟩;intro w aL;(try dsimp only at aL);go_simp<;>with_reducible rfl);try simp only[Act.put,yA,kh,yS])
 refine tk0 ?_;refine rdy 3 (by kernel_rfl) (by rfl) fun K hK=> ?_;go_simp;(go_at_call 35;(with_reducible refine cM (a5.out _ an.out) ?_);rintro e w2 ⟨EB,ah,rfl,f1,f2⟩;have hF:Z (jb2 r w2/\Own w2 r.heap.size (I EB t.c.l.length ah) t.c.l):=⟨an.out.trans (f2.mono an.out.size),f1⟩;clear f1 f2);first|(go_wp2_with fail)|skip
 refine hK.out _ _ ?_ (fun hHeld=> ?_)
 ·(try dsimp only);first|with_reducible exact n.out _ (f.out.2.2.1.below m.out.1)|with_reducible exact n.out _ (f.out.2.2.1.below hF.out.1)|exact n.out _ (((((((f.out.2.2.1.below m.out.1).oth d.out _).oth d.out _).oth d.out _).oth d.out _).oth d.out _).oth d.out _)
 clear hK K;try simp only[Act.put,yA,kh,yS]
 refine rdy 6 (by kernel_rfl) (by rfl) fun K hK=> ?_;go_simp;(go_at_call 36;(with_reducible refine cM (a6.out _ hF.out.1) ?_);rintro e w3 ⟨ED,ak,rfl,f1,f2⟩;have m:Z (jb2 r w3/\Own w3 r.heap.size (I EB t.c.l.length ah) t.c.l/\cL w3 r.heap.size (I ED t.e.length ak) t.e):=⟨hF.out.1.trans (f2.mono hF.out.1.size),hF.out.2.below f2,f1.mono hF.out.1.size⟩;clear f1 f2;have p6:=(f.out.2.2.2.1.below m.out.1).cell (j:=6) rfl;have z6:=(f.out.2.2.2.1.below m.out.1).fz 6;have p7:=(f.out.2.2.2.1.below m.out.1).cell (j:=7) rfl;have z7:=(f.out.2.2.2.1.below m.out.1).fz 7;have p8:=(f.out.2.2.2.1.below m.out.1).cell (j:=8) rfl;have z8:=(f.out.2.2.2.1.below m.out.1).fz 8;have p9:=(f.out.2.2.2.1.below m.out.1).cell (j:=9) rfl;have z9:=(f.out.2.2.2.1.below m.out.1).fz 9;have bC:=(f.out.2.2.2.1.below m.out.1).cell (j:=10) rfl;have bl:=(f.out.2.2.2.1.below m.out.1).fz 10;have bG:=(f.out.2.2.2.1.below m.out.1).cell (j:=11) rfl;have bo:=(f.out.2.2.2.1.below m.out.1).fz 11);first|(go_wp2_with fail)|skip
 refine hK.out _ _ ?_ (fun hHeld=> ?_)
 ·(try dsimp only);first|with_reducible exact n.out _ (f.out.2.2.1.below m.out.1)|with_reducible exact n.out _ (f.out.2.2.1.below hF.out.1)|exact n.out _ (((((((f.out.2.2.1.below m.out.1).oth d.out _).oth d.out _).oth d.out _).oth d.out _).oth d.out _).oth d.out _)
 clear hK K;try simp only[Act.put,yA,kh,yS]
 refine tks [7,9] (by assumption) ?_;iterate 2 (refine tk (v:= ?_) (by rfl) (by kernel_rfl) ?_ ?_;rotate_left;· (refine oL ⟨by rfl,?_⟩;intro w aL;(try dsimp only at aL);go_simp<;>with_reducible rfl);try simp only[Act.put,yA,kh,yS])
 refine tk0 ?_;refine rdy 10 (by kernel_rfl) (by rfl) fun K hK=> ?_;go_simp;refine hK.out _ _ ?_ (fun hHeld=> ?_)
 ·(try dsimp only);first|with_reducible exact n.out _ (f.out.2.2.1.below m.out.1)|with_reducible exact n.out _ (f.out.2.2.1.below hF.out.1)|exact n.out _ (((((((f.out.2.2.1.below m.out.1).oth d.out _).oth d.out _).oth d.out _).oth d.out _).oth d.out _).oth d.out _)
 clear hK K;try simp only[Act.put,yA,kh,yS]
 refine wpAnyH_done (by kernel_rfl) ?_ _;refine NoPanic.normal ?_;go_wp2_with fail;obtain ⟨ap,u⟩:=jb0 ((((((w3.setCell (jb5 (w.heap.size+1) 6) (J V t.c.c0)).setCell (jb5 (w.heap.size+1) 7) (J V t.c.c1)).setCell (jb5 (w.heap.size+1) 8) (J V t.c.c2)).setCell (jb5 (w.heap.size+1) 9) (J V t.c.c3)).setCell (jb5 (w.heap.size+1) 10) (I EB t.c.l.length ah)).setCell (jb5 (w.heap.size+1) 11) (I ED t.e.length ak));rw[u];have hJ:Z (jb2 w ap/\Cls ap (w.heap.size+1) (T2 s EA E EC F t EB ah ED ak)/\Cls ap w.heap.size Z2/\Own ap r.heap.size (I EB t.c.l.length ah) t.c.l/\cL ap r.heap.size (I ED t.e.length ak) t.e/\Own ap k.heap.size (I EA s.c.l.length E) s.c.l/\cL ap k.heap.size (I EC s.e.length F) s.e):=by
  have be:=f.out.2.2.2.2.2.1;have bh:=f.out.2.2.2.2.2.2;have a9:=f.out.2.1.trans (m.out.1.mono f.out.2.1.size);have R:w.heap.size<=w.heap.size+1:=by omega
  have ad:w.heap.size≠w.heap.size+1:=by omega
  refine ⟨?_,?_,?_,?_,?_,?_,?_⟩
  ·rw[<-u];exact (((((a9.setCell R _).setCell R _).setCell R _).setCell R _).setCell R _).setCell R _
  ·rw[<-u];exact ((((((f.out.2.2.2.1.below m.out.1).put 6 _).put 7 _).put 8 _).put 9 _).put 10 _).put 11 _
  ·rw[<-u];exact ((((((f.out.2.2.2.2.1.below m.out.1).oth ad _).oth ad _).oth ad _).oth ad _).oth ad _).oth ad _
  ·rw[<-u];exact cP m.out.2.1 ((((((aS _ fun h=>by omega).trans (aS _ fun h=>by omega)).trans (aS _ fun h=>by omega)).trans (aS _ fun h=>by omega)).trans (aS _ fun h=>by omega)).trans (aS _ fun h=>by omega))
  ·rw[<-u];exact cP m.out.2.2 ((((((aS _ fun h=>by omega).trans (aS _ fun h=>by omega)).trans (aS _ fun h=>by omega)).trans (aS _ fun h=>by omega)).trans (aS _ fun h=>by omega)).trans (aS _ fun h=>by omega))
  ·have ba:jb2 g w3:=f.out.1.below.trans (m.out.1.mono f.out.1.size);have a8:=a3.out;rw[<-u];exact cP (bb.out.1.below ba) ((((((aS _ fun h=>by omega).trans (aS _ fun h=>by omega)).trans (aS _ fun h=>by omega)).trans (aS _ fun h=>by omega)).trans (aS _ fun h=>by omega)).trans (aS _ fun h=>by omega))
  ·have ba:jb2 g w3:=f.out.1.below.trans (m.out.1.mono f.out.1.size);have a8:=a3.out;rw[<-u];exact cP (ae.below bb.out.2 ba) ((((((aS _ fun h=>by omega).trans (aS _ fun h=>by omega)).trans (aS _ fun h=>by omega)).trans (aS _ fun h=>by omega)).trans (aS _ fun h=>by omega)).trans (aS _ fun h=>by omega))
 clear u m hF a5 a6 n d an hHeld p6 z6 p7 z7 p8 z8 p9 z9 bC bl bG bo;rw[rounds_succ];obtain ⟨q0,q1,q2,q3,q4,q5,q6,q7,q8,q9,b7,b8⟩:=eS hJ.out.2.1;obtain ⟨r0,r1,r2,r3,r4,r5,r6,r7,r8,r9,bN,b0⟩:=eS hJ.out.2.2.1;obtain ⟨z0,z1,z2,z3,z4,z5,z6,z7,z8,z9,bl,bo⟩:=rZ hJ.out.2.2.1;go_wp2;have a8:=a3.out;have be:=f.out.2.2.2.2.2.1;have bh:=f.out.2.2.2.2.2.2;have a4:∀a2,w.heap.size<a2->Agr (fun b=>a2<=b) ap ((((((((((((ap.setCell (jb5 w.heap.size 0) (J V s.c.c0)).setCell (jb5 w.heap.size 1) (J V s.c.c1)).setCell (jb5 w.heap.size 2) (J V s.c.c2)).setCell (jb5 w.heap.size 3) (J V s.c.c3)).setCell (jb5 w.heap.size 4) (I EA s.c.l.length E)).setCell (jb5 w.heap.size 5) (I EC s.e.length F)).setCell (jb5 w.heap.size 6) (J V t.c.c0)).setCell (jb5 w.heap.size 7) (J V t.c.c1)).setCell (jb5 w.heap.size 8) (J V t.c.c2)).setCell (jb5 w.heap.size 9) (J V t.c.c3)).setCell (jb5 w.heap.size 10) (I EB t.c.l.length ah)).setCell (jb5 w.heap.size 11) (I ED t.e.length ak)):=fun a2 bs=>((((((((((((aS _ fun h=>by omega).trans (aS _ fun h=>by omega)).trans (aS _ fun h=>by omega)).trans (aS _ fun h=>by omega)).trans (aS _ fun h=>by omega)).trans (aS _ fun h=>by omega)).trans (aS _ fun h=>by omega)).trans (aS _ fun h=>by omega)).trans (aS _ fun h=>by omega)).trans (aS _ fun h=>by omega)).trans (aS _ fun h=>by omega)).trans (aS _ fun h=>by omega));have bc:w.heap.size<=k.heap.size:=by omega
 have bd:w.heap.size<=r.heap.size:=by have:=f.out.2.1.size;omega
 exact bodyPost_ret (v:= ia (T2 s EA E EC F t EB ah ED ak).toArray) (by simp[results,Tryz.results16,go_sem,r0,r1,r2,r3,r4,r5,r6,r7,r8,r9,bN,b0]) rfl ⟨EA,E,EC,F,EB,ah,ED,ak,rfl,⟨Own.mono (cP hJ.out.2.2.2.2.2.1 (a4 _ (by omega))) bc,ae.mono (cP hJ.out.2.2.2.2.2.2 (a4 _ (by omega))) bc⟩,⟨Own.mono (cP hJ.out.2.2.2.1 (a4 _ (by omega))) bd,ae.mono (cP hJ.out.2.2.2.2.1 (a4 _ (by omega))) bd⟩,((((((((((((hJ.out.1.setCell (nR _) _).setCell (nR _) _).setCell (nR _) _).setCell (nR _) _).setCell (nR _) _).setCell (nR _) _).setCell (nR _) _).setCell (nR _) _).setCell (nR _) _).setCell (nR _) _).setCell (nR _) _).setCell (nR _) _)⟩
section
open Go.Shelf Go.Lib

theorem gF (d:Array Int):∀m,(compactUpTo d (m+1)).getLast? = some d[m]!
 | 0=>by simp[compactUpTo,keeps]
 | m+1=>by
  have ih:=gF d m;rw[compactUpTo_succ];by_cases c:keeps d (m+1)
  ·simp[c]
  ·rw[if_neg c,List.append_nil,ih];have:d[m+1]! = d[m]! := by simp[keeps] at c;exact c
   rw[this]
theorem pl (d:Array Int) (m:Nat):0<(compactUpTo d (m+1)).length:=by
 have:=gF d m;cases h:compactUpTo d (m+1) with
 | nil=>rw[h] at this;cases this
 | cons x l=>simp
theorem lu (d:Array Int) (m:Nat) {k:Nat} (c:(compactUpTo d (m+1)).length=k+1):∃h:k<(compactUpTo d (m+1)).length,(compactUpTo d (m+1))[k]=d[m]! := by refine ⟨by omega,?_⟩;have:=gF d m;rw[List.getLast?_eq_getElem?,c,Nat.add_sub_cancel,List.getElem?_eq_getElem (by omega)] at this;exact sI this

structure OnceAt (W:H) (g:Nat) (d:List Int) (m:Nat):Prop where
 head:∀j (h:j<(compactUpTo d.toArray m).length),W.cell? ⟨g,j,none⟩=some (J V (compactUpTo d.toArray m)[j])
 rest:∀j (h:j<d.length),m<=j->W.cell? ⟨g,j,none⟩=some (J V d[j])
 mid:∀j (_:j<d.length),∃x:Int,W.cell? ⟨g,j,none⟩=some (J V x)
 fz:∀j,j<d.length->W.frozen? ⟨g,j,none⟩=false
 lt:g<W.heap.size
theorem OnceAt.gr {W f:H} {g:Nat} {d:List Int} {m:Nat} (h:OnceAt W g d m) (k:Gr W f):OnceAt f g d m :=
 ⟨fun j c=>(k.cell (p:=(jb5 g j)) h.lt).trans (h.head j c),fun j c l=>(k.cell (p:=(jb5 g j)) h.lt).trans (h.rest j c l),fun j c=>by obtain ⟨x,n⟩:=h.mid j c;exact ⟨x,(k.cell (p:=(jb5 g j)) h.lt).trans n⟩,fun j c=>(k.below.frozen (p:=(jb5 g j)) h.lt).trans (h.fz j c),nL h.lt k.size⟩
theorem OnceAt.start {W:H} {g:Nat} {d:List Int} (h:Holds (Value.int V) W g 0 d.toArray) (l:g<W.heap.size):OnceAt W g d 0:=by
 have k:∀j (c:j<d.length),jb1 W g j (J V d[j]):=fun j c=>by
  have f:=(h j (by simpa using c)).1;rw[Nat.zero_add] at f;have e:d.toArray[j]! = d[j]:=by simp[c]
  rw[e] at f;exact f
 refine ⟨fun j c=> ?_,fun j c _=>k j c,fun j c=>⟨_,k j c⟩,fun j c=> ?_,l⟩
 ·simp[compactUpTo] at c
 ·have f:=(h j (by simpa using c)).2;rw[Nat.zero_add] at f;exact f
theorem OnceAt.skip {W:H} {g:Nat} {d:List Int} {m:Nat} (h:OnceAt W g d m) (l:keeps d.toArray m=false):OnceAt W g d (m+1):=by
 have e:compactUpTo d.toArray (m+1)=compactUpTo d.toArray m:=by rw[compactUpTo_succ,l];simp
 refine ⟨fun j c=> ?_,fun j c n=>h.rest j c (by omega),h.mid,h.fz,h.lt⟩;have f:j<(compactUpTo d.toArray m).length:=by rw[<-e];exact c
 have k:(compactUpTo d.toArray (m+1))[j]=(compactUpTo d.toArray m)[j]:=by simp only[e]
 rw[k];exact h.head j f
theorem OnceAt.keep {W:H} {g:Nat} {d:List Int} {m:Nat} (h:OnceAt W g d m) (F:m<d.length) (D:keeps d.toArray m=true) {k:Nat} (r:(compactUpTo d.toArray m).length=k):OnceAt (W.jb3 g k (J V d[m])) g d (m+1):=by
 have e:compactUpTo d.toArray (m+1)=compactUpTo d.toArray m++[d[m]]:=by rw[compactUpTo_succ,D];simp[F]
 have E:=et d.toArray m;refine ⟨fun j f=> ?_,fun j f R=> ?_,fun j f=> ?_,fun j f=> ?_,by simpa[World.setCell] using h.lt⟩
 ·have n:j<(compactUpTo d.toArray m++[d[m]]).length:=by rw[<-e];exact f
  have C:(compactUpTo d.toArray (m+1))[j]'f=(compactUpTo d.toArray m++[d[m]])[j]'n:=by simp only[e]
  rw[C];rw[List.length_append,List.length_singleton] at n;by_cases c:j=k
  ·subst c;obtain ⟨x,u⟩:=h.mid j (by omega);rw[aa u,if_pos rfl];simp[r]
  ·have l:j<(compactUpTo d.toArray m).length:=(by omega);rw[aa (h.head j l),if_neg c,List.getElem_append_left l]
 ·rw[aa (h.rest j f (by omega)),if_neg (by omega)]
 ·obtain ⟨x,u⟩:=h.mid j f;rw[aa u];by_cases c:j=k
  ·exact ⟨d[m],by rw[if_pos c]⟩
  ·exact ⟨x,by rw[if_neg c]⟩
 ·simp only[World.frozen?_setCell];exact h.fz j f

theorem js (l:List Int) (A:Option q) (cap:Nat) (w:H) (hr:aq w A l) (hA:A=none->cap=0) (cv:l.length*8<=140737488355328) :
  T U 111 #[I A l.length cap] w fun e w'=>∃C cp,e= Q (I C (aX l).length cp)/\aq w' C (aX l)/\jb2 w w':=by
 have an:Tryz.prog.follows .mixedOrders=true:=by kernel_rfl
 have bv:Z (([]:List Int).length+l.length<=maxLen/\(([]:List Int).length+l.length)*8<=140737488355328):=by show _/\_;unfold maxLen;simp only[List.length_nil];omega
 go_enter Tryz.func111,Tryz.ntmps111;go_wp2_with (at_builtin;refine aH _ rfl _ _ rfl w.heap.size (I none 0 0) [] l A cap rfl rfl (ae.nil _ _ _ _ _) hr hA bv.out.1 bv.out.2 (nR _) ?_;intro v1 w1 a0 a5);have a9:jb2 w w1:=bB a5;have a7:dD w1 w.heap.size v1 l:=a0;obtain ⟨B,cb,rfl,hB,r,cd,be,b1⟩:=ae.full bI a7;clear a0 a5 a7;by_cases h0:l=[]
 ·subst h0;have hz:aX []=[]:=List.eq_nil_of_length_eq_zero (Nat.le_zero.1 (di []));have b0:=ja1 hz;clear hz;refine cM (show T _ _ _ _ _ from nV _ _ _) ?_;rintro e w2 ⟨rfl,rfl⟩;go_wp2;go_loopw [4,5] (fun kv iv wr=>kv= J V 0/\iv= J V 0/\wr=w2) (fun _ _ _=>0);exact ⟨rfl,rfl,rfl⟩;obtain ⟨rfl,rfl,rfl⟩:=hrel;go_wp2;go_ret;rw[b0.out];exact ⟨B,cb,rfl,oL rfl,a9⟩
 ·have a1:0<l.length:=List.length_pos_iff.2 h0;obtain ⟨b,cc,b4,hb,_⟩:=r.at a1;subst b4;have h5:=be _ rfl;obtain rfl:cc=0:=h5.2.2.1;have hH:=vF r (b1 _ rfl);have hs:=zv b cb l w1 hH hb (by omega);refine cM (show T _ _ _ _ _ from hs) ?_;rintro e w2 ⟨rfl,bp,b6,bt⟩;have bG:jb2 w w2:=a9.trans (bt _ h5.1);have aL:=OnceAt.start bp b6;have ap:(l.mergeSort fun x y=>decide (x<=y)).length=l.length:=by simp
  have ao:Z (aX l=compactUpTo (l.mergeSort fun x y=>decide (x<=y)).toArray l.length):=by show aX l=_;unfold aX compact;rw[ap]
  obtain ⟨d,hd⟩:=jb0 (l.mergeSort fun x y=>decide (x<=y));rw[hd] at aL ap ao;have bC:w.heap.size<=b:=h5.1;clear hs hH bp bt a9 hd h5 r be b1 hB h0;have b8:=ja1 ap;have b5:(l.length:Int)<=(cb:Int):=by omega
  go_wp2;go_loopw [4,5] (fun kv iv wr=>∃m:Nat,m<=l.length/\kv= J V ((compactUpTo d.toArray m).length:Nat)/\iv= J V m/\OnceAt wr b d m/\jb2 w wr) (fun _ iv _=>l.length-(intOf iv).toNat);exact ⟨0,by omega,by simp[compactUpTo],rfl,aL,bG⟩;obtain ⟨m,hm,rfl,rfl,f,D⟩:=hrel;have a4:=et d.toArray m;have bb:=D.size;by_cases be:m<l.length
  ·have a6:(m:Int)<(l.length:Int):=(by omega);have u:m<d.length:=by omega
   cases m with
   | zero =>
    have a8:(compactUpTo d.toArray 0).length=0:=(by simp[compactUpTo]);have bd:=f.keep u (by simp[keeps]) a8;rw[a8];obtain ⟨x,hx⟩:=jb0 (d[0]);have b9:Z ((compactUpTo d.toArray 1).length=1):=by show _=_;simp[compactUpTo,keeps]
    have c0:=f.rest 0 u (nR _);rw[hx] at c0;have cG:=cell_grown (a:=(jb5 b 0)) f.lt c0;have n:=ja1 f;have a2:=ja1 hx;clear bd f aL hx;go_wp2;refine wp_region_quiet_grown an (by kernel_rfl) ?_;repeat (go_big_quiet_step (fail))
    refine wpQuiet_nil ?_;rintro _ ⟨⟨nq,g⟩,rfl⟩;have c:=n.out.gr ⟨nq,g,rfl⟩;have R:jb2 w (grow (wr.drewN nq) g):=D.trans ((Gr.below ⟨nq,g,rfl⟩).mono bb);clear n cG c0;generalize grow (wr.drewN nq) g=w3 at c R ⊢;have ad:=c.keep u (by simp[keeps]) a8;rw[a2.out] at ad;have c3:=c.rest 0 u (nR _);rw[a2.out] at c3;have f3:=c.fz 0 u;have E:Z _:=ad;have ba:Z (jb2 w (w3.jb3 b 0 (J V x))):=R.setCell bC _;clear ad c;go_wp2;go_roundw;exact ⟨1,by omega,by rw[b9.out];go_num,by go_num,E.out,ba.out⟩;simp[intOf];omega
   | succ m' =>
    have a1:=pl d.toArray m';obtain ⟨k,hk⟩:∃k,(compactUpTo d.toArray (m'+1)).length=k+1:=⟨(compactUpTo d.toArray (m'+1)).length-1,by omega⟩;obtain ⟨b2,ah⟩:=lu d.toArray m' hk;have b3:m'<d.length:=by omega
    have e0:d.toArray[m']! = d[m']:=(by simp[b3]);have e1:d.toArray[m'+1]! = d[m'+1]:=by simp[u]
    rw[e0] at ah;obtain ⟨x,hx⟩:=jb0 (d[m'+1]);obtain ⟨y,hy⟩:=jb0 (d[m']);have a3:keeps d.toArray (m'+1)= !(x==y):=by unfold keeps;rw[Nat.add_sub_cancel,e0,e1,hx,hy];by_cases h:x=y<;>simp[h]
    have cm:=f.rest (m'+1) u (nR _);rw[hx] at cm;have ck:=f.head k b2;rw[ah,hy] at ck;have bo:=cell_grown (a:=(jb5 b (m'+1))) f.lt cm;have bl:=cell_grown (a:=(jb5 b k)) f.lt ck;have n:=ja1 f;have a2:=ja1 hx;rw[hk] at a4 ⊢;have bc:=ja1 hk;have cs:((k+1:Nat):Int)-1=(k:Int):=by omega
    have cj:((k+1:Nat):Int)=(k:Int)+1:=(by omega);have cn:((m'+1:Nat):Int)=(m':Int)+1:=by omega
    have cf:(k:Int)<(l.length:Int):=(by omega);have ce:(k:Int)+1<(l.length:Int):=by omega
    have cl:(m':Int)+1<(l.length:Int):=(by omega);have cu:((m':Int)+1==0)=false:=beq_eq_false_iff_ne.2 (by omega);have bN:k+1<d.length:=by omega
    clear f aL hx hy e0 e1 ah hk a1 a6 b2;cases hq:(x==y)
    ·have F:Z (keeps d.toArray (m'+1)=true):=(by show _=true;rw[a3,hq];rfl);clear a3;go_wp2;refine wp_region_quiet_grown an (by kernel_rfl) ?_;repeat (go_big_quiet_step (fail))
     refine wpQuiet_nil ?_;rintro _ ⟨⟨nq,g⟩,rfl⟩;have c:=n.out.gr ⟨nq,g,rfl⟩;have R:jb2 w (grow (wr.drewN nq) g):=D.trans ((Gr.below ⟨nq,g,rfl⟩).mono bb);clear n cm ck bo bl;generalize grow (wr.drewN nq) g=w3 at c R ⊢;have ad:=c.keep u F.out bc.out;rw[a2.out] at ad;have c3:=c.rest (m'+1) u (nR _);rw[a2.out] at c3;obtain ⟨z,cz⟩:=c.mid (k+1) bN;have f3:=c.fz (k+1) bN;have E:Z _:=ad;have ak:Z ((compactUpTo d.toArray (m'+1+1)).length=k+1+1):=by show _=_;rw[compactUpTo_succ,F.out,List.length_append,bc.out];rfl
     have ba:Z (jb2 w (w3.jb3 b (k+1) (J V x))):=R.setCell bC _;clear ad c;go_wp2;go_roundw;exact ⟨m'+1+1,by omega,by rw[ak.out];go_num,by go_num,E.out,ba.out⟩;simp[intOf];omega
    ·have F:Z (keeps d.toArray (m'+1)=false):=(by show _=false;rw[a3,hq];rfl);clear a3;go_wp2;refine wp_region_quiet_grown an (by kernel_rfl) ?_;repeat (go_big_quiet_step (fail))
     refine wpQuiet_nil ?_;rintro _ ⟨⟨nq,g⟩,rfl⟩;have c:=n.out.gr ⟨nq,g,rfl⟩;have R:Z (jb2 w (grow (wr.drewN nq) g)):=D.trans ((Gr.below ⟨nq,g,rfl⟩).mono bb);have E:Z _:=c.skip F.out;have ak:Z ((compactUpTo d.toArray (m'+1+1)).length=k+1):=by show _=_;rw[compactUpTo_succ,F.out,List.length_append,bc.out];rfl
     clear n cm ck bo bl c;go_wp2;go_roundw;exact ⟨m'+1+1,by omega,by rw[ak.out],by go_num,E.out,R.out⟩;simp[intOf];omega
  ·have a6:¬(m:Int)<(l.length:Int):=(by omega);obtain rfl:m=l.length:=by omega
   obtain ⟨K,hK⟩:=jb0 (compactUpTo d.toArray l.length).length;have bs:=ja2 ao.out hK;rw[hK] at a4 ⊢;have cr:(K:Int)<=(cb:Int):=by omega
   have r:aq wr (jb4 b 0) (aX l):=by
    refine oR ⟨b,0,rfl,f.lt,fun j hj i hi=> ?_⟩;obtain rfl:i=0:=by omega
    have b7:j<(compactUpTo d.toArray l.length).length:=(by rw[<-ao.out];exact hj);have e:(aX l)[j]=(compactUpTo d.toArray l.length)[j]:=by simp only[ao.out]
    rw[e];have:=f.head j b7;simpa[dU] using this
   have bh:Z _:=r;clear r f aL hK;go_wp2;go_ret;refine ⟨some (jb5 b 0),⟨cb,?_⟩,bh.out,D⟩;rw[bs.out.1,bs.out.2];rfl

end
section
open Go.Shelf Go.Lib

theorem qt (t:Tab) (A:Option q) (ca:Nat) (D:Option q) (cd:Nat) (key col:Int) (w:H) (bo:t.e.length*40<=140737488355328) (hr:Row w A t.c.l) (hd:av w D t.e) :
  T U 77 #[ia (T6 t A ca D cd).toArray,J V key,J V col] w fun e w'=>∃C cp,e= Q (I C (aX (aN key col t.e)).length cp)/\aq w' C (aX (aN key col t.e))/\jb2 w w':=by
 have ap:TabAt (w.alloc (Y #[J V t.c.c0,J V t.c.c1,J V t.c.c2,J V t.c.c3,I A t.c.l.length ca,I D t.e.length cd] 35)) w.heap.size t A ca D cd:=TabAt.new 35 hr hd rfl;have r:jb2 w (w.alloc (Y #[J V t.c.c0,J V t.c.c1,J V t.c.c2,J V t.c.c3,I A t.c.l.length ca,I D t.e.length cd] 35)):=((gR w).alloc _).below;have k5:=ap.k5;go_enter Tryz.func77,Tryz.ntmps77;go_wp2;generalize w.alloc (Y #[J V t.c.c0,J V t.c.c1,J V t.c.c2,J V t.c.c3,I A t.c.l.length ca,I D t.e.length cd] 35)=w0 at ap r k5 ⊢;go_loopw [7,8] (fun v i wr=>∃k:Nat,k<=t.e.length/\i= J V k/\dD wr w0.heap.size v (aN key col (t.e.take k))/\jb2 w0 wr) (fun _ i _=>t.e.length-(intOf i).toNat);exact ⟨0,by omega,rfl,ae.nil _ _ _ _ _,bR _ _⟩;obtain ⟨k,hk,rfl,u,m⟩:=hrel;obtain ⟨A1,R,rfl,a7,d,bl⟩:=ae.row bI u;have a5:=ap.below m;have r5:=a5.k5;have ao:w0.heap.size<=wr.heap.size:=m.size;by_cases ah:k<t.e.length
 ·have a2:(k:Int)<(t.e.length:Int):=by omega
  obtain ⟨bb,bp,rfl,hb,ba⟩:=av.get a5.rowC ah;obtain ⟨x,hx⟩:=jb0 (t.e[k]);obtain ⟨e0,e1,e2,e3,e4⟩:=ba k ah;rw[hx] at e0 e1 e2 e3 e4;have F:=kA (key:=key) (col:=col) ah hx;obtain ⟨M,HM⟩:=jb0 (aN key col (t.e.take k));have aL:M.length<=t.e.length:=by rw[<-HM];exact nT (eO _ _ _) (by rw[List.length_take];omega)
  rw[HM] at u F d ⊢;have n:=ja1 u;have g:=ja1 m;have j:Gr wr wr:=gR _;by_cases hq:x.2.1=key
  ·have bd:(x.2.1==key)=true:=(by simpa using hq);by_cases E:x.2.2.1=col
   ·have a3:(x.2.2.1==col)=true:=(by simpa using E);have f:Z (aN key col (t.e.take (k+1))=M++[x.2.2.2]):=by show _=_;rw[F,if_pos (by simp[cB,hq,E])]
    have a0:Z (M.length+[x.2.2.2].length<=maxLen/\(M.length+[x.2.2.2].length)*8<=140737488355328):=(by show _/\_;unfold maxLen;simp only[List.length_cons,List.length_nil];omega);go_wp2_with (at_builtin;refine aH _ rfl _ _ rfl w0.heap.size (I A1 M.length R) M [x.2.2.2] (jb4 wr.heap.size 0) 1 rfl rfl ?ho ?hr (fun h=>by cases h) a0.out.1 a0.out.2 ?hs ?_);case ho=>exact n.out.gr (j.alloc _)
    case hr=>exact eQ rfl _ _
    case hs=>simp;omega
    intro v1 w3 ak a1;have a9:Z (jb2 w0 w3):=g.out.trans (((j.alloc _).below.mono ao).trans (ae.grown_below (n.out.gr (j.alloc _)) a1 (by simp;omega)));have an:=ja1 ak;go_wp2;go_roundw;exact ⟨k+1,by omega,by go_num,by rw[f.out];exact an.out,a9.out⟩;simp[intOf];omega
   ·have a3:(x.2.2.1==col)=false:=(by simpa using E);have f:Z (aN key col (t.e.take (k+1))=M):=by show _=_;rw[F,if_neg (by simp[cB,E])];simp
    go_wp2;go_roundw;exact ⟨k+1,by omega,by go_num,by rw[f.out];exact n.out.gr j,g.out.trans (j.below.mono ao)⟩;simp[intOf];omega
  ·have bd:(x.2.1==key)=false:=(by simpa using hq);have f:Z (aN key col (t.e.take (k+1))=M):=by show _=_;rw[F,if_neg (by simp[cB,hq])];simp
   go_wp2;go_roundw;exact ⟨k+1,by omega,by go_num,by rw[f.out];exact n.out.gr j,g.out.trans (j.below.mono ao)⟩;simp[intOf];omega
 ·have a2:¬(k:Int)<(t.e.length:Int):=by omega
  have bc:t.e.take k=t.e:=List.take_of_length_le (by omega);rw[bc] at u d ⊢;have aL:(aN key col t.e).length<=t.e.length:=eO _ _ _;obtain ⟨M,HM⟩:=jb0 (aN key col t.e);rw[HM] at u d aL ⊢;have a6:=ja1 HM;have bh:=js M A1 R wr d a7 (by omega);have a4:Z _:=bh;have ad:jb2 w wr:=r.trans (m.mono r.size);go_wp2_with fail;refine ja0 a4 ?_;rintro e w2 ⟨C,cp,rfl,be,a8⟩;go_wp2;go_ret;rw[a6.out];exact ⟨C,cp,rfl,be,ad.trans (a8.mono ad.size)⟩

theorem tY (t:Tab) (A:Option q) (ca:Nat) (D:Option q) (cd:Nat) (w:H) (be:t.e.length*40<=140737488355328) (hr:Row w A t.c.l) (hd:av w D t.e) :
  T U 76 #[ia (T6 t A ca D cd).toArray] w fun e w'=>∃C cp,e= Q (I C (aX (bJ t.e)).length cp)/\aq w' C (aX (bJ t.e))/\jb2 w w':=by
 have ah:TabAt (w.alloc (Y #[J V t.c.c0,J V t.c.c1,J V t.c.c2,J V t.c.c3,I A t.c.l.length ca,I D t.e.length cd] 35)) w.heap.size t A ca D cd:=TabAt.new 35 hr hd rfl;have g:jb2 w (w.alloc (Y #[J V t.c.c0,J V t.c.c1,J V t.c.c2,J V t.c.c3,I A t.c.l.length ca,I D t.e.length cd] 35)):=((gR w).alloc _).below;have k5:=ah.k5;go_enter Tryz.func76,Tryz.ntmps76;go_wp2;generalize w.alloc (Y #[J V t.c.c0,J V t.c.c1,J V t.c.c2,J V t.c.c3,I A t.c.l.length ca,I D t.e.length cd] 35)=w0 at ah g k5 ⊢;go_loopw [3,4] (fun v i wr=>∃k:Nat,k<=t.e.length/\i= J V k/\dD wr w0.heap.size v (bJ (t.e.take k))/\jb2 w0 wr) (fun _ i _=>t.e.length-(intOf i).toNat);exact ⟨0,by omega,rfl,ae.nil _ _ _ _ _,bR _ _⟩;obtain ⟨k,hk,rfl,j,f⟩:=hrel;obtain ⟨A1,m,rfl,a4,d,bd⟩:=ae.row bI j;have a2:=ah.below f;have r5:=a2.k5;have bc:w0.heap.size<=wr.heap.size:=f.size;by_cases F:k<t.e.length
 ·have ap:(k:Int)<(t.e.length:Int):=by omega
  obtain ⟨bb,bh,rfl,hb,a7⟩:=av.get a2.rowC F;obtain ⟨x,hx⟩:=jb0 (t.e[k]);obtain ⟨e0,e1,e2,e3,e4⟩:=a7 k F;rw[hx] at e0 e1 e2 e3 e4;have a0:=kn F hx;obtain ⟨M,HM⟩:=jb0 (bJ (t.e.take k));have ak:M.length<=t.e.length:=by rw[<-HM];exact nT (e7 _) (by rw[List.length_take];omega)
  rw[HM] at j a0 d ⊢;have r:=ja1 j;have u:=ja1 f;have E:Gr wr wr:=gR _;have a1:Z (bJ (t.e.take (k+1))=M++[x.2.1]):=by show _=_;rw[a0]
  have an:Z (M.length+[x.2.1].length<=maxLen/\(M.length+[x.2.1].length)*8<=140737488355328):=by show _/\_;unfold maxLen;simp only[List.length_cons,List.length_nil];omega
  go_wp2_with (at_builtin;refine aH _ rfl _ _ rfl w0.heap.size (I A1 M.length m) M [x.2.1] (jb4 wr.heap.size 0) 1 rfl rfl ?ho ?hr (fun h=>by cases h) an.out.1 an.out.2 ?hs ?_);case ho=>exact r.out.gr (E.alloc _)
  case hr=>exact eQ rfl _ _
  case hs=>simp;omega
  intro v1 w3 R ao;have a6:Z (jb2 w0 w3):=u.out.trans (((E.alloc _).below.mono bc).trans (ae.grown_below (r.out.gr (E.alloc _)) ao (by simp;omega)));have ad:=ja1 R;go_wp2;go_roundw;exact ⟨k+1,by omega,by go_num,by rw[a1.out];exact ad.out,a6.out⟩;simp[intOf];omega
 ·have ap:¬(k:Int)<(t.e.length:Int):=by omega
  have a8:t.e.take k=t.e:=List.take_of_length_le (by omega);rw[a8] at j d ⊢;have ak:(bJ t.e).length<=t.e.length:=e7 _;obtain ⟨M,HM⟩:=jb0 (bJ t.e);rw[HM] at j d ak ⊢;have a3:=ja1 HM;have ba:=js M A1 m wr d a4 (by omega);have aL:Z _:=ba;have n:jb2 w wr:=g.trans (f.mono g.size);go_wp2_with fail;refine ja0 aL ?_;rintro e w2 ⟨C,cp,rfl,a9,a5⟩;go_wp2;go_ret;rw[a3.out];exact ⟨C,cp,rfl,a9,n.trans (a5.mono n.size)⟩

end

def rowC (e:List Cel) (key:Int) (c:Nat):List Int:=[key,if 0<c then grt (aX (aN key 0 e)) else 0,if 1<c then grt (aX (aN key 1 e)) else 0,if 2<c then grt (aX (aN key 2 e)) else 0]
theorem nN (e:List Cel) (key:Int) {c:Nat} (h:c<3):rowC e key (c+1)=(rowC e key c).set (c+1) (grt (aX (aN key (c:Int) e))):=by
 match c,h with
 | 0,_=>rfl
 | 1,_=>rfl
 | 2,_=>rfl
theorem ub (e:List Cel) (key:Int) {c:Nat} (h:c<3) (d:aX (aN key (c:Int) e)=[]):rowC e key (c+1)=rowC e key c:=by
 rw[nN e key h,d];match c,h with
 | 0,_=>rfl
 | 1,_=>rfl
 | 2,_=>rfl
theorem vx {l:List Int} (h:0<l.length):l[l.length-1]'(by omega)=grt l:=by unfold grt;rw[List.getD_eq_getElem?_getD,List.getElem?_eq_getElem (show l.length-1<l.length by omega)];rfl
structure Four (w:H) (X:Nat) (r:List Int):Prop where
 lt:X<w.heap.size
 len:r.length=4
 cell:∀j (h:j<r.length),w.cell? ⟨X,j,none⟩=some (J V r[j])
 fz:∀j,w.frozen? ⟨X,j,none⟩=false
theorem Four.row {w:H} {X:Nat} {r:List Int} (h:Four w X r):aq w (jb4 X 0) r:=oR ⟨X,0,rfl,h.lt,fun j c i hi=>by
 obtain rfl:i=0:=by omega
 rw[show 0+j*1+0=j by omega]
 exact h.cell j c⟩
theorem Four.below {w w':H} {X:Nat} {r:List Int} (h:Four w X r) (k:jb2 w w'):Four w' X r:=⟨nL h.lt k.size,h.len,fun j c=>(k.cell (p:=(jb5 X j)) h.lt).trans (h.cell j c),fun j=>(k.frozen (p:=(jb5 X j)) h.lt).trans (h.fz j)⟩
theorem Four.set {w:H} {X:Nat} {r:List Int} (h:Four w X r) {c:Nat} (l:c<4) (n:Int):Four (w.jb3 X c (J V n)) X (r.set c n):=by
 have m:=h.len;have d:c<r.length:=by omega
 refine ⟨by simpa using h.lt,by simpa using h.len,fun j g=> ?_,fun j=>by simpa using h.fz j⟩;have f:j<r.length:=by simpa using g
 by_cases e:c=j
 ·subst e;rw[List.getElem_set_self];exact World.cell?_setCell_same _ _ _ (h.cell c d)
 ·rw[List.getElem_set_ne e,World.cell?_setCell_other _ _ _ _ (by intro k;injection k with _ k;exact e k)];exact h.cell j f
theorem Four.old {w:H} {X:Nat} {r:List Int} (h:Four w X r) {c:Nat} (d:c<3):∃o,jb1 w X (c+1) (J V o):=by have f:=h.len;exact ⟨_,h.cell (c+1) (by omega)⟩
theorem Four.fin {w d:H} {X:Nat} {e:List Cel} {key n:Int} {c:Nat} (j:c<3) (g:grt (aX (aN key (c:Int) e))=n) (h:Four w X (rowC e key c)) (k:jb2 d w) (l:d.heap.size<=X):Z (Four (w.jb3 X (c+1) (J V n)) X (rowC e key (c+1))/\jb2 d (w.jb3 X (c+1) (J V n))):=by have f:=h.set (c:=c+1) (by omega) n;rw[<-g,<-nN e key j,g] at f;exact ⟨f,k.setCell l _⟩

theorem nP (t:Tab) (A:Option q) (ca:Nat) (D:Option q) (cd:Nat) (w:H) (ht:ay t=0) (hr:Row w A t.c.l) (hd:av w D t.e) :
  T U 40 #[ia (T6 t A ca D cd).toArray] w fun e w'=>∃(L:List Itm) (C:Option q) (c:Nat),e= Q (I C L.length c)/\L.map Itm.z=ofL t/\Lv w' C c L/\jb2 w w':=by
 have g:TabAt (w.alloc (Y #[J V t.c.c0,J V t.c.c1,J V t.c.c2,J V t.c.c3,I A t.c.l.length ca,I D t.e.length cd] 35)) w.heap.size t A ca D cd:=TabAt.new 35 hr hd rfl;have a0:jb2 w (w.alloc (Y #[J V t.c.c0,J V t.c.c1,J V t.c.c2,J V t.c.c3,I A t.c.l.length ca,I D t.e.length cd] 35)):=((gR w).alloc _).below;have ao:Z (t.e.length*40<=140737488355328/\t.e.length<=400):=by have:=(af ht).2.1;exact ⟨by omega,this⟩
 have b3:=tY t A ca D cd (w.alloc (Y #[J V t.c.c0,J V t.c.c1,J V t.c.c2,J V t.c.c3,I A t.c.l.length ca,I D t.e.length cd] 35)) ao.out.1 g.row g.rowC;have bo:Z _:=b3;go_enter Tryz.func40,Tryz.ntmps40;obtain ⟨k0,k1,k2,k3,k4,k5⟩:_/\_/\_/\_/\_/\_:=⟨g.k0,g.k1,g.k2,g.k3,g.k4,g.k5⟩;go_wp2_with fail;refine ja0 bo ?_;rintro e w2 ⟨K,kc,rfl,b5,a4⟩;have a7:=ja2 (g.below a4) (a0.trans (a4.mono a0.size));obtain ⟨E,an⟩:=jb0 (aX (bJ t.e));have a2:Z (aX (bJ t.e)=E/\aq w2 K E):=⟨an,by rw[<-an];exact b5⟩;have cf:E.length<=400:=by rw[<-an];have h1:=di (bJ t.e);have h2:=e7 t.e;have:=ao.out.2;omega
 rw[an];go_wp2;go_loopw [3,12] (fun u i wr=>∃(k:Nat) (L:List Itm),k<=E.length/\i= J V k/\Z (L.length=k/\L.map Itm.z=(E.take k).map (fun d=>(ch t.e d,1))/\OwnT wr w2.heap.size u L/\jb2 w2 wr)) (fun _ i _=>E.length-(intOf i).toNat);exact ⟨0,[],nZ _,rfl,rfl,rfl,OwnT.nil _ _,bR _ _⟩;obtain ⟨k,L,hk,rfl,F⟩:=hrel;by_cases a6:k<E.length
 ·have bp:(k:Int)<(E.length:Int):=by omega
  obtain ⟨bb,b9,rfl,hb,b1⟩:=(a2.out.2.below F.out.2.2.2).at a6;obtain ⟨d,a1⟩:=jb0 (E[k]);have e0:jb1 wr bb (b9+k) (J V d):=by have:=b1 k a6 0 (by omega);rw[a1] at this;simpa[dU] using this
  have b7:Z ((E.take (k+1)).map (fun d=>(ch t.e d,(1:Int)))=(E.take k).map (fun d=>(ch t.e d,1))++[(ch t.e d,1)]):=by show _=_;rw[List.take_succ_eq_append_getElem a6,a1,List.map_append];rfl
  obtain ⟨WX,bN⟩:=jb0 (wr.alloc (Y #[J V d,J V 0,J V 0,J V 0] 3));have a3:Z (Four WX wr.heap.size (rowC t.e d 0)/\Gr wr WX):=by
   rw[<-bN];refine ⟨⟨by simp,rfl,fun j hj=> ?_,fun j=>ee (w:=wr) (gR _) j⟩,(gR _).alloc _⟩;have b2:j<4:=hj;match j,b2 with
   | 0,_=>exact ab (w:=wr) (gR _) rfl
   | 1,_=>exact ab (w:=wr) (gR _) rfl
   | 2,_=>exact ab (w:=wr) (gR _) rfl
   | 3,_=>exact ab (w:=wr) (gR _) rfl
  go_wp2;obtain ⟨X,hX⟩:=jb0 wr.heap.size;have b0:=ja1 hX;rw[hX] at a3 ⊢;go_loopw [7] (fun i wq=>∃c:Nat,c<=3/\i= J V c/\Z (Four wq X (rowC t.e d c)/\jb2 wr wq)) (fun i _=>3-(intOf i).toNat);exact ⟨0,by omega,rfl,a3.out.1,a3.out.2.below⟩;rename H=>wq;obtain ⟨c,hc,rfl,hQ⟩:=hrel;have bG:=ja1 (F.out.2.2.2.trans (hQ.out.2.mono F.out.2.2.2.size));by_cases a5:c<3
  ·have bd:(c:Int)<3:=(by omega);have r:=ja1 (a7.out.1.below bG.out);have a8:=qt t A ca D cd d (c:Int) wq ao.out.1 r.out.row r.out.rowC;have hv:Z _:=a8;obtain ⟨k0,k1,k2,k3,k4,k5⟩:_/\_/\_/\_/\_/\_:=⟨r.out.k0,r.out.k1,r.out.k2,r.out.k3,r.out.k4,r.out.k5⟩;go_wp2_with fail;refine ja0 hv ?_;rintro e w5 ⟨VA,vc,rfl,b6,ba⟩;obtain ⟨vs,ap⟩:=jb0 (aX (aN d (c:Int) t.e));have a9:Z (aX (aN d (c:Int) t.e)=vs/\aq w5 VA vs):=⟨ap,by rw[<-ap];exact b6⟩;have cj:vs.length<=400:=by rw[<-ap];have h1:=di (aN d (c:Int) t.e);have h2:=eO d (c:Int) t.e;have:=ao.out.2;omega
   have ad:=ja2 (hQ.out.1.below ba) (hQ.out.2.trans (ba.mono hQ.out.2.size));rw[ap];by_cases a8:0<vs.length
   ·have bt:(0:Int)<(vs.length:Int):=(by omega);obtain ⟨m,hm⟩:∃m:Nat,vs.length=m+1:=⟨vs.length-1,by omega⟩;obtain ⟨bv,ov,rfl,ce,be⟩:=a9.out.2.at (m:=m) (by omega);obtain ⟨n,hn⟩:=jb0 (vs[m]'(by omega));have f0:jb1 w5 bv (ov+m) (J V n):=by have:=be m (by omega) 0 (by omega);rw[hn] at this;simpa[dU] using this
    have b4:Z (grt (aX (aN d (c:Int) t.e))=n):=(by show _=_;rw[a9.out.1,<-vx a8,<-hn];simp only[hm];rfl);obtain ⟨old,z0⟩:=ad.out.1.old a5;have z1:=ad.out.1.fz (c+1);have f:=ja1 (Four.fin a5 b4.out ad.out.1 ad.out.2 (Nat.le_of_eq b0.out));have bC:vs.length-1=m:=by omega
    rw[<-bC] at f0;clear be hn hm bC;go_wp2;go_roundw;exact ⟨c+1,by omega,by go_num,f⟩;simp[intOf];omega
   ·have bt:¬(0:Int)<(vs.length:Int):=(by omega);have f:Z (Four w5 X (rowC t.e d (c+1))/\jb2 wr w5):=⟨by rw[ub t.e d a5 (by rw[a9.out.1];exact List.eq_nil_of_length_eq_zero (by omega))];exact ad.out.1,ad.out.2⟩;go_wp2;go_roundw;exact ⟨c+1,by omega,by go_num,f⟩;simp[intOf];omega
  ·have bd:¬(c:Int)<3:=(by omega);have ak:Z (Four wq X (ch t.e d)/\jb2 wr wq):=by obtain rfl:c=3:=(by omega);exact hQ.out
   have R:Z (OwnT (wq.alloc (Y #[I (jb4 X 0) 4 4,J V 1] 101)) w2.heap.size u3 L/\aC aE 2 (wq.alloc (Y #[I (jb4 X 0) 4 4,J V 1] 101)) (jb4 wq.heap.size 0) [(⟨some (jb5 X 0),4,ch t.e d,1⟩:Itm)]/\Apart (wq.alloc (Y #[I (jb4 X 0) 4 4,J V 1] 101)) w2.heap.size u3.ownBlock (⟨some (jb5 X 0),4,ch t.e d,1⟩:Itm)/\(L.length+1<=maxLen/\(L.length+1)*32<=140737488355328)/\jb2 w2 (wq.alloc (Y #[I (jb4 X 0) 4 4,J V 1] 101))):=by
    have hA:=ak.out.2.alloc ak.out.2.size (Y #[I (jb4 X 0) 4 4,J V 1] 101);have cc:=F.out.1;have a4:=F.out.2.2.2.size;refine ⟨F.out.2.2.1.below hA,bV rfl (⟨some (jb5 X 0),4,ch t.e d,1⟩:Itm) _,⟨ak.out.1.row.gr ((gR _).alloc _),by show 4<=maxLen;decide,(fun h=>by cases h),fun a ha=>⟨?_,?_,?_⟩⟩,⟨by unfold maxLen;omega,by omega⟩,F.out.2.2.2.trans (hA.mono F.out.2.2.2.size)⟩
    ·cases ha;show w2.heap.size<=X;omega
    ·cases ha;have:=ak.out.1.lt;simp;omega
    ·cases ha;intro e;have h3:=(World.ownsRow.lt F.out.2.2.1.own X e).2;omega
   go_wp2_with (at_builtin;refine cT _ rfl (.tmp 39) (.tmp 42) rfl w2.heap.size u3 L (⟨some (jb5 X 0),4,ch t.e d,1⟩:Itm) (jb5 wq.heap.size 0) 1 rfl rfl R.out.1 R.out.2.1 R.out.2.2.1 R.out.2.2.2.1.1 R.out.2.2.2.1.2 R.out.2.2.2.2.size ?_;intro v8 w8 ah bc);have f:Z ((L++[(⟨some (jb5 X 0),4,ch t.e d,1⟩:Itm)]).length=k+1/\(L++[(⟨some (jb5 X 0),4,ch t.e d,1⟩:Itm)]).map Itm.z=(E.take (k+1)).map (fun d=>(ch t.e d,1))/\OwnT w8 w2.heap.size v8 (L++[(⟨some (jb5 X 0),4,ch t.e d,1⟩:Itm)])/\jb2 w2 w8):=⟨by have:=F.out.1;simp;omega,by rw[b7.out,List.map_append,F.out.2.1];rfl,ah,R.out.2.2.2.2.trans bc⟩;clear ah bc;go_wp2;go_roundw;exact ⟨k+1,L++[(⟨some (jb5 X 0),4,ch t.e d,1⟩:Itm)],by omega,by go_num,f⟩;simp[intOf];omega
 ·have bp:¬(k:Int)<(E.length:Int):=by omega
  have bl:E.take k=E:=List.take_of_length_le (by omega);obtain ⟨A2,aL,b8,bs,bh,_⟩:=F.out.2.2.1.items;have f:Z (L.map Itm.z=ofL t/\Lv wr A2 aL L/\jb2 w wr):=by have h1:=F.out.2.1;rw[bl] at h1;exact ⟨by rw[h1];unfold ofL;rw[a2.out.1],⟨bh,bs,by have:=F.out.1;unfold maxLen;omega⟩,a7.out.2.trans (F.out.2.2.2.mono a7.out.2.size)⟩
  subst b8;clear bl bh bs;go_wp2;go_ret;exact ⟨L,A2,aL,rfl,f.out⟩
end Go.Proofs.YtbkjgjjpnfhkhaaGreatDoor

namespace Go.Proofs
open Go.Shelf
def Tryz.lays171_ren:Go.Shelf.Ren:=⟨fun|171=>160|243=>193|246=>224|283=>237|284=>238|285=>239|286=>240|129=>127|317=>243|318=>244|319=>245|320=>246|337=>247|338=>248|n=>n,fun|3=>3|9=>9|2=>2|4=>4|171=>262|0=>0|53=>175|37=>264|5=>5|173=>265|212=>271|51=>173|20=>20|213=>272|46=>149|232=>273|233=>274|n=>n,fun|17=>1|18=>2|19=>3|n=>n⟩
theorem Tryz.lays171:Go.Proofs.LaysM.n171 U Tryz.lays171_ren:={
 mixed:=by kernel_rfl
 f129:=Tryz.func127.trans (congrArg some (by kernel_rfl))
 f171:=Tryz.func160.trans (congrArg some (by kernel_rfl))
 f243:=Tryz.func193.trans (congrArg some (by kernel_rfl))
 f246:=Tryz.func224.trans (congrArg some (by kernel_rfl))
 f283:=Tryz.func237.trans (congrArg some (by kernel_rfl))
 f284:=Tryz.func238.trans (congrArg some (by kernel_rfl))
 f285:=Tryz.func239.trans (congrArg some (by kernel_rfl))
 f286:=Tryz.func240.trans (congrArg some (by kernel_rfl))
 f317:=Tryz.func243.trans (congrArg some (by kernel_rfl))
 f318:=Tryz.func244.trans (congrArg some (by kernel_rfl))
 f319:=Tryz.func245.trans (congrArg some (by kernel_rfl))
 f320:=Tryz.func246.trans (congrArg some (by kernel_rfl))
 f337:=Tryz.func247.trans (congrArg some (by kernel_rfl))
 f338:=Tryz.func248.trans (congrArg some (by kernel_rfl))
 t0:=Tryz.underlying0
 a0:=Tryz.isAgg0
 z0:=Tryz.sizeOf0
 v0:=Tryz.zeroValue0
 t2:=Tryz.underlying2
 a2:=Tryz.isAgg2
 z2:=Tryz.sizeOf2
 v2:=Tryz.zeroValue2
 t3:=Tryz.underlying3
 a3:=Tryz.isAgg3
 z3:=Tryz.sizeOf3
 v3:=Tryz.zeroValue3
 t4:=Tryz.underlying4
 a4:=Tryz.isAgg4
 z4:=Tryz.sizeOf4
 v4:=Tryz.zeroValue4
 t5:=Tryz.underlying5
 a5:=Tryz.isAgg5
 z5:=Tryz.sizeOf5
 v5:=Tryz.zeroValue5
 t9:=Tryz.underlying9
 a9:=Tryz.isAgg9
 z9:=Tryz.sizeOf9
 v9:=Tryz.zeroValue9
 t20:=Tryz.underlying20
 a20:=Tryz.isAgg20
 z20:=Tryz.sizeOf20
 v20:=Tryz.zeroValue20
 t37:=Tryz.underlying264
 a37:=Tryz.isAgg264
 z37:=Tryz.sizeOf264
 v37:=Tryz.zeroValue264
 t46:=Tryz.underlying149
 a46:=Tryz.isAgg149
 z46:=Tryz.sizeOf149
 v46:=Tryz.zeroValue149
 t51:=Tryz.underlying173
 a51:=Tryz.isAgg173
 z51:=Tryz.sizeOf173
 v51:=Tryz.zeroValue173
 t53:=Tryz.underlying175
 a53:=Tryz.isAgg175
 z53:=Tryz.sizeOf175
 v53:=Tryz.zeroValue175
 t171:=Tryz.underlying262
 a171:=Tryz.isAgg262
 z171:=Tryz.sizeOf262
 v171:=Tryz.zeroValue262
 t173:=Tryz.underlying265
 a173:=Tryz.isAgg265
 z173:=Tryz.sizeOf265
 v173:=Tryz.zeroValue265
 t212:=Tryz.underlying271
 a212:=Tryz.isAgg271
 z212:=Tryz.sizeOf271
 v212:=Tryz.zeroValue271
 t213:=Tryz.underlying272
 a213:=Tryz.isAgg272
 z213:=Tryz.sizeOf272
 t232:=Tryz.underlying273
 a232:=Tryz.isAgg273
 z232:=Tryz.sizeOf273
 v232:=Tryz.zeroValue273
 t233:=Tryz.underlying274
 a233:=Tryz.isAgg274
 z233:=Tryz.sizeOf274
 v233:=Tryz.zeroValue274
 g17:=by kernel_rfl
 g18:=by kernel_rfl
 g19:=by kernel_rfl
 i0:=by kernel_rfl
 i2:=by kernel_rfl
 i3:=by kernel_rfl
 i4:=by kernel_rfl
 i5:=by kernel_rfl
 i9:=by kernel_rfl
 i20:=by kernel_rfl
 i37:=by kernel_rfl
 i46:=by kernel_rfl
 i51:=by kernel_rfl
 i53:=by kernel_rfl
 i171:=by kernel_rfl
 i173:=by kernel_rfl
 i212:=by kernel_rfl
 i232:=by kernel_rfl
 i233:=by kernel_rfl
 m17:=by kernel_rfl
 m18:=by kernel_rfl
 m19:=by kernel_rfl }
end Go.Proofs

namespace Go.Proofs.YtbkjgjjpnfhkhaaGreatDoor
open Go.RowKit Go.Sort

def fC (w : H) : Prop := Lib.TabIs U w "internal/strconv.uint64pow10" .u64 Lib.pow10Tab
theorem fC.below {w w':H} (h:fC w) (k:jb2 w w'):fC w':=by
 have d : (Tryz.prog.globalNamed "internal/strconv.uint64pow10").isSome = true := by kernel_rfl
 obtain ⟨g,c⟩:=Option.isSome_iff_exists.1 d;exact TabIs_below c h k
theorem fC.gr {w w':H} (h:fC w) (k:Gr w w'):fC w':=h.below k.below
end Go.Proofs.YtbkjgjjpnfhkhaaGreatDoor
