import Derived.Test.YtjmmpnmgpgaagaaGreatDoorM25
set_option maxRecDepth 100000
set_option maxHeartbeats 8000000
open Go renaming Calls → K, Addr → T
open Go.Ending renaming returned → X
open Go.IntKind renaming i64 → I
open Go.Obj renaming cells → U
open Go.Proofs.Tryz renaming prog → Y
open Go.RowKit renaming Below → Z, Hid → H
open Go.Value renaming int → V, slice → J, agg → Q
namespace Go.Proofs.YtjmmpnmgpgaagaaGreatDoor
open Go.RowKit Go.Sort

theorem d7 {w w':World} {base:Nat} {e:TypeId} {k:Nat} {v:Value} {n:Nat} {l:List Value} (h:w.ownsRow base e k v n l) (f:Agr (fun b=>base<=b) w w'):w'.ownsRow base e k v n l:=by
 refine ⟨h.1,?_⟩
 rcases h.2 with h1|⟨g,cap,cur,hv,hb,hc,rest⟩
 ·exact oL h1
 ·exact oR ⟨g,cap,cur,hv,hb,(f.block g hb (Array.getElem?_eq_some_iff.1 hc).1).trans hc,rest⟩
theorem jy {w:World} {N O:Nat} {P:Nat->Prop} {id:Int} {s t:Tab} {qs:List (List Stp)} (h:Nd w N O P id s t qs) :
  K Y 84 #[.pointer (some ⟨N,O,none⟩)] w fun e w'=>∃(EA:Option T) (L:Nat) (EC:Option T) (R:Nat) (EB:Option T) (an:Nat) (ED:Option T) (a0:Nat),e= X (Q (T2 s EA L EC R t EB an ED a0).toArray)/\(Own w' w.heap.size (J EA s.c.l.length L) s.c.l/\dN w' w.heap.size (J EC s.e.length R) s.e)/\(Own w' w.heap.size (J EB t.c.l.length an) t.c.l/\dN w' w.heap.size (J ED t.e.length a0) t.e)/\Z w.heap.size w w':=by
 have b0:Tryz.prog.follows .mixedOrders=true:=by kernel_rfl
 obtain ⟨A,ca,C,cc,a3,bs⟩:=h.ts
 obtain ⟨B,cb,D,cd,a4,bt⟩:=h.tt
 have ce:=s7 (V I s.c.c0) (V I s.c.c1) (V I s.c.c2) (V I s.c.c3) (J A s.c.l.length ca) (J C s.e.length cc) (V I t.c.c0) (V I t.c.c1) (V I t.c.c2) (V I t.c.c3) (J B t.c.l.length cb) (J D t.e.length cd)
 have cf:=s8 (V I s.c.c0) (V I s.c.c1) (V I s.c.c2) (V I s.c.c3) (J A s.c.l.length ca) (J C s.e.length cc) (V I t.c.c0) (V I t.c.c1) (V I t.c.c2) (V I t.c.c3) (J B t.c.l.length cb) (J D t.e.length cd)
 have n1:=a3.k0
 have n2:=a3.k1
 have n3:=a3.k2
 have n4:=a3.k3
 have n5:=a3.k4
 have n6:=a3.k5
 have n7:=a4.k0
 have n8:=a4.k1
 have n9:=a4.k2
 have b1:=a4.k3
 have b2:=a4.k4
 have b3:=a4.k5
 have hH:=ja3 bs bt trivial
 have b9:N<w.heap.size:=h.blk.lt
 have b8:N<w.heap.size+1:=by omega
 clear h bs bt a3 a4
 go_enter Tryz.func84,Tryz.ntmps84
 go_wp2
 obtain ⟨w1,a9⟩:∃W,(w.alloc (U #[V I 0,V I 0,V I 0,V I 0,J none 0 0,J none 0 0,V I 0,V I 0,V I 0,V I 0,J none 0 0,J none 0 0] 144)).alloc (U #[V I 0,V I 0,V I 0,V I 0,J none 0 0,J none 0 0,V I 0,V I 0,V I 0,V I 0,J none 0 0,J none 0 0] 144)=W:=⟨_,rfl⟩
 rw[a9]
 have hI:H (Z w.heap.size w w1/\Cls w1 (w.heap.size+1) Z2/\Cls w1 w.heap.size Z2):=by
  refine ⟨by rw[<-a9];exact (((gR w).alloc _).alloc _).below,?_,by rw[<-a9];exact (Cls.new w _ _).gr ((gR _).alloc _)⟩
  have:=Cls.new (w.alloc (U #[V I 0,V I 0,V I 0,V I 0,J none 0 0,J none 0 0,V I 0,V I 0,V I 0,V I 0,J none 0 0,J none 0 0] 144)) #[V I 0,V I 0,V I 0,V I 0,J none 0 0,J none 0 0,V I 0,V I 0,V I 0,V I 0,J none 0 0,J none 0 0] 144
  rw[a9,show (w.alloc (U #[V I 0,V I 0,V I 0,V I 0,J none 0 0,J none 0 0,V I 0,V I 0,V I 0,V I 0,J none 0 0,J none 0 0] 144)).heap.size=w.heap.size+1 by simp] at this
  exact this
 clear a9 n1 n2 n3 n4 n5 n6 n7 n8 n9 b1 b2 b3
 refine wp_loop_rounds 3 ?_
 rw[rounds_succ]
 go_upto_region 5 with fail
 obtain ⟨r,ap⟩:∃W,w1.alloc (U #[V I s.c.c0,V I s.c.c1,V I s.c.c2,V I s.c.c3,J A s.c.l.length ca,J C s.e.length cc] 56)=W:=⟨_,rfl⟩
 rw[ap]
 have g:H (Gr w1 r/\Z w.heap.size w r/\Cls r w1.heap.size (T6 s A ca C cc)/\Cls r (w.heap.size+1) Z2/\Cls r w.heap.size Z2/\w.heap.size+1<w1.heap.size/\w1.heap.size<r.heap.size):=by
  have hg:Gr w1 r:=by rw[<-ap];exact (gR _).alloc _
  exact ⟨hg,hI.out.1.trans (hg.below.mono hI.out.1.size),by rw[<-ap];exact Cls.new w1 _ _,hI.out.2.1.gr hg,hI.out.2.2.gr hg,hI.out.2.1.lt,by rw[<-ap];simp⟩
 clear ap
 have ao:=ja1 ((gR r).drew.below)
 have a6:H (∀W,Z r.heap.size r W->K Y 115 #[Q (ja7 s.c A ca)] W fun e w'=>∃B cb,e= X (Q (ja7 s.c B cb))/\Own w' W.heap.size (J B s.c.l.length cb) s.c.l/\Z W.heap.size W w'):=fun W hW=>by
  have hb:=g.out.2.1.trans (hW.mono g.out.2.1.size)
  have hr:=hH.out.1.below hb
  exact fR s.c A ca W (bx (aj hr.ok).1).2.1 hr.row hr.nr
 have a7:H (∀W,Z r.heap.size r W->K Y 116 #[J C s.e.length cc] W fun e w'=>∃C c,e= X (J C s.e.length c)/\dN w' W.heap.size (J C s.e.length c) s.e/\Z W.heap.size W w'):=fun W hW=>by
  have hb:=g.out.2.1.trans (hW.mono g.out.2.1.size)
  have hr:=hH.out.1.below hb
  have:=(aj hr.ok).2.1
  exact mL s.e C cc W (by omega) hr.cel hr.nc
 have u:H (∀W,Cls W w1.heap.size (T6 s A ca C cc)->(fun w'=>w'.cell? ⟨w1.heap.size,0,none⟩=some (V I s.c.c0)/\w'.cell? ⟨w1.heap.size,1,none⟩=some (V I s.c.c1)/\w'.cell? ⟨w1.heap.size,2,none⟩=some (V I s.c.c2)/\w'.cell? ⟨w1.heap.size,3,none⟩=some (V I s.c.c3)/\w'.cell? ⟨w1.heap.size,4,none⟩=some (J A s.c.l.length ca)/\w'.cell? ⟨w1.heap.size,5,none⟩=some (J C s.e.length cc)) W):=fun W hW=>⟨hW.cell (j:=0) rfl,hW.cell (j:=1) rfl,hW.cell (j:=2) rfl,hW.cell (j:=3) rfl,hW.cell (j:=4) rfl,hW.cell (j:=5) rfl⟩
 have f:H (w1.heap.size≠w.heap.size+1):=by have:=g.out.2.2.2.2.2.1;show _≠_;omega
 refine wp_region_noPanic ?_
 refine wp_region_held_drew (S:=(fun w'=>w'.cell? ⟨w1.heap.size,0,none⟩=some (V I s.c.c0)/\w'.cell? ⟨w1.heap.size,1,none⟩=some (V I s.c.c1)/\w'.cell? ⟨w1.heap.size,2,none⟩=some (V I s.c.c2)/\w'.cell? ⟨w1.heap.size,3,none⟩=some (V I s.c.c3)/\w'.cell? ⟨w1.heap.size,4,none⟩=some (J A s.c.l.length ca)/\w'.cell? ⟨w1.heap.size,5,none⟩=some (J C s.e.length cc))) (by kernel_rfl) (u.out _ (g.out.2.2.1.below ao.out)) (fun hHeld=> ?_)
 refine tks [0,1,2,4,5,8] (by assumption) ?_
 iterate 6 (refine tk (v:= ?_) (by rfl) (by kernel_rfl) ?_ ?_;rotate_left;· (refine oL ⟨by rfl,?_⟩;intro w a2;(try dsimp only at a2);go_simp<;>with_reducible rfl);try simp only[Act.put,yA,aB,yS])
 refine tk0 ?_
 refine rdy 3 (by kernel_rfl) (by rfl) fun cl hK=> ?_
 go_simp
 (go_at_call 115;(with_reducible refine cM (a6.out _ ao.out) ?_);rintro e w2 ⟨EA,L,rfl,f1,f2⟩;have hF:H (Z r.heap.size r w2/\Own w2 r.heap.size (J EA s.c.l.length L) s.c.l):=⟨ao.out.trans (f2.mono ao.out.size),f1⟩;clear f1 f2)
 first|(go_wp2_with fail)|skip
 refine hK.out _ _ ?_ (fun hHeld=> ?_)
 ·(try dsimp only);first|with_reducible exact u.out _ (g.out.2.2.1.below n.out.1)|with_reducible exact u.out _ (g.out.2.2.1.below hF.out.1)|exact u.out _ (((((((g.out.2.2.1.below n.out.1).oth f.out _).oth f.out _).oth f.out _).oth f.out _).oth f.out _).oth f.out _)
 clear hK cl
 try simp only[Act.put,yA,aB,yS]
 refine rdy 6 (by kernel_rfl) (by rfl) fun cl hK=> ?_
 go_simp
 (go_at_call 116;(with_reducible refine cM (a7.out _ hF.out.1) ?_);rintro e w3 ⟨EC,R,rfl,f1,f2⟩;have n:H (Z r.heap.size r w3/\Own w3 r.heap.size (J EA s.c.l.length L) s.c.l/\dN w3 r.heap.size (J EC s.e.length R) s.e):=⟨hF.out.1.trans (f2.mono hF.out.1.size),hF.out.2.below f2,f1.mono hF.out.1.size⟩;clear f1 f2;have p0:=(g.out.2.2.2.1.below n.out.1).cell (j:=0) rfl;have z0:=(g.out.2.2.2.1.below n.out.1).fz 0;have p1:=(g.out.2.2.2.1.below n.out.1).cell (j:=1) rfl;have z1:=(g.out.2.2.2.1.below n.out.1).fz 1;have p2:=(g.out.2.2.2.1.below n.out.1).cell (j:=2) rfl;have z2:=(g.out.2.2.2.1.below n.out.1).fz 2;have p3:=(g.out.2.2.2.1.below n.out.1).cell (j:=3) rfl;have z3:=(g.out.2.2.2.1.below n.out.1).fz 3;have p4:=(g.out.2.2.2.1.below n.out.1).cell (j:=4) rfl;have z4:=(g.out.2.2.2.1.below n.out.1).fz 4;have p5:=(g.out.2.2.2.1.below n.out.1).cell (j:=5) rfl;have z5:=(g.out.2.2.2.1.below n.out.1).fz 5)
 first|(go_wp2_with fail)|skip
 refine hK.out _ _ ?_ (fun hHeld=> ?_)
 ·(try dsimp only);first|with_reducible exact u.out _ (g.out.2.2.1.below n.out.1)|with_reducible exact u.out _ (g.out.2.2.1.below hF.out.1)|exact u.out _ (((((((g.out.2.2.1.below n.out.1).oth f.out _).oth f.out _).oth f.out _).oth f.out _).oth f.out _).oth f.out _)
 clear hK cl
 try simp only[Act.put,yA,aB,yS]
 refine tks [7,9] (by assumption) ?_
 iterate 2 (refine tk (v:= ?_) (by rfl) (by kernel_rfl) ?_ ?_;rotate_left;· (refine oL ⟨by rfl,?_⟩;intro w a2;(try dsimp only at a2);go_simp<;>with_reducible rfl);try simp only[Act.put,yA,aB,yS])
 refine tk0 ?_
 refine rdy 10 (by kernel_rfl) (by rfl) fun cl hK=> ?_
 go_simp
 refine hK.out _ _ ?_ (fun hHeld=> ?_)
 ·(try dsimp only);first|with_reducible exact u.out _ (g.out.2.2.1.below n.out.1)|with_reducible exact u.out _ (g.out.2.2.1.below hF.out.1)|exact u.out _ (((((((g.out.2.2.1.below n.out.1).oth f.out _).oth f.out _).oth f.out _).oth f.out _).oth f.out _).oth f.out _)
 clear hK cl
 try simp only[Act.put,yA,aB,yS]
 refine wpAnyH_done (by kernel_rfl) ?_ _
 refine NoPanic.normal ?_
 go_wp2_with fail
 obtain ⟨k,F⟩:∃W,((((((w3.setCell ⟨w.heap.size+1,0,none⟩ (V I s.c.c0)).setCell ⟨w.heap.size+1,1,none⟩ (V I s.c.c1)).setCell ⟨w.heap.size+1,2,none⟩ (V I s.c.c2)).setCell ⟨w.heap.size+1,3,none⟩ (V I s.c.c3)).setCell ⟨w.heap.size+1,4,none⟩ (J EA s.c.l.length L)).setCell ⟨w.heap.size+1,5,none⟩ (J EC s.e.length R))=W:=⟨_,rfl⟩
 rw[F]
 have hJ:H (Z w.heap.size w k/\Cls k (w.heap.size+1) [V I s.c.c0,V I s.c.c1,V I s.c.c2,V I s.c.c3,J EA s.c.l.length L,J EC s.e.length R,V I 0,V I 0,V I 0,V I 0,J none 0 0,J none 0 0]/\Cls k w.heap.size Z2/\Own k r.heap.size (J EA s.c.l.length L) s.c.l/\dN k r.heap.size (J EC s.e.length R) s.e):=by
  have bo:=g.out.2.2.2.2.2.1
  have bp:=g.out.2.2.2.2.2.2
  have bc:=g.out.2.1.trans (n.out.1.mono g.out.2.1.size)
  have ad:w.heap.size<=w.heap.size+1:=by omega
  have ah:w.heap.size≠w.heap.size+1:=by omega
  refine ⟨?_,?_,?_,?_,?_⟩
  ·rw[<-F];exact (((((bc.setCell ad _).setCell ad _).setCell ad _).setCell ad _).setCell ad _).setCell ad _
  ·rw[<-F];exact ((((((g.out.2.2.2.1.below n.out.1).put 0 _).put 1 _).put 2 _).put 3 _).put 4 _).put 5 _
  ·rw[<-F];exact ((((((g.out.2.2.2.2.1.below n.out.1).oth ah _).oth ah _).oth ah _).oth ah _).oth ah _).oth ah _
  ·rw[<-F];exact d7 n.out.2.1 ((((((aS _ fun h=>by omega).trans (aS _ fun h=>by omega)).trans (aS _ fun h=>by omega)).trans (aS _ fun h=>by omega)).trans (aS _ fun h=>by omega)).trans (aS _ fun h=>by omega))
  ·rw[<-F];exact d7 n.out.2.2 ((((((aS _ fun h=>by omega).trans (aS _ fun h=>by omega)).trans (aS _ fun h=>by omega)).trans (aS _ fun h=>by omega)).trans (aS _ fun h=>by omega)).trans (aS _ fun h=>by omega))
 clear F n hF a6 a7 u f ao hHeld p0 z0 p1 z1 p2 z2 p3 z3 p4 z4 p5 z5
 have be:=ja2 hJ.out.2.2.2.1 hJ.out.2.2.2.2
 have a8:H (w.heap.size+1<r.heap.size):=by have h1:=g.out.2.2.2.2.2.1;have h2:=g.out.2.2.2.2.2.2;show _<_;omega
 have bh:=ja3 hJ.out.1 hJ.out.2.1 hJ.out.2.2.1
 clear g hI hJ
 have hI:=bh
 clear bh
 rw[rounds_succ]
 go_upto_region 5 with fail
 obtain ⟨E,ap⟩:∃W,k.alloc (U #[V I t.c.c0,V I t.c.c1,V I t.c.c2,V I t.c.c3,J B t.c.l.length cb,J D t.e.length cd] 56)=W:=⟨_,rfl⟩
 rw[ap]
 have g:H (Gr k E/\Z w.heap.size w E/\Cls E k.heap.size (T6 t B cb D cd)/\Cls E (w.heap.size+1) [V I s.c.c0,V I s.c.c1,V I s.c.c2,V I s.c.c3,J EA s.c.l.length L,J EC s.e.length R,V I 0,V I 0,V I 0,V I 0,J none 0 0,J none 0 0]/\Cls E w.heap.size Z2/\w.heap.size+1<k.heap.size/\k.heap.size<E.heap.size):=by
  have hg:Gr k E:=by rw[<-ap];exact (gR _).alloc _
  exact ⟨hg,hI.out.1.trans (hg.below.mono hI.out.1.size),by rw[<-ap];exact Cls.new k _ _,hI.out.2.1.gr hg,hI.out.2.2.gr hg,hI.out.2.1.lt,by rw[<-ap];simp⟩
 clear ap
 have ao:=ja1 ((gR E).drew.below)
 have a6:H (∀W,Z E.heap.size E W->K Y 115 #[Q (ja7 t.c B cb)] W fun e w'=>∃B cb,e= X (Q (ja7 t.c B cb))/\Own w' W.heap.size (J B t.c.l.length cb) t.c.l/\Z W.heap.size W w'):=fun W hW=>by
  have hb:=g.out.2.1.trans (hW.mono g.out.2.1.size)
  have hr:=hH.out.2.1.below hb
  exact fR t.c B cb W (bx (aj hr.ok).1).2.1 hr.row hr.nr
 have a7:H (∀W,Z E.heap.size E W->K Y 116 #[J D t.e.length cd] W fun e w'=>∃C c,e= X (J C t.e.length c)/\dN w' W.heap.size (J C t.e.length c) t.e/\Z W.heap.size W w'):=fun W hW=>by
  have hb:=g.out.2.1.trans (hW.mono g.out.2.1.size)
  have hr:=hH.out.2.1.below hb
  have:=(aj hr.ok).2.1
  exact mL t.e D cd W (by omega) hr.cel hr.nc
 have u:H (∀W,Cls W k.heap.size (T6 t B cb D cd)->(fun w'=>w'.cell? ⟨k.heap.size,0,none⟩=some (V I t.c.c0)/\w'.cell? ⟨k.heap.size,1,none⟩=some (V I t.c.c1)/\w'.cell? ⟨k.heap.size,2,none⟩=some (V I t.c.c2)/\w'.cell? ⟨k.heap.size,3,none⟩=some (V I t.c.c3)/\w'.cell? ⟨k.heap.size,4,none⟩=some (J B t.c.l.length cb)/\w'.cell? ⟨k.heap.size,5,none⟩=some (J D t.e.length cd)) W):=fun W hW=>⟨hW.cell (j:=0) rfl,hW.cell (j:=1) rfl,hW.cell (j:=2) rfl,hW.cell (j:=3) rfl,hW.cell (j:=4) rfl,hW.cell (j:=5) rfl⟩
 have f:H (k.heap.size≠w.heap.size+1):=by have:=g.out.2.2.2.2.2.1;show _≠_;omega
 refine wp_region_noPanic ?_
 refine wp_region_held_drew (S:=(fun w'=>w'.cell? ⟨k.heap.size,0,none⟩=some (V I t.c.c0)/\w'.cell? ⟨k.heap.size,1,none⟩=some (V I t.c.c1)/\w'.cell? ⟨k.heap.size,2,none⟩=some (V I t.c.c2)/\w'.cell? ⟨k.heap.size,3,none⟩=some (V I t.c.c3)/\w'.cell? ⟨k.heap.size,4,none⟩=some (J B t.c.l.length cb)/\w'.cell? ⟨k.heap.size,5,none⟩=some (J D t.e.length cd))) (by kernel_rfl) (u.out _ (g.out.2.2.1.below ao.out)) (fun hHeld=> ?_)
 refine tks [0,1,2,4,5,8] (by assumption) ?_
 iterate 6 (refine tk (v:= ?_) (by rfl) (by kernel_rfl) ?_ ?_;rotate_left;· (refine oL ⟨by rfl,?_⟩;intro w a2;(try dsimp only at a2);go_simp<;>with_reducible rfl);try simp only[Act.put,yA,aB,yS])
 refine tk0 ?_
 refine rdy 3 (by kernel_rfl) (by rfl) fun cl hK=> ?_
 go_simp
 (go_at_call 115;(with_reducible refine cM (a6.out _ ao.out) ?_);rintro e w2 ⟨EB,an,rfl,f1,f2⟩;have hF:H (Z E.heap.size E w2/\Own w2 E.heap.size (J EB t.c.l.length an) t.c.l):=⟨ao.out.trans (f2.mono ao.out.size),f1⟩;clear f1 f2)
 first|(go_wp2_with fail)|skip
 refine hK.out _ _ ?_ (fun hHeld=> ?_)
 ·(try dsimp only);first|with_reducible exact u.out _ (g.out.2.2.1.below n.out.1)|with_reducible exact u.out _ (g.out.2.2.1.below hF.out.1)|exact u.out _ (((((((g.out.2.2.1.below n.out.1).oth f.out _).oth f.out _).oth f.out _).oth f.out _).oth f.out _).oth f.out _)
 clear hK cl
 try simp only[Act.put,yA,aB,yS]
 refine rdy 6 (by kernel_rfl) (by rfl) fun cl hK=> ?_
 go_simp
 (go_at_call 116;(with_reducible refine cM (a7.out _ hF.out.1) ?_);rintro e w3 ⟨ED,a0,rfl,f1,f2⟩;have n:H (Z E.heap.size E w3/\Own w3 E.heap.size (J EB t.c.l.length an) t.c.l/\dN w3 E.heap.size (J ED t.e.length a0) t.e):=⟨hF.out.1.trans (f2.mono hF.out.1.size),hF.out.2.below f2,f1.mono hF.out.1.size⟩;clear f1 f2;have p6:=(g.out.2.2.2.1.below n.out.1).cell (j:=6) rfl;have z6:=(g.out.2.2.2.1.below n.out.1).fz 6;have p7:=(g.out.2.2.2.1.below n.out.1).cell (j:=7) rfl;have z7:=(g.out.2.2.2.1.below n.out.1).fz 7;have p8:=(g.out.2.2.2.1.below n.out.1).cell (j:=8) rfl;have z8:=(g.out.2.2.2.1.below n.out.1).fz 8;have p9:=(g.out.2.2.2.1.below n.out.1).cell (j:=9) rfl;have z9:=(g.out.2.2.2.1.below n.out.1).fz 9;have b4:=(g.out.2.2.2.1.below n.out.1).cell (j:=10) rfl;have bC:=(g.out.2.2.2.1.below n.out.1).fz 10;have b5:=(g.out.2.2.2.1.below n.out.1).cell (j:=11) rfl;have bG:=(g.out.2.2.2.1.below n.out.1).fz 11)
 first|(go_wp2_with fail)|skip
 refine hK.out _ _ ?_ (fun hHeld=> ?_)
 ·(try dsimp only);first|with_reducible exact u.out _ (g.out.2.2.1.below n.out.1)|with_reducible exact u.out _ (g.out.2.2.1.below hF.out.1)|exact u.out _ (((((((g.out.2.2.1.below n.out.1).oth f.out _).oth f.out _).oth f.out _).oth f.out _).oth f.out _).oth f.out _)
 clear hK cl
 try simp only[Act.put,yA,aB,yS]
 refine tks [7,9] (by assumption) ?_
 iterate 2 (refine tk (v:= ?_) (by rfl) (by kernel_rfl) ?_ ?_;rotate_left;· (refine oL ⟨by rfl,?_⟩;intro w a2;(try dsimp only at a2);go_simp<;>with_reducible rfl);try simp only[Act.put,yA,aB,yS])
 refine tk0 ?_
 refine rdy 10 (by kernel_rfl) (by rfl) fun cl hK=> ?_
 go_simp
 refine hK.out _ _ ?_ (fun hHeld=> ?_)
 ·(try dsimp only);first|with_reducible exact u.out _ (g.out.2.2.1.below n.out.1)|with_reducible exact u.out _ (g.out.2.2.1.below hF.out.1)|exact u.out _ (((((((g.out.2.2.1.below n.out.1).oth f.out _).oth f.out _).oth f.out _).oth f.out _).oth f.out _).oth f.out _)
 clear hK cl
 try simp only[Act.put,yA,aB,yS]
 refine wpAnyH_done (by kernel_rfl) ?_ _
 refine NoPanic.normal ?_
 go_wp2_with fail
 obtain ⟨a1,F⟩:∃W,((((((w3.setCell ⟨w.heap.size+1,6,none⟩ (V I t.c.c0)).setCell ⟨w.heap.size+1,7,none⟩ (V I t.c.c1)).setCell ⟨w.heap.size+1,8,none⟩ (V I t.c.c2)).setCell ⟨w.heap.size+1,9,none⟩ (V I t.c.c3)).setCell ⟨w.heap.size+1,10,none⟩ (J EB t.c.l.length an)).setCell ⟨w.heap.size+1,11,none⟩ (J ED t.e.length a0))=W:=⟨_,rfl⟩
 rw[F]
 have hJ:H (Z w.heap.size w a1/\Cls a1 (w.heap.size+1) (T2 s EA L EC R t EB an ED a0)/\Cls a1 w.heap.size Z2/\Own a1 E.heap.size (J EB t.c.l.length an) t.c.l/\dN a1 E.heap.size (J ED t.e.length a0) t.e/\Own a1 r.heap.size (J EA s.c.l.length L) s.c.l/\dN a1 r.heap.size (J EC s.e.length R) s.e):=by
  have bo:=g.out.2.2.2.2.2.1
  have bp:=g.out.2.2.2.2.2.2
  have bc:=g.out.2.1.trans (n.out.1.mono g.out.2.1.size)
  have ad:w.heap.size<=w.heap.size+1:=by omega
  have ah:w.heap.size≠w.heap.size+1:=by omega
  refine ⟨?_,?_,?_,?_,?_,?_,?_⟩
  ·rw[<-F];exact (((((bc.setCell ad _).setCell ad _).setCell ad _).setCell ad _).setCell ad _).setCell ad _
  ·rw[<-F];exact ((((((g.out.2.2.2.1.below n.out.1).put 6 _).put 7 _).put 8 _).put 9 _).put 10 _).put 11 _
  ·rw[<-F];exact ((((((g.out.2.2.2.2.1.below n.out.1).oth ah _).oth ah _).oth ah _).oth ah _).oth ah _).oth ah _
  ·rw[<-F];exact d7 n.out.2.1 ((((((aS _ fun h=>by omega).trans (aS _ fun h=>by omega)).trans (aS _ fun h=>by omega)).trans (aS _ fun h=>by omega)).trans (aS _ fun h=>by omega)).trans (aS _ fun h=>by omega))
  ·rw[<-F];exact d7 n.out.2.2 ((((((aS _ fun h=>by omega).trans (aS _ fun h=>by omega)).trans (aS _ fun h=>by omega)).trans (aS _ fun h=>by omega)).trans (aS _ fun h=>by omega)).trans (aS _ fun h=>by omega))
  ·have bd:Z k.heap.size k w3:=g.out.1.below.trans (n.out.1.mono g.out.1.size)
   have bb:=a8.out
   rw[<-F];exact d7 (be.out.1.below bd) ((((((aS _ fun h=>by omega).trans (aS _ fun h=>by omega)).trans (aS _ fun h=>by omega)).trans (aS _ fun h=>by omega)).trans (aS _ fun h=>by omega)).trans (aS _ fun h=>by omega))
  ·have bd:Z k.heap.size k w3:=g.out.1.below.trans (n.out.1.mono g.out.1.size)
   have bb:=a8.out
   rw[<-F];exact d7 (ae.below be.out.2 bd) ((((((aS _ fun h=>by omega).trans (aS _ fun h=>by omega)).trans (aS _ fun h=>by omega)).trans (aS _ fun h=>by omega)).trans (aS _ fun h=>by omega)).trans (aS _ fun h=>by omega))
 clear F n hF a6 a7 u f ao hHeld p6 z6 p7 z7 p8 z8 p9 z9 b4 bC b5 bG
 rw[rounds_succ]
 obtain ⟨q0,q1,q2,q3,q4,q5,q6,q7,q8,q9,cj,ck⟩:=iv hJ.out.2.1
 obtain ⟨r0,r1,r2,r3,r4,r5,r6,r7,r8,r9,b6,b7⟩:=iv hJ.out.2.2.1
 obtain ⟨z0,z1,z2,z3,z4,z5,z6,z7,z8,z9,bC,bG⟩:=rN hJ.out.2.2.1
 go_wp2
 have bb:=a8.out
 have bo:=g.out.2.2.2.2.2.1
 have bp:=g.out.2.2.2.2.2.2
 have ba:∀a5,w.heap.size<a5->Agr (fun b=>a5<=b) a1 ((((((((((((a1.setCell ⟨w.heap.size,0,none⟩ (V I s.c.c0)).setCell ⟨w.heap.size,1,none⟩ (V I s.c.c1)).setCell ⟨w.heap.size,2,none⟩ (V I s.c.c2)).setCell ⟨w.heap.size,3,none⟩ (V I s.c.c3)).setCell ⟨w.heap.size,4,none⟩ (J EA s.c.l.length L)).setCell ⟨w.heap.size,5,none⟩ (J EC s.e.length R)).setCell ⟨w.heap.size,6,none⟩ (V I t.c.c0)).setCell ⟨w.heap.size,7,none⟩ (V I t.c.c1)).setCell ⟨w.heap.size,8,none⟩ (V I t.c.c2)).setCell ⟨w.heap.size,9,none⟩ (V I t.c.c3)).setCell ⟨w.heap.size,10,none⟩ (J EB t.c.l.length an)).setCell ⟨w.heap.size,11,none⟩ (J ED t.e.length a0)):=fun a5 bN=>((((((((((((aS _ fun h=>by omega).trans (aS _ fun h=>by omega)).trans (aS _ fun h=>by omega)).trans (aS _ fun h=>by omega)).trans (aS _ fun h=>by omega)).trans (aS _ fun h=>by omega)).trans (aS _ fun h=>by omega)).trans (aS _ fun h=>by omega)).trans (aS _ fun h=>by omega)).trans (aS _ fun h=>by omega)).trans (aS _ fun h=>by omega)).trans (aS _ fun h=>by omega))
 have bl:w.heap.size<=r.heap.size:=by omega
 have bn:w.heap.size<=E.heap.size:=by have:=g.out.2.1.size;omega
 exact bodyPost_ret (v:= Q (T2 s EA L EC R t EB an ED a0).toArray) (by simp[results,Tryz.results84,go_sem,r0,r1,r2,r3,r4,r5,r6,r7,r8,r9,b6,b7]) rfl ⟨EA,L,EC,R,EB,an,ED,a0,rfl,⟨Own.mono (d7 hJ.out.2.2.2.2.2.1 (ba _ (by omega))) bl,ae.mono (d7 hJ.out.2.2.2.2.2.2 (ba _ (by omega))) bl⟩,⟨Own.mono (d7 hJ.out.2.2.2.1 (ba _ (by omega))) bn,ae.mono (d7 hJ.out.2.2.2.2.1 (ba _ (by omega))) bn⟩,((((((((((((hJ.out.1.setCell (nR _) _).setCell (nR _) _).setCell (nR _) _).setCell (nR _) _).setCell (nR _) _).setCell (nR _) _).setCell (nR _) _).setCell (nR _) _).setCell (nR _) _).setCell (nR _) _).setCell (nR _) _).setCell (nR _) _)⟩

theorem Az {w:World} {N O:Nat} {P:Nat->Prop} {id:Int} {s t:Tab} {qs:List (List Stp)} (h:Nd w N O P id s t qs) :
  K Y 133 #[.pointer (some ⟨N,O,none⟩)] w fun e w'=>∃(EA:Option T) (r:Nat) (EB:Option T) (L:Nat),e= X (Q #[V I s.c.c0,V I s.c.c1,V I s.c.c2,V I s.c.c3,J EA s.c.l.length r,V I t.c.c0,V I t.c.c1,V I t.c.c2,V I t.c.c3,J EB t.c.l.length L])/\Own w' w.heap.size (J EA s.c.l.length r) s.c.l/\Own w' w.heap.size (J EB t.c.l.length L) t.c.l/\Z w.heap.size w w':=by
 obtain ⟨A,ca,C,cc,ad,bc⟩:=h.ts
 obtain ⟨B,cb,D,cd,ah,bd⟩:=h.tt
 have bN:=s7 (V I s.c.c0) (V I s.c.c1) (V I s.c.c2) (V I s.c.c3) (J A s.c.l.length ca) (J C s.e.length cc) (V I t.c.c0) (V I t.c.c1) (V I t.c.c2) (V I t.c.c3) (J B t.c.l.length cb) (J D t.e.length cd)
 have b0:=s8 (V I s.c.c0) (V I s.c.c1) (V I s.c.c2) (V I s.c.c3) (J A s.c.l.length ca) (J C s.e.length cc) (V I t.c.c0) (V I t.c.c1) (V I t.c.c2) (V I t.c.c3) (J B t.c.l.length cb) (J D t.e.length cd)
 have n1:=ad.k0
 have n2:=ad.k1
 have n3:=ad.k2
 have n4:=ad.k3
 have n5:=ad.k4
 have n6:=ad.k5
 have n7:=ah.k0
 have n8:=ah.k1
 have n9:=ah.k2
 have bp:=ah.k3
 have bs:=ah.k4
 have bt:=ah.k5
 have hH:=ja3 bc bd trivial
 have bG:N<w.heap.size:=h.blk.lt
 have bC:N<w.heap.size+1:=by omega
 clear h bc bd ad ah
 go_enter Tryz.func133,Tryz.ntmps133
 go_wp2
 obtain ⟨w1,ap⟩:∃W,(w.alloc (U #[V I 0,V I 0,V I 0,V I 0,J none 0 0,V I 0,V I 0,V I 0,V I 0,J none 0 0] 206)).alloc (U #[V I 0,V I 0,V I 0,V I 0,J none 0 0,V I 0,V I 0,V I 0,V I 0,J none 0 0] 206)=W:=⟨_,rfl⟩
 rw[ap]
 have hI:H (Z w.heap.size w w1/\Cls w1 (w.heap.size+1) [V I 0,V I 0,V I 0,V I 0,J none 0 0,V I 0,V I 0,V I 0,V I 0,J none 0 0]/\Cls w1 w.heap.size [V I 0,V I 0,V I 0,V I 0,J none 0 0,V I 0,V I 0,V I 0,V I 0,J none 0 0]):=by
  refine ⟨by rw[<-ap];exact (((gR w).alloc _).alloc _).below,?_,by rw[<-ap];exact (Cls.new w _ _).gr ((gR _).alloc _)⟩
  have:=Cls.new (w.alloc (U #[V I 0,V I 0,V I 0,V I 0,J none 0 0,V I 0,V I 0,V I 0,V I 0,J none 0 0] 206)) #[V I 0,V I 0,V I 0,V I 0,J none 0 0,V I 0,V I 0,V I 0,V I 0,J none 0 0] 206
  rw[ap,show (w.alloc (U #[V I 0,V I 0,V I 0,V I 0,J none 0 0,V I 0,V I 0,V I 0,V I 0,J none 0 0] 206)).heap.size=w.heap.size+1 by simp] at this
  exact this
 clear ap n1 n2 n3 n4 n5 n6 n7 n8 n9 bp bs bt
 refine wp_loop_rounds 3 ?_
 rw[rounds_succ]
 go_upto_region 5 with fail
 obtain ⟨f,F⟩:∃W,w1.alloc (U #[V I s.c.c0,V I s.c.c1,V I s.c.c2,V I s.c.c3,J A s.c.l.length ca,J C s.e.length cc] 56)=W:=⟨_,rfl⟩
 rw[F]
 have g:H (Gr w1 f/\Z w.heap.size w f/\Cls f w1.heap.size (T6 s A ca C cc)/\Cls f (w.heap.size+1) [V I 0,V I 0,V I 0,V I 0,J none 0 0,V I 0,V I 0,V I 0,V I 0,J none 0 0]/\Cls f w.heap.size [V I 0,V I 0,V I 0,V I 0,J none 0 0,V I 0,V I 0,V I 0,V I 0,J none 0 0]/\w.heap.size+1<w1.heap.size/\w1.heap.size<f.heap.size):=by
  have hg:Gr w1 f:=by rw[<-F];exact (gR _).alloc _
  exact ⟨hg,hI.out.1.trans (hg.below.mono hI.out.1.size),by rw[<-F];exact Cls.new w1 _ _,hI.out.2.1.gr hg,hI.out.2.2.gr hg,hI.out.2.1.lt,by rw[<-F];simp⟩
 clear F
 have hC:H (K Y 115 #[Q (ja7 s.c A ca)] f fun e w'=>∃B cb,e= X (Q (ja7 s.c B cb))/\Own w' f.heap.size (J B s.c.l.length cb) s.c.l/\Z f.heap.size f w'):=by
  have hr:=hH.out.1.below g.out.2.1
  exact fR s.c A ca f (bx (aj hr.ok).1).2.1 hr.row hr.nr
 obtain ⟨a0,a1,a2,a3,a4⟩:=yK g.out.2.2.1
 go_wp2_with fail
 refine ja0 hC ?_
 rintro e w2 ⟨EA,r,rfl,f1,f2⟩
 have R:=ja2 f2 f1
 clear f1 f2 hC a0 a1 a2 a3 a4
 obtain ⟨p0,p1,p2,p3,p4⟩:=yK (g.out.2.2.2.1.below R.out.1)
 obtain ⟨z0,z1,z2,z3,z4⟩:=ET (g.out.2.2.2.1.below R.out.1)
 go_wp2
 obtain ⟨n,j⟩:∃W,(((((w2.setCell ⟨w.heap.size+1,0,none⟩ (V I s.c.c0)).setCell ⟨w.heap.size+1,1,none⟩ (V I s.c.c1)).setCell ⟨w.heap.size+1,2,none⟩ (V I s.c.c2)).setCell ⟨w.heap.size+1,3,none⟩ (V I s.c.c3)).setCell ⟨w.heap.size+1,4,none⟩ (J EA s.c.l.length r))=W:=⟨_,rfl⟩
 rw[j]
 have hJ:H (Z w.heap.size w n/\Cls n (w.heap.size+1) [V I s.c.c0,V I s.c.c1,V I s.c.c2,V I s.c.c3,J EA s.c.l.length r,V I 0,V I 0,V I 0,V I 0,J none 0 0]/\Cls n w.heap.size [V I 0,V I 0,V I 0,V I 0,J none 0 0,V I 0,V I 0,V I 0,V I 0,J none 0 0]/\Own n f.heap.size (J EA s.c.l.length r) s.c.l):=by
  have ba:=g.out.2.2.2.2.2.1
  have bb:=g.out.2.2.2.2.2.2
  have a6:=g.out.2.1.trans (R.out.1.mono g.out.2.1.size)
  have u:w.heap.size<=w.heap.size+1:=by omega
  have E:w.heap.size≠w.heap.size+1:=by omega
  refine ⟨?_,?_,?_,?_⟩
  ·rw[<-j];exact ((((a6.setCell u _).setCell u _).setCell u _).setCell u _).setCell u _
  ·rw[<-j];exact (((((g.out.2.2.2.1.below R.out.1).put 0 _).put 1 _).put 2 _).put 3 _).put 4 _
  ·rw[<-j];exact (((((g.out.2.2.2.2.1.below R.out.1).oth E _).oth E _).oth E _).oth E _).oth E _
  ·rw[<-j];exact d7 R.out.2 (((((aS _ fun h=>by omega).trans (aS _ fun h=>by omega)).trans (aS _ fun h=>by omega)).trans (aS _ fun h=>by omega)).trans (aS _ fun h=>by omega))
 clear j R p0 z0 p1 z1 p2 z2 p3 z3 p4 z4
 have be:=ja1 hJ.out.2.2.2
 have a5:H (w.heap.size+1<f.heap.size):=by have h1:=g.out.2.2.2.2.2.1;have h2:=g.out.2.2.2.2.2.2;show _<_;omega
 have a8:=ja3 hJ.out.1 hJ.out.2.1 hJ.out.2.2.1
 clear g hI hJ
 have hI:=a8
 clear a8
 rw[rounds_succ]
 go_upto_region 5 with fail
 obtain ⟨k,F⟩:∃W,n.alloc (U #[V I t.c.c0,V I t.c.c1,V I t.c.c2,V I t.c.c3,J B t.c.l.length cb,J D t.e.length cd] 56)=W:=⟨_,rfl⟩
 rw[F]
 have g:H (Gr n k/\Z w.heap.size w k/\Cls k n.heap.size (T6 t B cb D cd)/\Cls k (w.heap.size+1) [V I s.c.c0,V I s.c.c1,V I s.c.c2,V I s.c.c3,J EA s.c.l.length r,V I 0,V I 0,V I 0,V I 0,J none 0 0]/\Cls k w.heap.size [V I 0,V I 0,V I 0,V I 0,J none 0 0,V I 0,V I 0,V I 0,V I 0,J none 0 0]/\w.heap.size+1<n.heap.size/\n.heap.size<k.heap.size):=by
  have hg:Gr n k:=by rw[<-F];exact (gR _).alloc _
  exact ⟨hg,hI.out.1.trans (hg.below.mono hI.out.1.size),by rw[<-F];exact Cls.new n _ _,hI.out.2.1.gr hg,hI.out.2.2.gr hg,hI.out.2.1.lt,by rw[<-F];simp⟩
 clear F
 have hC:H (K Y 115 #[Q (ja7 t.c B cb)] k fun e w'=>∃B cb,e= X (Q (ja7 t.c B cb))/\Own w' k.heap.size (J B t.c.l.length cb) t.c.l/\Z k.heap.size k w'):=by
  have hr:=hH.out.2.1.below g.out.2.1
  exact fR t.c B cb k (bx (aj hr.ok).1).2.1 hr.row hr.nr
 obtain ⟨a0,a1,a2,a3,a4⟩:=yK g.out.2.2.1
 go_wp2_with fail
 refine ja0 hC ?_
 rintro e w2 ⟨EB,L,rfl,f1,f2⟩
 have R:=ja2 f2 f1
 clear f1 f2 hC a0 a1 a2 a3 a4
 obtain ⟨p5,p6,p7,p8,p9⟩:=ER (g.out.2.2.2.1.below R.out.1)
 obtain ⟨z5,z6,z7,z8,z9⟩:=EU (g.out.2.2.2.1.below R.out.1)
 go_wp2
 obtain ⟨an,j⟩:∃W,(((((w2.setCell ⟨w.heap.size+1,5,none⟩ (V I t.c.c0)).setCell ⟨w.heap.size+1,6,none⟩ (V I t.c.c1)).setCell ⟨w.heap.size+1,7,none⟩ (V I t.c.c2)).setCell ⟨w.heap.size+1,8,none⟩ (V I t.c.c3)).setCell ⟨w.heap.size+1,9,none⟩ (J EB t.c.l.length L))=W:=⟨_,rfl⟩
 rw[j]
 have hJ:H (Z w.heap.size w an/\Cls an (w.heap.size+1) [V I s.c.c0,V I s.c.c1,V I s.c.c2,V I s.c.c3,J EA s.c.l.length r,V I t.c.c0,V I t.c.c1,V I t.c.c2,V I t.c.c3,J EB t.c.l.length L]/\Cls an w.heap.size [V I 0,V I 0,V I 0,V I 0,J none 0 0,V I 0,V I 0,V I 0,V I 0,J none 0 0]/\Own an k.heap.size (J EB t.c.l.length L) t.c.l/\Own an f.heap.size (J EA s.c.l.length r) s.c.l):=by
  have ba:=g.out.2.2.2.2.2.1
  have bb:=g.out.2.2.2.2.2.2
  have a6:=g.out.2.1.trans (R.out.1.mono g.out.2.1.size)
  have u:w.heap.size<=w.heap.size+1:=by omega
  have E:w.heap.size≠w.heap.size+1:=by omega
  refine ⟨?_,?_,?_,?_,?_⟩
  ·rw[<-j];exact ((((a6.setCell u _).setCell u _).setCell u _).setCell u _).setCell u _
  ·rw[<-j];exact (((((g.out.2.2.2.1.below R.out.1).put 5 _).put 6 _).put 7 _).put 8 _).put 9 _
  ·rw[<-j];exact (((((g.out.2.2.2.2.1.below R.out.1).oth E _).oth E _).oth E _).oth E _).oth E _
  ·rw[<-j];exact d7 R.out.2 (((((aS _ fun h=>by omega).trans (aS _ fun h=>by omega)).trans (aS _ fun h=>by omega)).trans (aS _ fun h=>by omega)).trans (aS _ fun h=>by omega))
  ·have bl:Z n.heap.size n w2:=g.out.1.below.trans (R.out.1.mono g.out.1.size)
   have a9:=a5.out
   rw[<-j];exact d7 (be.out.below bl) (((((aS _ fun h=>by omega).trans (aS _ fun h=>by omega)).trans (aS _ fun h=>by omega)).trans (aS _ fun h=>by omega)).trans (aS _ fun h=>by omega))
 clear j R p5 z5 p6 z6 p7 z7 p8 z8 p9 z9
 rw[rounds_succ]
 obtain ⟨q0,q1,q2,q3,q4,q5,q6,q7,q8,q9⟩:=gj hJ.out.2.1
 obtain ⟨r0,r1,r2,r3,r4,r5,r6,r7,r8,r9⟩:=gj hJ.out.2.2.1
 obtain ⟨z0,z1,z2,z3,z4,z5,z6,z7,z8,z9⟩:=pz hJ.out.2.2.1
 go_wp2
 have a9:=a5.out
 have ba:=g.out.2.2.2.2.2.1
 have bb:=g.out.2.2.2.2.2.2
 have a7:∀ao,w.heap.size<ao->Agr (fun b=>ao<=b) an ((((((((((an.setCell ⟨w.heap.size,0,none⟩ (V I s.c.c0)).setCell ⟨w.heap.size,1,none⟩ (V I s.c.c1)).setCell ⟨w.heap.size,2,none⟩ (V I s.c.c2)).setCell ⟨w.heap.size,3,none⟩ (V I s.c.c3)).setCell ⟨w.heap.size,4,none⟩ (J EA s.c.l.length r)).setCell ⟨w.heap.size,5,none⟩ (V I t.c.c0)).setCell ⟨w.heap.size,6,none⟩ (V I t.c.c1)).setCell ⟨w.heap.size,7,none⟩ (V I t.c.c2)).setCell ⟨w.heap.size,8,none⟩ (V I t.c.c3)).setCell ⟨w.heap.size,9,none⟩ (J EB t.c.l.length L)):=fun ao bh=>((((((((((aS _ fun h=>by omega).trans (aS _ fun h=>by omega)).trans (aS _ fun h=>by omega)).trans (aS _ fun h=>by omega)).trans (aS _ fun h=>by omega)).trans (aS _ fun h=>by omega)).trans (aS _ fun h=>by omega)).trans (aS _ fun h=>by omega)).trans (aS _ fun h=>by omega)).trans (aS _ fun h=>by omega))
 have bn:w.heap.size<=f.heap.size:=by omega
 have bo:w.heap.size<=k.heap.size:=by have:=g.out.2.1.size;omega
 exact bodyPost_ret (v:= Q #[V I s.c.c0,V I s.c.c1,V I s.c.c2,V I s.c.c3,J EA s.c.l.length r,V I t.c.c0,V I t.c.c1,V I t.c.c2,V I t.c.c3,J EB t.c.l.length L]) (by simp[results,Tryz.results133,go_sem,r0,r1,r2,r3,r4,r5,r6,r7,r8,r9]) rfl ⟨EA,r,EB,L,rfl,Own.mono (d7 hJ.out.2.2.2.2 (a7 _ (by omega))) bn,Own.mono (d7 hJ.out.2.2.2.1 (a7 _ (by omega))) bo,((((((((((hJ.out.1.setCell (nR _) _).setCell (nR _) _).setCell (nR _) _).setCell (nR _) _).setCell (nR _) _).setCell (nR _) _).setCell (nR _) _).setCell (nR _) _).setCell (nR _) _).setCell (nR _) _)⟩
end Go.Proofs.YtjmmpnmgpgaagaaGreatDoor
