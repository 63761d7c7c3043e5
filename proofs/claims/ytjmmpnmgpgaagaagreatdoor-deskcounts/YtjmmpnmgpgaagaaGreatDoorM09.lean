import Derived.Test.YtjmmpnmgpgaagaaGreatDoorM08
import Derived.Shelf.Strconv.Itoa3
import Derived.Shelf.Strings.Builder1
import Derived.Shelf.Strings.OnBuilder
import Derived.Shelf.Unicode.PredsPay
import Derived.Lib.ItoaLen
set_option maxRecDepth 100000
set_option maxHeartbeats 8000000
open Go renaming World → X, Addr → U, Calls → D, Value → d
open Go.Ending renaming returned → K
open Go.IntKind renaming i64 → V
open Go.Obj renaming cells → Y
open Go.Proofs.Tryz renaming prog → J
open Go.RowKit renaming Hid → Z, Below → H
open Go.Value renaming slice → I, int → O, agg → N, tuple → M
namespace Go.Proofs.YtjmmpnmgpgaagaaGreatDoor
open Go.RowKit Go.Sort Go.Maps

structure Sts (w:X) (A:Option U) (ss:List Sl) (S:List (List Zit)):Prop where
 row:az fa 1 w A ss
 each:∀s∈ss,Lv w s.A s.cap s.l
 z:ss.map (fun s=>s.l.map Itm.z)=S
theorem Sts.below {w w':X} {A:Option U} {f:List Sl} {S:List (List Zit)} (h:Sts w A f S) (q:H w.heap.size w w'):Sts w' A f S:=⟨h.row.below q,fun s g=>(h.each s g).below q,h.z⟩
theorem Sts.gr {w w':X} {A:Option U} {f:List Sl} {S:List (List Zit)} (h:Sts w A f S) (q:Gr w w'):Sts w' A f S:=h.below q.below
theorem Sts.at {w:X} {A:Option U} {j:List Sl} {S:List (List Zit)} (h:Sts w A j S) {i:Int} (C:0<=i) (hi:i.toNat<S.length):∃(b f n:Nat) (x:Sl),A=some ⟨b,f,none⟩/\b<w.heap.size/\i=n/\n<j.length/\w.cell? ⟨b,f+n,none⟩=some (I x.A x.l.length x.cap)/\Lv w x.A x.cap x.l/\x.l.map Itm.z=bJ S i:=by
 have g:i.toNat<j.length:=by
  have:=congrArg List.length h.z
  simp at this
  omega
 obtain ⟨b,f,k,r,u⟩:=h.row.at g
 refine ⟨b,f,i.toNat,j[i.toNat],k,r,by omega,g,?_,h.each _ (gM g),?_⟩
 ·have:=u i.toNat g 0 (by omega)
  simpa[fa] using this
 ·unfold bJ
  rw[<-h.z,List.getD_eq_getElem?_getD,List.getElem?_map,List.getElem?_eq_getElem g]
  rfl
theorem Ew (s:Stp) (a b:List Itm) (A B:Option U) (ca cb:Nat) (SA:Option U) (sc:Nat) (ss:List Sl) (S:List (List Zit)) (w:X) (F:s.k=1) (j:s.a=0\/s.a=1) (ha:Lv w A ca a) (hb:Lv w B cb b) :
  D J 244 #[N #[O V s.k,O V s.a,O V s.b,O V s.c,O V s.o,O V s.v,I s.p s.l.length s.n],N #[I A a.length ca,I B b.length cb],I SA ss.length sc] w fun e w'=>∃(L:List Itm) (C:Option U) (k:Nat),e= K (M #[I C L.length k,O V (aT s (a.map Itm.z) (b.map Itm.z) S)])/\L.map Itm.z=aU s (a.map Itm.z) (b.map Itm.z) S/\Lv w' C k L/\H w.heap.size w w'/\NwT w' k w.heap.size C L:=by
 have hH:Z (Lv w A ca a/\Lv w B cb b):=⟨ha,hb⟩
 clear ha hb
 have hE:Z (aT s (a.map Itm.z) (b.map Itm.z) S=bY (qZ s (a.map Itm.z) (b.map Itm.z))/\aU s (a.map Itm.z) (b.map Itm.z) S=dA (qZ s (a.map Itm.z) (b.map Itm.z))):=⟨by unfold aT;rw[if_pos F],by unfold aU;rw[if_pos F]⟩
 rcases j with j|j
 ·have hT:Z (qZ s (a.map Itm.z) (b.map Itm.z)=a.map Itm.z):=by show _=_;unfold qZ;rw[if_pos j]
  have h:=qN (hH.out.1.gr (((gR _).alloc _).alloc _)) (W:=((w.alloc (Y #[O V 1,O V 0,O V s.b,O V s.c,O V s.o,O V s.v,I s.p s.l.length s.n] 136)).alloc (Y #[I A a.length ca,I B b.length cb] 60))) (m:=a.map Itm.z) rfl
  have hN:Z _:=h
  clear h
  obtain ⟨E,g⟩:∃E,aT s (a.map Itm.z) (b.map Itm.z) S=E:=⟨_,rfl⟩
  have r:Z (bY (a.map Itm.z)=E):=by show _=_;rw[<-g,hE.out.1,hT.out]
  rw[g,F,j]
  clear F j g
  go_enter Tryz.func244,Tryz.ntmps244
  go_wp2_with fail
  refine ja0 hN ?_
  rintro e u ⟨L,C,k,rfl,R,h2,h3,h4⟩
  rw[r.out]
  have f:Z (L.map Itm.z=aU s (a.map Itm.z) (b.map Itm.z) S/\Lv u C k L/\H w.heap.size w u/\NwT u k w.heap.size C L):=⟨by rw[hE.out.2,hT.out];exact R,h2,(((gR w).alloc _).alloc _).below.trans (h3.mono (by simp;omega)),h4.mono (by simp;omega)⟩
  clear R h2 h3 h4 hN
  go_wp2
  go_ret2
  exact ⟨L,C,k,rfl,f.out.1,f.out.2.1,f.out.2.2⟩
 ·have hT:Z (qZ s (a.map Itm.z) (b.map Itm.z)=b.map Itm.z):=by show _=_;unfold qZ;rw[if_neg (by omega)]
  have h:=qN (hH.out.2.gr (((gR _).alloc _).alloc _)) (W:=((w.alloc (Y #[O V 1,O V 1,O V s.b,O V s.c,O V s.o,O V s.v,I s.p s.l.length s.n] 136)).alloc (Y #[I A a.length ca,I B b.length cb] 60))) (m:=b.map Itm.z) rfl
  have hN:Z _:=h
  clear h
  obtain ⟨E,g⟩:∃E,aT s (a.map Itm.z) (b.map Itm.z) S=E:=⟨_,rfl⟩
  have r:Z (bY (b.map Itm.z)=E):=by show _=_;rw[<-g,hE.out.1,hT.out]
  rw[g,F,j]
  clear F j g
  go_enter Tryz.func244,Tryz.ntmps244
  go_wp2_with fail
  refine ja0 hN ?_
  rintro e u ⟨L,C,k,rfl,R,h2,h3,h4⟩
  rw[r.out]
  have f:Z (L.map Itm.z=aU s (a.map Itm.z) (b.map Itm.z) S/\Lv u C k L/\H w.heap.size w u/\NwT u k w.heap.size C L):=⟨by rw[hE.out.2,hT.out];exact R,h2,(((gR w).alloc _).alloc _).below.trans (h3.mono (by simp;omega)),h4.mono (by simp;omega)⟩
  clear R h2 h3 h4 hN
  go_wp2
  go_ret2
  exact ⟨L,C,k,rfl,f.out.1,f.out.2.1,f.out.2.2⟩
theorem Ey (s:Stp) (a b:List Itm) (A B:Option U) (ca cb:Nat) (SA:Option U) (sc:Nat) (ss:List Sl) (S:List (List Zit)) (w:X) (hk:s.k=5) (ap:0<=s.a) (a0:s.a.toNat<S.length) (a1:0<=s.b) (a2:s.b.toNat<S.length) (hS:Sts w SA ss S) :
  D J 244 #[N #[O V s.k,O V s.a,O V s.b,O V s.c,O V s.o,O V s.v,I s.p s.l.length s.n],N #[I A a.length ca,I B b.length cb],I SA ss.length sc] w fun e w'=>∃(L:List Itm) (C:Option U) (k:Nat),e= K (M #[I C L.length k,O V (aT s (a.map Itm.z) (b.map Itm.z) S)])/\L.map Itm.z=aU s (a.map Itm.z) (b.map Itm.z) S/\Lv w' C k L/\H w.heap.size w w'/\NwT w' k w.heap.size C L:=by
 have hE:Z (aT s (a.map Itm.z) (b.map Itm.z) S=aY (bJ S s.a) (bJ S s.b)/\aU s (a.map Itm.z) (b.map Itm.z) S=bw (bJ S s.a) (bJ S s.b)):=⟨by unfold aT;rw[if_neg (by omega),if_neg (by omega),if_pos hk],by unfold aU;rw[if_neg (by omega),if_neg (by omega),if_pos hk]⟩
 obtain ⟨bb,g,na,x,hA,R,a4,a5,a9,ba,bc⟩:=hS.at ap a0
 obtain ⟨bt,bs,nb,y,bl,_,a6,a7,bd,be,bh⟩:=hS.at a1 a2
 subst hA
 cases bl
 obtain ⟨E,ah⟩:∃E,aT s (a.map Itm.z) (b.map Itm.z) S=E:=⟨_,rfl⟩
 have bn:Z (aY (bJ S s.a) (bJ S s.b)=E):=by show _=_;rw[<-ah,hE.out.1]
 have f:Z (Gr w ((w.alloc (Y #[O V 5,O V (na:Int),O V (nb:Int),O V s.c,O V s.o,O V s.v,I s.p s.l.length s.n] 136)).alloc (Y #[I A a.length ca,I B b.length cb] 60))):=((gR _).alloc _).alloc _
 obtain ⟨r,u⟩:∃r,((w.alloc (Y #[O V 5,O V (na:Int),O V (nb:Int),O V s.c,O V s.o,O V s.v,I s.p s.l.length s.n] 136)).alloc (Y #[I A a.length ca,I B b.length cb] 60))=r:=⟨_,rfl⟩
 have q0:r.cell? ⟨w.heap.size,0,none⟩=some (O V 5):=by rw[<-u];exact aa (w:=w) ((gR _).alloc _) rfl
 have q1:r.cell? ⟨w.heap.size,1,none⟩=some (O V (na:Int)):=by rw[<-u];exact aa (w:=w) ((gR _).alloc _) rfl
 have q2:r.cell? ⟨w.heap.size,2,none⟩=some (O V (nb:Int)):=by rw[<-u];exact aa (w:=w) ((gR _).alloc _) rfl
 have a8:w.heap.size<r.heap.size:=by rw[<-u];simp;omega
 rw[u] at f
 have ao:=rm ((ba.gr f.out).gr (gR _).drew) ((be.gr f.out).gr (gR _).drew) bc bh (W:=r.drew)
 have hC:Z _:=ao
 clear ao
 have j:Z (∀W',H r.heap.size r W'->(fun w'=>w'.cell? ⟨w.heap.size,1,none⟩=some (O V (na:Int))/\w'.cell? ⟨w.heap.size,2,none⟩=some (O V (nb:Int))/\w'.cell? ⟨bb,g+na,none⟩=some (I x.A x.l.length x.cap)/\w'.cell? ⟨bb,g+nb,none⟩=some (I y.A y.l.length y.cap)) W'):=fun W' h=>⟨(h.cell (p:=⟨w.heap.size,1,none⟩) a8).trans q1,(h.cell (p:=⟨w.heap.size,2,none⟩) a8).trans q2,(h.cell (p:=⟨bb,g+na,none⟩) (nL R f.out.size)).trans ((f.out.below.cell (p:=⟨bb,g+na,none⟩) R).trans a9),(h.cell (p:=⟨bb,g+nb,none⟩) (nL R f.out.size)).trans ((f.out.below.cell (p:=⟨bb,g+nb,none⟩) R).trans bd)⟩
 have F:Z (H r.heap.size r r.drew):=(bR _ _).drew
 have bo:(na:Int)<(ss.length:Int):=by omega
 have bp:(nb:Int)<(ss.length:Int):=by omega
 rw[ah,hk,a4,a6]
 clear hk ah a9 bd ba be bc bh a4 a6 ap a0 a1 a2 a5 a7 R q1 q2 hS
 go_enter Tryz.func244,Tryz.ntmps244
 go_wp2_with fail
 clear u
 refine wp_region_noPanic ?_
 refine wp_region_held_drew (S:=(fun w'=>w'.cell? ⟨w.heap.size,1,none⟩=some (O V (na:Int))/\w'.cell? ⟨w.heap.size,2,none⟩=some (O V (nb:Int))/\w'.cell? ⟨bb,g+na,none⟩=some (I x.A x.l.length x.cap)/\w'.cell? ⟨bb,g+nb,none⟩=some (I y.A y.l.length y.cap))) (by kernel_rfl) (j.out _ F.out) (fun hHeld=> ?_)
 refine tks [0,1,2,3,4,5,6,7,8,9] (by assumption) ?_
 iterate 10 (refine tk (v:= ?_) (by rfl) (by kernel_rfl) ?_ ?_;rotate_left;· (refine oL ⟨by rfl,?_⟩;intro w an;(try dsimp only at an);go_simp<;>with_reducible rfl);try simp only[Act.put,yA,aB,yS])
 refine tk0 ?_
 refine wpAnyH_ready (rs:=[10]) (by kernel_rfl) (by simp) ?_
 refine AllReadyH.cons (o:= ?oitell511) ?hoptell511 (fun bC hK=> ?steptell511) ?moretell511
 case hoptell511=>(simp only[zA,z0',zS];rfl)
 case moretell511=>exact AllReadyH.nil
 go_simp
 (go_at_call 202;(refine ja0 hC ?_);rintro e w2 ⟨L,C,k,rfl,h1,h2,h3,h4⟩;rw[bn.out];have a3:Z (H r.heap.size r w2):=F.out.trans (h3.mono F.out.size);have ad:Z (L.map Itm.z=aU s (a.map Itm.z) (b.map Itm.z) S/\Lv w2 C k L/\H w.heap.size w w2/\NwT w2 k w.heap.size C L):=⟨by rw[hE.out.2];exact h1,h2,f.out.below.trans (a3.out.mono f.out.size),h4.mono (nT f.out.size F.out.size)⟩;clear h1 h2 h3 h4)
 first|(go_wp2_with fail)|skip
 refine hK.out _ _ ?_ (fun hHeld=> ?_)
 ·(try dsimp only);first|with_reducible exact j.out _ F.out|with_reducible exact j.out _ a3.out
 clear hK bC
 try simp only[Act.put,yA,aB,yS]
 refine tks [11,12,13,14] (by assumption) ?_
 iterate 4 (refine tk (v:= ?_) (by rfl) (by kernel_rfl) ?_ ?_;rotate_left;· (refine oL ⟨by rfl,?_⟩;intro w an;(try dsimp only at an);go_simp<;>with_reducible rfl);try simp only[Act.put,yA,aB,yS])
 refine tk0 ?_
 refine wpAnyH_done (by kernel_rfl) ?_ _
 refine NoPanic.normal ?_
 go_wp2
 go_ret2
 exact ⟨L,C,k,rfl,ad.out.1,ad.out.2.1,ad.out.2.2⟩
theorem Ez (s:Stp) (a b:List Itm) (A B:Option U) (ca cb:Nat) (SA:Option U) (sc:Nat) (ss:List Sl) (S:List (List Zit)) (w:X) (hk:s.k=6) (a0:0<=s.a) (a1:s.a.toNat<S.length) (a2:0<=s.b) (a3:s.b.toNat<S.length) (hS:Sts w SA ss S) (bo:aq (bJ S s.b)=0) :
  D J 244 #[N #[O V s.k,O V s.a,O V s.b,O V s.c,O V s.o,O V s.v,I s.p s.l.length s.n],N #[I A a.length ca,I B b.length cb],I SA ss.length sc] w fun e w'=>∃(L:List Itm) (C:Option U) (k:Nat),e= K (M #[I C L.length k,O V (aT s (a.map Itm.z) (b.map Itm.z) S)])/\L.map Itm.z=aU s (a.map Itm.z) (b.map Itm.z) S/\Lv w' C k L/\H w.heap.size w w'/\NwT w' k w.heap.size C L:=by
 have hE:Z (aT s (a.map Itm.z) (b.map Itm.z) S=oK (bJ S s.a) (bJ S s.b)/\aU s (a.map Itm.z) (b.map Itm.z) S=uh (bJ S s.a) (bJ S s.b)):=⟨by unfold aT;rw[if_neg (by omega),if_neg (by omega),if_neg (by omega),if_pos hk],by unfold aU;rw[if_neg (by omega),if_neg (by omega),if_neg (by omega),if_pos hk]⟩
 obtain ⟨bb,g,na,x,hA,R,a5,a6,ba,bc,bd⟩:=hS.at a0 a1
 obtain ⟨bC,bt,nb,y,bl,_,a7,a8,be,bh,ao⟩:=hS.at a2 a3
 subst hA
 cases bl
 obtain ⟨E,ah⟩:∃E,aT s (a.map Itm.z) (b.map Itm.z) S=E:=⟨_,rfl⟩
 have bn:Z (oK (bJ S s.a) (bJ S s.b)=E):=by show _=_;rw[<-ah,hE.out.1]
 have f:Z (Gr w ((w.alloc (Y #[O V 6,O V (na:Int),O V (nb:Int),O V s.c,O V s.o,O V s.v,I s.p s.l.length s.n] 136)).alloc (Y #[I A a.length ca,I B b.length cb] 60))):=((gR _).alloc _).alloc _
 obtain ⟨r,u⟩:∃r,((w.alloc (Y #[O V 6,O V (na:Int),O V (nb:Int),O V s.c,O V s.o,O V s.v,I s.p s.l.length s.n] 136)).alloc (Y #[I A a.length ca,I B b.length cb] 60))=r:=⟨_,rfl⟩
 have q0:r.cell? ⟨w.heap.size,0,none⟩=some (O V 6):=by rw[<-u];exact aa (w:=w) ((gR _).alloc _) rfl
 have q1:r.cell? ⟨w.heap.size,1,none⟩=some (O V (na:Int)):=by rw[<-u];exact aa (w:=w) ((gR _).alloc _) rfl
 have q2:r.cell? ⟨w.heap.size,2,none⟩=some (O V (nb:Int)):=by rw[<-u];exact aa (w:=w) ((gR _).alloc _) rfl
 have a9:w.heap.size<r.heap.size:=by rw[<-u];simp;omega
 rw[u] at f
 have ap:=Dp ((bc.gr f.out).gr (gR _).drew) ((bh.gr f.out).gr (gR _).drew) (by rw[ao];exact bo) bd ao (W:=r.drew)
 have hC:Z _:=ap
 clear ap
 have j:Z (∀W',H r.heap.size r W'->(fun w'=>w'.cell? ⟨w.heap.size,1,none⟩=some (O V (na:Int))/\w'.cell? ⟨w.heap.size,2,none⟩=some (O V (nb:Int))/\w'.cell? ⟨bb,g+na,none⟩=some (I x.A x.l.length x.cap)/\w'.cell? ⟨bb,g+nb,none⟩=some (I y.A y.l.length y.cap)) W'):=fun W' h=>⟨(h.cell (p:=⟨w.heap.size,1,none⟩) a9).trans q1,(h.cell (p:=⟨w.heap.size,2,none⟩) a9).trans q2,(h.cell (p:=⟨bb,g+na,none⟩) (nL R f.out.size)).trans ((f.out.below.cell (p:=⟨bb,g+na,none⟩) R).trans ba),(h.cell (p:=⟨bb,g+nb,none⟩) (nL R f.out.size)).trans ((f.out.below.cell (p:=⟨bb,g+nb,none⟩) R).trans be)⟩
 have F:Z (H r.heap.size r r.drew):=(bR _ _).drew
 have bp:(na:Int)<(ss.length:Int):=by omega
 have bs:(nb:Int)<(ss.length:Int):=by omega
 rw[ah,hk,a5,a7]
 clear hk ah ba be bc bh bd ao a5 a7 a0 a1 a2 a3 a6 a8 R q1 q2 hS
 go_enter Tryz.func244,Tryz.ntmps244
 go_wp2_with fail
 clear u
 refine wp_region_noPanic ?_
 refine wp_region_held_drew (S:=(fun w'=>w'.cell? ⟨w.heap.size,1,none⟩=some (O V (na:Int))/\w'.cell? ⟨w.heap.size,2,none⟩=some (O V (nb:Int))/\w'.cell? ⟨bb,g+na,none⟩=some (I x.A x.l.length x.cap)/\w'.cell? ⟨bb,g+nb,none⟩=some (I y.A y.l.length y.cap))) (by kernel_rfl) (j.out _ F.out) (fun hHeld=> ?_)
 refine tks [0,1,2,3,4,5,6,7,8,9] (by assumption) ?_
 iterate 10 (refine tk (v:= ?_) (by rfl) (by kernel_rfl) ?_ ?_;rotate_left;· (refine oL ⟨by rfl,?_⟩;intro w an;(try dsimp only at an);go_simp<;>with_reducible rfl);try simp only[Act.put,yA,aB,yS])
 refine tk0 ?_
 refine wpAnyH_ready (rs:=[10]) (by kernel_rfl) (by simp) ?_
 refine AllReadyH.cons (o:= ?oitell611) ?hoptell611 (fun bG hK=> ?steptell611) ?moretell611
 case hoptell611=>(simp only[zA,z0',zS];rfl)
 case moretell611=>exact AllReadyH.nil
 go_simp
 (go_at_call 261;(refine ja0 hC ?_);rintro e w2 ⟨L,C,k,rfl,h1,h2,h3,h4⟩;rw[bn.out];have a4:Z (H r.heap.size r w2):=F.out.trans (h3.mono F.out.size);have ad:Z (L.map Itm.z=aU s (a.map Itm.z) (b.map Itm.z) S/\Lv w2 C k L/\H w.heap.size w w2/\NwT w2 k w.heap.size C L):=⟨by rw[hE.out.2];exact h1,h2,f.out.below.trans (a4.out.mono f.out.size),h4.mono (nT f.out.size F.out.size)⟩;clear h1 h2 h3 h4)
 first|(go_wp2_with fail)|skip
 refine hK.out _ _ ?_ (fun hHeld=> ?_)
 ·(try dsimp only);first|with_reducible exact j.out _ F.out|with_reducible exact j.out _ a4.out
 clear hK bG
 try simp only[Act.put,yA,aB,yS]
 refine tks [11,12,13,14] (by assumption) ?_
 iterate 4 (refine tk (v:= ?_) (by rfl) (by kernel_rfl) ?_ ?_;rotate_left;· (refine oL ⟨by rfl,?_⟩;intro w an;(try dsimp only at an);go_simp<;>with_reducible rfl);try simp only[Act.put,yA,aB,yS])
 refine tk0 ?_
 refine wpAnyH_done (by kernel_rfl) ?_ _
 refine NoPanic.normal ?_
 go_wp2
 go_ret2
 exact ⟨L,C,k,rfl,ad.out.1,ad.out.2.1,ad.out.2.2⟩
theorem Ex (s:Stp) (a b:List Itm) (A B:Option U) (ca cb:Nat) (SA:Option U) (sc:Nat) (ss:List Sl) (S:List (List Zit)) (w:X) (hk:s.k=4) (a3:0<=s.a) (a4:s.a.toNat<S.length) (a5:0<=s.b) (a6:s.b.toNat<S.length) (hS:Sts w SA ss S) (bp:∀l r:List Itm,l.map Itm.z=bJ S s.a->r.map Itm.z=bJ S s.b->JoinOk s.c s.v l r) :
  D J 244 #[N #[O V s.k,O V s.a,O V s.b,O V s.c,O V s.o,O V s.v,I s.p s.l.length s.n],N #[I A a.length ca,I B b.length cb],I SA ss.length sc] w fun e w'=>∃(L:List Itm) (C:Option U) (k:Nat),e= K (M #[I C L.length k,O V (aT s (a.map Itm.z) (b.map Itm.z) S)])/\L.map Itm.z=aU s (a.map Itm.z) (b.map Itm.z) S/\Lv w' C k L/\H w.heap.size w w'/\NwT w' k w.heap.size C L:=by
 have hE:Z (aT s (a.map Itm.z) (b.map Itm.z) S=lF (bJ S s.a) (bJ S s.b) s.c s.v/\aU s (a.map Itm.z) (b.map Itm.z) S=nU (bJ S s.a) (bJ S s.b) s.c s.v):=⟨by unfold aT;rw[if_neg (by omega),if_pos hk],by unfold aU;rw[if_neg (by omega),if_pos hk]⟩
 obtain ⟨bb,j,na,x,hA,ad,a8,a9,bd,be,a0⟩:=hS.at a3 a4
 obtain ⟨bG,bC,nb,y,bn,_,ba,bc,bh,bl,a1⟩:=hS.at a5 a6
 subst hA
 cases bn
 obtain ⟨E,ao⟩:∃E,aT s (a.map Itm.z) (b.map Itm.z) S=E:=⟨_,rfl⟩
 have bo:Z (lF (bJ S s.a) (bJ S s.b) s.c s.v=E):=by show _=_;rw[<-ao,hE.out.1]
 have f:Z (Gr w ((w.alloc (Y #[O V 4,O V (na:Int),O V (nb:Int),O V s.c,O V s.o,O V s.v,I s.p s.l.length s.n] 136)).alloc (Y #[I A a.length ca,I B b.length cb] 60))):=((gR _).alloc _).alloc _
 obtain ⟨u,g⟩:∃u,((w.alloc (Y #[O V 4,O V (na:Int),O V (nb:Int),O V s.c,O V s.o,O V s.v,I s.p s.l.length s.n] 136)).alloc (Y #[I A a.length ca,I B b.length cb] 60))=u:=⟨_,rfl⟩
 have q0:u.cell? ⟨w.heap.size,0,none⟩=some (O V 4):=by rw[<-g];exact aa (w:=w) ((gR _).alloc _) rfl
 have q1:u.cell? ⟨w.heap.size,1,none⟩=some (O V (na:Int)):=by rw[<-g];exact aa (w:=w) ((gR _).alloc _) rfl
 have q2:u.cell? ⟨w.heap.size,2,none⟩=some (O V (nb:Int)):=by rw[<-g];exact aa (w:=w) ((gR _).alloc _) rfl
 have q3:u.cell? ⟨w.heap.size,3,none⟩=some (O V s.c):=by rw[<-g];exact aa (w:=w) ((gR _).alloc _) rfl
 have q5:u.cell? ⟨w.heap.size,5,none⟩=some (O V s.v):=by rw[<-g];exact aa (w:=w) ((gR _).alloc _) rfl
 have an:w.heap.size<u.heap.size:=by rw[<-g];simp;omega
 rw[g] at f
 have a2:=DZ ((be.gr f.out).gr (gR _).drew) ((bl.gr f.out).gr (gR _).drew) (bp x.l y.l a0 a1) a0 a1 (W:=u.drew)
 have hC:Z _:=a2
 clear a2
 have F:Z (∀W',H u.heap.size u W'->(fun w'=>w'.cell? ⟨w.heap.size,1,none⟩=some (O V (na:Int))/\w'.cell? ⟨w.heap.size,2,none⟩=some (O V (nb:Int))/\w'.cell? ⟨bb,j+na,none⟩=some (I x.A x.l.length x.cap)/\w'.cell? ⟨bb,j+nb,none⟩=some (I y.A y.l.length y.cap)/\w'.cell? ⟨w.heap.size,3,none⟩=some (O V s.c)/\w'.cell? ⟨w.heap.size,5,none⟩=some (O V s.v)) W'):=fun W' h=>⟨(h.cell (p:=⟨w.heap.size,1,none⟩) an).trans q1,(h.cell (p:=⟨w.heap.size,2,none⟩) an).trans q2,(h.cell (p:=⟨bb,j+na,none⟩) (nL ad f.out.size)).trans ((f.out.below.cell (p:=⟨bb,j+na,none⟩) ad).trans bd),(h.cell (p:=⟨bb,j+nb,none⟩) (nL ad f.out.size)).trans ((f.out.below.cell (p:=⟨bb,j+nb,none⟩) ad).trans bh),(h.cell (p:=⟨w.heap.size,3,none⟩) an).trans q3,(h.cell (p:=⟨w.heap.size,5,none⟩) an).trans q5⟩
 have R:Z (H u.heap.size u u.drew):=(bR _ _).drew
 have bs:(na:Int)<(ss.length:Int):=by omega
 have bt:(nb:Int)<(ss.length:Int):=by omega
 rw[ao,hk,a8,ba]
 clear hk ao bd bh be bl a0 a1 a8 ba a3 a4 a5 a6 a9 bc ad q1 q2 q3 q5 hS
 go_enter Tryz.func244,Tryz.ntmps244
 go_wp2_with fail
 clear g
 refine wp_region_noPanic ?_
 refine wp_region_held_drew (S:=(fun w'=>w'.cell? ⟨w.heap.size,1,none⟩=some (O V (na:Int))/\w'.cell? ⟨w.heap.size,2,none⟩=some (O V (nb:Int))/\w'.cell? ⟨bb,j+na,none⟩=some (I x.A x.l.length x.cap)/\w'.cell? ⟨bb,j+nb,none⟩=some (I y.A y.l.length y.cap)/\w'.cell? ⟨w.heap.size,3,none⟩=some (O V s.c)/\w'.cell? ⟨w.heap.size,5,none⟩=some (O V s.v))) (by kernel_rfl) (F.out _ R.out) (fun hHeld=> ?_)
 refine tks [0,1,2,3,4,5,6,7,8,9,10,11,12,13] (by assumption) ?_
 iterate 14 (refine tk (v:= ?_) (by rfl) (by kernel_rfl) ?_ ?_;rotate_left;· (refine oL ⟨by rfl,?_⟩;intro w ap;(try dsimp only at ap);go_simp<;>with_reducible rfl);try simp only[Act.put,yA,aB,yS])
 refine tk0 ?_
 refine wpAnyH_ready (rs:=[14]) (by kernel_rfl) (by simp) ?_
 refine AllReadyH.cons (o:= ?oitell415) ?hoptell415 (fun bN hK=> ?steptell415) ?moretell415
 case hoptell415=>(simp only[zA,z0',zS];rfl)
 case moretell415=>exact AllReadyH.nil
 go_simp
 (go_at_call 260;(refine ja0 hC ?_);rintro e w2 ⟨L,C,k,rfl,h1,h2,h3,h4⟩;rw[bo.out];have a7:Z (H u.heap.size u w2):=R.out.trans (h3.mono R.out.size);have ah:Z (L.map Itm.z=aU s (a.map Itm.z) (b.map Itm.z) S/\Lv w2 C k L/\H w.heap.size w w2/\NwT w2 k w.heap.size C L):=⟨by rw[hE.out.2];exact h1,h2,f.out.below.trans (a7.out.mono f.out.size),h4.mono (nT f.out.size R.out.size)⟩;clear h1 h2 h3 h4)
 first|(go_wp2_with fail)|skip
 refine hK.out _ _ ?_ (fun hHeld=> ?_)
 ·(try dsimp only);first|with_reducible exact F.out _ R.out|with_reducible exact F.out _ a7.out
 clear hK bN
 try simp only[Act.put,yA,aB,yS]
 refine tks [15,16,17,18] (by assumption) ?_
 iterate 4 (refine tk (v:= ?_) (by rfl) (by kernel_rfl) ?_ ?_;rotate_left;· (refine oL ⟨by rfl,?_⟩;intro w ap;(try dsimp only at ap);go_simp<;>with_reducible rfl);try simp only[Act.put,yA,aB,yS])
 refine tk0 ?_
 refine wpAnyH_done (by kernel_rfl) ?_ _
 refine NoPanic.normal ?_
 go_wp2
 go_ret2
 exact ⟨L,C,k,rfl,ah.out.1,ah.out.2.1,ah.out.2.2⟩
theorem kV (s:Stp) (a b:List Itm) (A B:Option U) (ca cb:Nat) (SA:Option U) (sc:Nat) (ss:List Sl) (S:List (List Zit)) (w:X) (F:Int) (a3:s.k=F) (hk:F=2\/F=3\/F=8\/F=7\/F=9) (a7:0<=s.a) (a8:s.a.toNat<S.length) (hS:Sts w SA ss S) (hs:al w s.p s.l) (hO:∀l:List Itm,l.map Itm.z=bJ S s.a->OneOk s l) :
  D J 244 #[N #[O V s.k,O V s.a,O V s.b,O V s.c,O V s.o,O V s.v,I s.p s.l.length s.n],N #[I A a.length ca,I B b.length cb],I SA ss.length sc] w fun e w'=>∃(L:List Itm) (C:Option U) (k:Nat),e= K (M #[I C L.length k,O V (aT s (a.map Itm.z) (b.map Itm.z) S)])/\L.map Itm.z=aU s (a.map Itm.z) (b.map Itm.z) S/\Lv w' C k L/\H w.heap.size w w'/\NwT w' k w.heap.size C L:=by
 have hE:Z (aT s (a.map Itm.z) (b.map Itm.z) S=bY (eE s (bJ S s.a))/\aU s (a.map Itm.z) (b.map Itm.z) S=dA (eE s (bJ S s.a))):=⟨by unfold aT;rw[if_neg (by omega),if_neg (by omega),if_neg (by omega),if_neg (by omega)],by unfold aU;rw[if_neg (by omega),if_neg (by omega),if_neg (by omega),if_neg (by omega)]⟩
 obtain ⟨bb,an,na,x,hA,a2,a4,ba,bc,bd,a5⟩:=hS.at a7 a8
 subst hA
 obtain ⟨E,ap⟩:∃E,aT s (a.map Itm.z) (b.map Itm.z) S=E:=⟨_,rfl⟩
 have bh:Z (bY (eE s (bJ S s.a))=E):=by show _=_;rw[<-ap,hE.out.1]
 have r:Z (Gr w ((w.alloc (Y #[O V F,O V (na:Int),O V s.b,O V s.c,O V s.o,O V s.v,I s.p s.l.length s.n] 136)).alloc (Y #[I A a.length ca,I B b.length cb] 60))):=((gR _).alloc _).alloc _
 obtain ⟨j,g⟩:∃j,((w.alloc (Y #[O V F,O V (na:Int),O V s.b,O V s.c,O V s.o,O V s.v,I s.p s.l.length s.n] 136)).alloc (Y #[I A a.length ca,I B b.length cb] 60))=j:=⟨_,rfl⟩
 have q0:j.cell? ⟨w.heap.size,0,none⟩=some (O V F):=by rw[<-g];exact aa (w:=w) ((gR _).alloc _) rfl
 have q1:j.cell? ⟨w.heap.size,1,none⟩=some (O V (na:Int)):=by rw[<-g];exact aa (w:=w) ((gR _).alloc _) rfl
 have q2:j.cell? ⟨w.heap.size,2,none⟩=some (O V s.b):=by rw[<-g];exact aa (w:=w) ((gR _).alloc _) rfl
 have q3:j.cell? ⟨w.heap.size,3,none⟩=some (O V s.c):=by rw[<-g];exact aa (w:=w) ((gR _).alloc _) rfl
 have q4:j.cell? ⟨w.heap.size,4,none⟩=some (O V s.o):=by rw[<-g];exact aa (w:=w) ((gR _).alloc _) rfl
 have q5:j.cell? ⟨w.heap.size,5,none⟩=some (O V s.v):=by rw[<-g];exact aa (w:=w) ((gR _).alloc _) rfl
 have q6:j.cell? ⟨w.heap.size,6,none⟩=some (I s.p s.l.length s.n):=by rw[<-g];exact aa (w:=w) ((gR _).alloc _) rfl
 have u:w.heap.size<j.heap.size:=by rw[<-g];simp;omega
 rw[g] at r
 have a9:s.k=2\/s.k=3\/s.k=8\/s.k=7\/s.k=9:=by omega
 have ao:=BO s x.l x.A x.cap j.drew a9 (hO x.l a5) ((bd.items.gr r.out).gr (gR _).drew) ((hs.gr r.out).gr (gR _).drew)
 rw[a3,a4] at ao
 have hC:Z _:=ao
 clear ao
 have be:Z (x.l.map Itm.z=bJ S s.a):=a5
 have f:Z (∀W',H j.heap.size j W'->(fun w'=>w'.cell? ⟨w.heap.size,0,none⟩=some (O V F)/\w'.cell? ⟨w.heap.size,1,none⟩=some (O V (na:Int))/\w'.cell? ⟨w.heap.size,2,none⟩=some (O V s.b)/\w'.cell? ⟨w.heap.size,3,none⟩=some (O V s.c)/\w'.cell? ⟨w.heap.size,4,none⟩=some (O V s.o)/\w'.cell? ⟨w.heap.size,5,none⟩=some (O V s.v)/\w'.cell? ⟨w.heap.size,6,none⟩=some (I s.p s.l.length s.n)/\w'.cell? ⟨bb,an+na,none⟩=some (I x.A x.l.length x.cap)) W'):=fun W' h=>⟨(h.cell (p:=⟨w.heap.size,0,none⟩) u).trans q0,(h.cell (p:=⟨w.heap.size,1,none⟩) u).trans q1,(h.cell (p:=⟨w.heap.size,2,none⟩) u).trans q2,(h.cell (p:=⟨w.heap.size,3,none⟩) u).trans q3,(h.cell (p:=⟨w.heap.size,4,none⟩) u).trans q4,(h.cell (p:=⟨w.heap.size,5,none⟩) u).trans q5,(h.cell (p:=⟨w.heap.size,6,none⟩) u).trans q6,(h.cell (p:=⟨bb,an+na,none⟩) (nL a2 r.out.size)).trans ((r.out.below.cell (p:=⟨bb,an+na,none⟩) a2).trans bc)⟩
 have ad:Z (H j.heap.size j j.drew):=(bR _ _).drew
 have bl:(na:Int)<(ss.length:Int):=by omega
 have bn:(F==1)=false:=by rcases hk with h|h|h|h|h<;>rw[h]<;>rfl
 have bo:(F==4)=false:=by rcases hk with h|h|h|h|h<;>rw[h]<;>rfl
 have bp:(F==5)=false:=by rcases hk with h|h|h|h|h<;>rw[h]<;>rfl
 have bs:(F==6)=false:=by rcases hk with h|h|h|h|h<;>rw[h]<;>rfl
 rw[ap,a3,a4]
 clear hk a9 ap bc bd a5 a4 a7 a8 ba a2 q1 q2 q3 q4 q5 q6 hS hs hO a3
 go_enter Tryz.func244,Tryz.ntmps244
 go_wp2_with fail
 clear g q0
 refine wp_region_noPanic ?_
 refine wp_region_held_drew (S:=(fun w'=>w'.cell? ⟨w.heap.size,0,none⟩=some (O V F)/\w'.cell? ⟨w.heap.size,1,none⟩=some (O V (na:Int))/\w'.cell? ⟨w.heap.size,2,none⟩=some (O V s.b)/\w'.cell? ⟨w.heap.size,3,none⟩=some (O V s.c)/\w'.cell? ⟨w.heap.size,4,none⟩=some (O V s.o)/\w'.cell? ⟨w.heap.size,5,none⟩=some (O V s.v)/\w'.cell? ⟨w.heap.size,6,none⟩=some (I s.p s.l.length s.n)/\w'.cell? ⟨bb,an+na,none⟩=some (I x.A x.l.length x.cap))) (by kernel_rfl) (f.out _ ad.out) (fun hHeld=> ?_)
 refine tks [0,1,2,3,4,5] (by assumption) ?_
 iterate 6 (refine tk (v:= ?_) (by rfl) (by kernel_rfl) ?_ ?_;rotate_left;· (refine oL ⟨by rfl,?_⟩;intro w a0;(try dsimp only at a0);go_simp<;>with_reducible rfl);try simp only[Act.put,yA,aB,yS])
 refine tk0 ?_
 refine wpAnyH_ready (rs:=[6]) (by kernel_rfl) (by simp) ?_
 refine AllReadyH.cons (o:= ?oitellOne7) ?hoptellOne7 (fun bt hK=> ?steptellOne7) ?moretellOne7
 case hoptellOne7=>(simp only[zA,z0',zS];rfl)
 case moretellOne7=>exact AllReadyH.nil
 go_simp
 (go_at_call 262;(refine ja0 hC ?_);rintro e w1 ⟨L1,C1,k1,rfl,g1,g2,g3,g4⟩;have R:Z (H j.heap.size j w1):=ad.out.trans (g4.mono ad.out.size);have a6:=qN g2 (m:=eE s (bJ S s.a)) (by rw[g1,be.out]);have hN:Z _:=a6;clear a6 g1 g2 g3 g4)
 first|(go_wp2_with fail)|skip
 refine hK.out _ _ ?_ (fun hHeld=> ?_)
 ·(try dsimp only);first|with_reducible exact f.out _ ad.out|with_reducible exact f.out _ a1.out|with_reducible exact f.out _ R.out
 clear hK bt
 try simp only[Act.put,yA,aB,yS]
 refine wpAnyH_ready (rs:=[7]) (by kernel_rfl) (by simp) ?_
 refine AllReadyH.cons (o:= ?oitellOne8) ?hoptellOne8 (fun bt hK=> ?steptellOne8) ?moretellOne8
 case hoptellOne8=>(simp only[zA,z0',zS];rfl)
 case moretellOne8=>exact AllReadyH.nil
 go_simp
 (go_at_call 259;(refine ja0 hN ?_);rintro e w2 ⟨L,C,k,rfl,h1,h2,h3,h4⟩;rw[bh.out];have a1:Z (H j.heap.size j w2):=R.out.trans (h3.mono R.out.size);have ah:Z (L.map Itm.z=aU s (a.map Itm.z) (b.map Itm.z) S/\Lv w2 C k L/\H w.heap.size w w2/\NwT w2 k w.heap.size C L):=⟨by rw[hE.out.2];exact h1,h2,r.out.below.trans (a1.out.mono r.out.size),h4.mono (nT r.out.size R.out.size)⟩;clear h1 h2 h3 h4)
 first|(go_wp2_with fail)|skip
 refine hK.out _ _ ?_ (fun hHeld=> ?_)
 ·(try dsimp only);first|with_reducible exact f.out _ ad.out|with_reducible exact f.out _ a1.out|with_reducible exact f.out _ R.out
 clear hK bt
 try simp only[Act.put,yA,aB,yS]
 refine tks [8,9,10,11] (by assumption) ?_
 iterate 4 (refine tk (v:= ?_) (by rfl) (by kernel_rfl) ?_ ?_;rotate_left;· (refine oL ⟨by rfl,?_⟩;intro w a0;(try dsimp only at a0);go_simp<;>with_reducible rfl);try simp only[Act.put,yA,aB,yS])
 refine tk0 ?_
 refine wpAnyH_done (by kernel_rfl) ?_ _
 refine NoPanic.normal ?_
 go_wp2
 go_ret2
 exact ⟨L,C,k,rfl,ah.out.1,ah.out.2.1,ah.out.2.2⟩
end Go.Proofs.YtjmmpnmgpgaagaaGreatDoor

namespace Go.Proofs.YtjmmpnmgpgaagaaGreatDoor

theorem om {l m:List Zit} {x:Zit} (j:x.2≠0) (f:∀y∈m,aC x.1 y.1<0) (h:∀r,wt l r=(if x.1=r then x.2 else 0)+wt m r):dh l=x::dh m:=by
 refine (bB l).uniq (m:=l) (T:=x::dh m) ⟨?_,?_,?_⟩ (fun _=>rfl)
 ·unfold f8
  rw[List.pairwise_cons]
  exact ⟨fun y g=>by
   obtain ⟨z,k,e⟩:=(bB m).row g
   rw[<-e];exact f z k,(bB m).rise⟩
 ·intro y g
  rcases List.mem_cons.1 g with e|e
  ·rw[e];exact j
  ·exact (bB m).noz y e
 ·intro r
  show (if x.1=r then x.2 else 0)+wt (dh m) r=_
  rw[(bB m).same,h]
def bf (a b:List Zit):List Zit:=dh (a++fL b)
theorem iu (a b:List Zit) (r:List Int):wt (a++fL b) r=wt a r-wt b r:=by
 rw[eh]
 have:=B4 b r
 unfold fL
 omega
theorem mx {b:List Zit} {z:Zit} (h:z∈fL b):∃y∈b,y.1=z.1:=by
 obtain ⟨y,f,rfl⟩:=List.mem_map.1 h
 exact ⟨y,f,rfl⟩
theorem Bl:bf [] []=[]:=rfl
theorem D7 {x:Zit} {t b:List Zit} (g:f8 (x::t)) (j:x.2≠0) (h:∀y∈b,aC x.1 y.1<0):bf (x::t) b=x::bf t b:=by
 refine om j (fun z n=> ?_) (fun r=> ?_)
 ·rcases List.mem_append.1 n with e|e
  ·exact (List.pairwise_cons.1 g).1 z e
  ·obtain ⟨y,k,f⟩:=mx e
   rw[<-f];exact h y k
 ·rw[iu,iu]
  simp only[wt]
  omega
theorem D6 {y:Zit} {a u:List Zit} (h:f8 (y::u)) (n:y.2≠0) (g:∀x∈a,aC y.1 x.1<0):bf a (y::u)=(y.1,-y.2)::bf a u:=by
 refine om (x:=(y.1,-y.2)) (by show -y.2≠0;omega) (fun z k=> ?_) (fun r=> ?_)
 ·rcases List.mem_append.1 k with e|e
  ·exact g z e
  ·obtain ⟨v,j,f⟩:=mx e
   rw[<-f];exact (List.pairwise_cons.1 h).1 v j
 ·rw[iu,iu]
  simp only[wt]
  by_cases e:y.1=r
  ·simp only[if_pos e];omega
  ·simp only[if_neg e];omega
theorem D5 {x y:Zit} {t u:List Zit} (k:f8 (x::t)) (n:f8 (y::u)) (h:x.1=y.1):bf (x::t) (y::u)=if x.2-y.2=0 then bf t u else (y.1,x.2-y.2)::bf t u:=by
 have g:∀r,wt ((x::t)++fL (y::u)) r=(if y.1=r then x.2-y.2 else 0)+wt (t++fL u) r:=fun r=>by
  rw[iu,iu]
  simp only[wt,h]
  by_cases e:y.1=r
  ·rw[if_pos e,if_pos e];simp only[if_pos e];omega
  ·rw[if_neg e,if_neg e];simp only[if_neg e];omega
 by_cases f:x.2-y.2=0
 ·rw[if_pos f]
  refine jx fun r=> ?_
  rw[g r,f]
  by_cases e:y.1=r
  ·rw[if_pos e];omega
  ·rw[if_neg e];omega
 ·rw[if_neg f]
  refine om (x:=(y.1,x.2-y.2)) f (fun z E=> ?_) g
  rcases List.mem_append.1 E with e|e
  ·show aC y.1 z.1<0
   rw[<-h];exact (List.pairwise_cons.1 k).1 z e
  ·obtain ⟨v,C,j⟩:=mx e
   rw[<-j];exact (List.pairwise_cons.1 n).1 v C
theorem AU {a:List Zit} (f:aq a=0):dh a=a:=by
 have h:=(aR a).1 f
 exact (bB _).uniq (⟨h.2.2,vG h.2.1,fun _=>rfl⟩:IsTot a a) fun _=>rfl
def iq (a b:List Zit):Int:=if aq a=0 then (if aq b=0 then (if (a++b).all (fun x=>decide (x.1.length=4))=true then 0 else 5) else aq b) else aq a
theorem kt (q:List Stp) (a b:List Zit):oA q a b=if bu q=0 then iq a b else bu q:=rfl
theorem Cm {a b:List Zit} (f:aq a=0) (g:aq b=0) (h:d9 4 a) (j:d9 4 b):iq a b=0:=by
 unfold iq
 rw[if_pos f,if_pos g,if_pos]
 rw[List.all_eq_true]
 intro x k
 rcases List.mem_append.1 k with e|e
 ·exact decide_eq_true (by have:=h x e;omega)
 ·exact decide_eq_true (by have:=j x e;omega)
def jC (q:List Stp) (s t a b:List Zit):Int:=if iq a b=0 then (if aY s a=0 then (if aY t b=0 then bM q (bw s a) (bw t b) else aY t b) else aY s a) else iq a b
theorem tQ {q:List Stp} {s t a b:List Zit} (h:jC q s t a b=0):iq a b=0/\aY s a=0/\aY t b=0/\bM q (bw s a) (bw t b)=0:=by
 unfold jC at h
 by_cases f:iq a b=0
 ·rw[if_pos f] at h
  by_cases g:aY s a=0
  ·rw[if_pos g] at h
   by_cases j:aY t b=0
   ·rw[if_pos j] at h;exact ⟨f,g,j,h⟩
   ·rw[if_neg j] at h;exact absurd h j
  ·rw[if_neg g] at h;exact absurd h g
 ·rw[if_neg f] at h;exact absurd h f
def bare (s:Stp):Stp:={ s with p:=none,n:=0 }
theorem B1 (s:Stp) (f:List Int):aE (bare s) f=aE s f:=rfl
theorem qq:∀(q:List Stp) (f:List Int),cK (q.map bare) f=cK q f
 | [],_=>rfl
 | s::q,f=>by
  show (if aE (bare s) f=0 then none else cK (q.map bare) (f++[aE (bare s) f]))=_
  rw[B1,qq q]
  rfl
theorem eN (q:List Stp):bu (q.map bare)=bu q:=by
 unfold bu
 rw[List.length_map,qq]
theorem oe (s:Stp) (a b:List Zit) (S:List (List Zit)):aT (bare s) a b S=aT s a b S:=rfl
theorem og (s:Stp) (a b:List Zit) (S:List (List Zit)):aU (bare s) a b S=aU s a b S:=rfl
theorem pl (a b:List Zit):∀(q:List Stp) (S:List (List Zit)),jB a b (q.map bare) S=jB a b q S
 | [],_=>rfl
 | s::q,S=>by
  show (if aT (bare s) a b S=0 then jB a b (q.map bare) (S++[aU (bare s) a b S]) else aT (bare s) a b S)=_
  rw[oe,og,pl a b q]
  rfl
theorem pm (a b:List Zit):∀(q:List Stp) (S:List (List Zit)),jQ a b (q.map bare) S=jQ a b q S
 | [],_=>rfl
 | s::q,S=>by
  show (if aT (bare s) a b S=0 then jQ a b (q.map bare) (S++[aU (bare s) a b S]) else [])=_
  rw[oe,og,pm a b q]
  rfl
theorem jt (q:List Stp) (a b:List Zit):bM (q.map bare) a b=bM q a b:=by
 unfold bM
 rw[kt,kt,eN,pl]
theorem lq (q:List Stp) (a b:List Zit):ei (q.map bare) a b=ei q a b:=by
 unfold ei jE
 rw[jt,pm,List.length_map]
theorem xU {q r:List Stp} (h:q.map bare=r.map bare) (a b:List Zit):bM q a b=bM r a b:=by rw[<-jt q,h,jt]
theorem xT {q r:List Stp} (h:q.map bare=r.map bare) (a b:List Zit):ei q a b=ei r a b:=by rw[<-lq q,h,lq]
end Go.Proofs.YtjmmpnmgpgaagaaGreatDoor

namespace Go.Proofs.YtjmmpnmgpgaagaaGreatDoor
open Go.RowKit Go.Sort Go.Maps

theorem qw {q:List Stp} {A:Option U} {ca:Nat} {w:X} {E:Int} (f:bu q=E) (g:q.length<=maxLen) (h:Stps w A q) :
  D J 80 #[I A q.length ca] w fun e w'=>e= K (O V E)/\H w.heap.size w w':=by rw[<-f];exact jS q A ca w g h
theorem EV (x y:d) (w:X):(Instr.index 60 (N #[x,y]) (O V 0)).run J w= .ok x w:=by kernel_rfl
theorem EW (x y:d) (w:X):(Instr.index 60 (N #[x,y]) (O V 1)).run J w= .ok y w:=by kernel_rfl
theorem km (a b:List Itm) (A B:Option U) (ca cb:Nat) (w:X) (ha:Lv w A ca a) (hb:Lv w B cb b) :
  D J 203 #[I A a.length ca,I B b.length cb] w fun e w'=>e= K (O V (iq (a.map Itm.z) (b.map Itm.z)))/\Gr w w':=by
 have a0:Z (Gr w (w.alloc (Y #[I A a.length ca,I B b.length cb] 60))):=(gR _).alloc _
 obtain ⟨w1,ao⟩:∃WX,(w.alloc (Y #[I A a.length ca,I B b.length cb] 60))=WX:=⟨_,rfl⟩
 have s0:w1.cell? ⟨w.heap.size,0,none⟩=some (I A a.length ca):=by rw[<-ao];exact aa (w:=w) (gR _) rfl
 have s1:w1.cell? ⟨w.heap.size,1,none⟩=some (I B b.length cb):=by rw[<-ao];exact aa (w:=w) (gR _) rfl
 have a8:w.heap.size<w1.heap.size:=by rw[<-ao];simp
 rw[ao] at a0
 obtain ⟨E2,bo⟩:∃E,aq (a.map Itm.z)=E:=⟨_,rfl⟩
 obtain ⟨E3,bp⟩:∃E,aq (b.map Itm.z)=E:=⟨_,rfl⟩
 obtain ⟨E,hE⟩:∃E,iq (a.map Itm.z) (b.map Itm.z)=E:=⟨_,rfl⟩
 have g:=ja4 hE trivial bo bp
 rw[hE]
 have R:=ja3 a0.out (ha.gr a0.out) (hb.gr a0.out)
 clear ha hb bo bp hE a0
 have i0:=EV (I A a.length ca) (I B b.length cb)
 have i1:=EW (I A a.length ca) (I B b.length cb)
 go_enter Tryz.func203,Tryz.ntmps203
 go_wp2
 clear ao
 refine wp_loop_rounds 3 ?_
 rw[rounds_succ]
 have a9:Z (∀W,Gr w1 W->D J 156 #[I A a.length ca] W fun e w'=>e= K (O V E2)/\Gr W w'):=fun W h=>by rw[<-g.out.2.2.1];exact yN (R.out.2.1.gr h) rfl
 have ba:Z (∀W,Gr w1 W->D J 156 #[I B b.length cb] W fun e w'=>e= K (O V E3)/\Gr W w'):=fun W h=>by rw[<-g.out.2.2.2];exact yN (R.out.2.2.gr h) rfl
 cases h2:(E2 != 0)
 ·have an:E2=0:=by simpa using h2
  go_wp2_with (go_at_call 156;refine cM (a9.out w1 (gR _)) ?_;rintro e w2 ⟨rfl,ad⟩)
  rw[rounds_succ]
  cases h3:(E3 != 0)
  ·have a4:E3=0:=by simpa using h3
   go_wp2_with (go_at_call 156;refine cM (ba.out w2 ad) ?_;rintro e w3 ⟨rfl,a3⟩)
   rw[rounds_succ]
   have C:=ja1 (ad.trans a3)
   have z0:w3.cell? ⟨w.heap.size,0,none⟩=some (I A a.length ca):=(C.out.below.cell (p:=⟨w.heap.size,0,none⟩) a8).trans s0
   have z1:w3.cell? ⟨w.heap.size,1,none⟩=some (I B b.length cb):=(C.out.below.cell (p:=⟨w.heap.size,1,none⟩) a8).trans s1
   clear ad a3 a9 ba
   go_wp2
   refine wp_loop_rounds 3 ?_
   rw[rounds_succ]
   go_wp2
   have ah:=ja3 (R.out.1.trans C.out) (R.out.2.1.gr C.out) (R.out.2.2.gr C.out)
   have bt:a.length<=400:=(gm (by rw[g.out.2.2.1];exact an)).1
   have bC:b.length<=400:=(gm (by rw[g.out.2.2.2];exact a4)).1
   have a5:Z (E=if (a.map Itm.z++b.map Itm.z).all (fun x=>decide (x.1.length=4))=true then 0 else 5):=by
    show _=_;rw[<-g.out.1];unfold iq;rw[if_pos (by rw[g.out.2.2.1];exact an),if_pos (by rw[g.out.2.2.2];exact a4)]
   have a7:Z (∀x∈a++b,¬x.r.length=4->E=5):=fun x F hn=>by
    rw[a5.out,if_neg]
    intro h
    rw[<-List.map_append] at h
    have:=List.all_eq_true.1 h x.z (List.mem_map.2 ⟨x,F,rfl⟩)
    exact hn (of_decide_eq_true this)
   have bh:Z ((∀x∈a,x.r.length=4)->(∀x∈b,x.r.length=4)->E=0):=fun ha hb=>by
    rw[a5.out,if_pos]
    rw[<-List.map_append,List.all_eq_true]
    intro y hy
    obtain ⟨x,F,rfl⟩:=List.mem_map.1 hy
    rcases List.mem_append.1 F with e|e
    ·exact decide_eq_true (ha x e)
    ·exact decide_eq_true (hb x e)
   clear z0 z1 s0 s1
   go_loopw [32] (fun i wr=>∃k:Nat,k<=a.length/\i= O V k/\Z ((∀x∈a.take k,x.r.length=4)/\Gr w3 wr)) (fun i _=>a.length-(intOf i).toNat)
   case atStart=>exact ⟨0,nZ _,rfl,fun x F=>(by simp at F),gR _⟩
   case round =>
    obtain ⟨k,hk,rfl,L⟩:=hrel
    by_cases u:k<a.length
    ·have a1:(k:Int)<(a.length:Int):=by omega
     obtain ⟨bb,bs,rfl,hb,ap⟩:=(ah.out.2.1.gr L.out.2).items.at u
     obtain ⟨x,F⟩:∃x,a[k]=x:=⟨_,rfl⟩
     obtain ⟨e0,e1⟩:=ap k u
     rw[F] at e0 e1
     have bn:Z (x∈a):=by show _∈_;rw[<-F];exact gM u
     have bl:Z (a.take (k+1)=a.take k++[x]):=by show _=_;rw[List.take_succ_eq_append_getElem u,F]
     clear ap F
     cases h4:((x.r.length:Int) != 4)
     ·have j:x.r.length=4:=by have:(x.r.length:Int)=4:=(by simpa using h4);omega
      have f:Z ((∀y∈a.take (k+1),y.r.length=4)/\Gr w3 (wr.alloc (Y #[I x.p x.r.length x.c,O V x.n] 151))):=⟨fun y hy=>by
       rw[bl.out] at hy
       rcases List.mem_append.1 hy with e|e
       ·exact L.out.1 y e
       ·rw[List.mem_singleton.1 e];exact j,L.out.2.alloc _⟩
      clear j
      go_wp2
      go_roundw
      case rel=>exact ⟨k+1,by omega,by go_num,f⟩
      case measure=>simp[intOf];omega
     ·have j:¬x.r.length=4:=by have:¬(x.r.length:Int)=4:=(by simpa using h4);omega
      have f:Z (E=5):=a7.out x (by simp[bn.out]) j
      have be:Z (Gr w (wr.alloc (Y #[I x.p x.r.length x.c,O V x.n] 151))):=ah.out.1.trans (L.out.2.alloc _)
      clear j
      go_wp2
      go_ret
      exact ⟨by rw[f.out];rfl,be.out⟩
    ·have a1:¬(k:Int)<(a.length:Int):=by omega
     have a6:Z (∀x∈a,x.r.length=4):=by
      have:=L.out.1
      rw[List.take_of_length_le (by omega)] at this
      exact this
     go_wp2
     rw[rounds_succ]
     have bc:=ja1 a6
     have a2:=ja2 (ah.out.1.trans L.out.2) (ah.out.2.2.gr L.out.2)
     clear a6 L ah
     go_wp2
     generalize wr=w5 at a2 ⊢
     go_loopw [32] (fun i wr=>∃k:Nat,k<=b.length/\i= O V k/\Z ((∀x∈b.take k,x.r.length=4)/\Gr w5 wr)) (fun i _=>b.length-(intOf i).toNat)
     case atStart=>exact ⟨0,nZ _,rfl,fun x F=>(by simp at F),gR _⟩
     case round =>
      obtain ⟨k,hk,rfl,L⟩:=hrel
      by_cases u:k<b.length
      ·have a1:(k:Int)<(b.length:Int):=by omega
       obtain ⟨bb,bs,rfl,hb,ap⟩:=(a2.out.2.gr L.out.2).items.at u
       obtain ⟨x,F⟩:∃x,b[k]=x:=⟨_,rfl⟩
       obtain ⟨e0,e1⟩:=ap k u
       rw[F] at e0 e1
       have bn:Z (x∈b):=by show _∈_;rw[<-F];exact gM u
       have bl:Z (b.take (k+1)=b.take k++[x]):=by show _=_;rw[List.take_succ_eq_append_getElem u,F]
       clear ap F
       cases h4:((x.r.length:Int) != 4)
       ·have j:x.r.length=4:=by have:(x.r.length:Int)=4:=(by simpa using h4);omega
        have f:Z ((∀y∈b.take (k+1),y.r.length=4)/\Gr w5 (wr.alloc (Y #[I x.p x.r.length x.c,O V x.n] 151))):=⟨fun y hy=>by
         rw[bl.out] at hy
         rcases List.mem_append.1 hy with e|e
         ·exact L.out.1 y e
         ·rw[List.mem_singleton.1 e];exact j,L.out.2.alloc _⟩
        clear j
        go_wp2
        go_roundw
        case rel=>exact ⟨k+1,by omega,by go_num,f⟩
        case measure=>simp[intOf];omega
       ·have j:¬x.r.length=4:=by have:¬(x.r.length:Int)=4:=(by simpa using h4);omega
        have f:Z (E=5):=a7.out x (by simp[bn.out]) j
        have be:Z (Gr w (wr.alloc (Y #[I x.p x.r.length x.c,O V x.n] 151))):=a2.out.1.trans (L.out.2.alloc _)
        clear j
        go_wp2
        go_ret
        exact ⟨by rw[f.out];rfl,be.out⟩
      ·have a1:¬(k:Int)<(b.length:Int):=by omega
       have bd:Z (∀x∈b,x.r.length=4):=by
        have:=L.out.1
        rw[List.take_of_length_le (by omega)] at this
        exact this
       go_wp2
       rw[rounds_succ]
       go_wp2
       go_ret
       exact ⟨by rw[bh.out bc.out bd.out];rfl,a2.out.1.trans L.out.2⟩
  ·have f:Z (E3=E):=by
    have hn:¬aq (b.map Itm.z)=0:=by rw[g.out.2.2.2];simpa using h3
    show _=_;rw[<-g.out.1];unfold iq;rw[if_pos (by rw[g.out.2.2.1];exact an),if_neg hn];exact g.out.2.2.2.symm
   go_wp2_with (go_at_call 156;refine cM (ba.out w2 ad) ?_;rintro e w3 ⟨rfl,a3⟩)
   go_ret
   exact ⟨by rw[<-f.out];rfl,R.out.1.trans (ad.trans a3)⟩
 ·have f:Z (E2=E):=by
   have hn:¬aq (a.map Itm.z)=0:=by rw[g.out.2.2.1];simpa using h2
   show _=_;rw[<-g.out.1];unfold iq;rw[if_neg hn];exact g.out.2.2.1.symm
  go_wp2_with (go_at_call 156;refine cM (a9.out w1 (gR _)) ?_;rintro e w2 ⟨rfl,ad⟩)
  go_ret
  exact ⟨by rw[<-f.out];rfl,R.out.1.trans ad⟩

theorem sD {s:Stp} {C:List Int} {S:List (List Zit)} (h:aE s C≠0) (hS:Ahd S C) (hk:s.k=2\/s.k=3\/s.k=8\/s.k=7\/s.k=9):0<=s.a/\s.a.toNat<S.length/\∀l:List Itm,l.map Itm.z=bJ S s.a->OneOk s l:=by
 have F:inB s.a 0 ((C.length:Int)-1)=true:=by
  rcases hk with k|k|k|k|k
  ·exact (Dx h k).1
  ·exact (Dy h k).1
  ·exact (DA h k).1
  ·exact (Ei h k).1
  ·exact (DB h k).1
 obtain ⟨R,h1,h2,h3⟩:=hS.at F
 refine ⟨R,h1,fun l L=> ?_⟩
 have hz:=(aR (bJ S s.a)).1 h2
 have n:l.length<=400:=by have:=congrArg List.length L;simp at this;omega
 have g:∀x∈l,x.z∈bJ S s.a:=fun x f=>by rw[<-L];exact List.mem_map.2 ⟨x,f,rfl⟩
 have E:∀x∈l,(x.r.length:Int)=C.getD s.a.toNat 0:=fun x f=>h3 x.z (g x f)
 refine ⟨n,fun x f=> ?_,fun k=> ?_,fun k=> ?_,fun k=> ?_,fun k=> ?_⟩
 ·have:=bA (hz.2.1 x.z (g x f))
  exact ⟨this.1,this.2.1⟩
 ·obtain ⟨_,j,u,_⟩:=Dx h k
  exact ⟨j,fun x f=>by rw[E x f];exact u⟩
 ·obtain ⟨_,j,u,_⟩:=Dy h k
  exact ⟨j,fun x f c hc=>by rw[E x f];exact u c hc⟩
 ·obtain ⟨_,j,_⟩:=DA h k
  exact fun x f=>by rw[E x f];exact j
 ·obtain ⟨_,j,u,_⟩:=DB h k
  exact fun x f=>by rw[E x f];exact ⟨u,j⟩
theorem Dd {s:Stp} {g:List Int} {S:List (List Zit)} (h:aE s g≠0) (u:Ahd S g) (hk:s.k=4) (l r:List Itm) (C:l.map Itm.z=bJ S s.a) (E:r.map Itm.z=bJ S s.b):JoinOk s.c s.v l r:=by
 obtain ⟨p1,p2,p3,p4,_⟩:=Dz h hk
 obtain ⟨_,_,R,a3⟩:=u.at p1
 obtain ⟨_,_,b2,b3⟩:=u.at p2
 have F:=(aR (bJ S s.a)).1 R
 have L:=(aR (bJ S s.b)).1 b2
 have j:∀x∈l,x.z∈bJ S s.a:=fun x f=>by rw[<-C];exact List.mem_map.2 ⟨x,f,rfl⟩
 have n:∀x∈r,x.z∈bJ S s.b:=fun x f=>by rw[<-E];exact List.mem_map.2 ⟨x,f,rfl⟩
 have wa:∀x∈l,(x.r.length:Int)=g.getD s.a.toNat 0:=fun x f=>a3 x.z (j x f)
 have wb:∀x∈r,(x.r.length:Int)=g.getD s.b.toNat 0:=fun x f=>b3 x.z (n x f)
 exact ⟨by have:=congrArg List.length C;simp at this;omega,by have:=congrArg List.length E;simp at this;omega,fun x f=>by rw[wa x f];exact p4,fun x f=>by rw[wb x f];exact p3,fun x f=>⟨(bA (F.2.1 x.z (j x f))).1,(bA (F.2.1 x.z (j x f))).2.1⟩,fun x f=>⟨(bA (L.2.1 x.z (n x f))).1,(bA (L.2.1 x.z (n x f))).2.1⟩⟩
theorem EF {s:Stp} {ah:List Int} {S:List (List Zit)} {a b:List Itm} {A B:Option U} {ca cb:Nat} {g:Option U} {sc:Nat} {j:List Sl} {w:X} (h:aE s ah≠0) (f:Ahd S ah) (F:Sts w g j S) (ha:Lv w A ca a) (hb:Lv w B cb b) (hl:al w s.p s.l) :
  D J 244 #[N (ja8 s),N #[I A a.length ca,I B b.length cb],I g j.length sc] w fun e w'=>∃(L:List Itm) (C:Option U) (k:Nat),e= K (M #[I C L.length k,O V (aT s (a.map Itm.z) (b.map Itm.z) S)])/\L.map Itm.z=aU s (a.map Itm.z) (b.map Itm.z) S/\Lv w' C k L/\H w.heap.size w w'/\NwT w' k w.heap.size C L:=by
 rcases kinds h with k|k|k|k|k|k|k|k|k
 ·exact Ew s a b A B ca cb g sc j S w k (Ef h k).1 ha hb
 ·obtain ⟨n,r,u⟩:=sD h f (oL k)
  exact kV s a b A B ca cb g sc j S w 2 k (oL rfl) n r F hl u
 ·obtain ⟨n,r,u⟩:=sD h f (oR (oL k))
  exact kV s a b A B ca cb g sc j S w 3 k (oR (oL rfl)) n r F hl u
 ·obtain ⟨R,E,_,_,_⟩:=Dz h k
  exact Ex s a b A B ca cb g sc j S w k (f.at R).1 (f.at R).2.1 (f.at E).1 (f.at E).2.1 F (Dd h f k)
 ·obtain ⟨R,E,_,_⟩:=Eg h k
  exact Ey s a b A B ca cb g sc j S w k (f.at R).1 (f.at R).2.1 (f.at E).1 (f.at E).2.1 F
 ·obtain ⟨R,E,_,_⟩:=Eh h k
  exact Ez s a b A B ca cb g sc j S w k (f.at R).1 (f.at R).2.1 (f.at E).1 (f.at E).2.1 F (f.at E).2.2.1
 ·obtain ⟨n,r,u⟩:=sD h f (oR (oR (oR (oL k))))
  exact kV s a b A B ca cb g sc j S w 7 k (oR (oR (oR (oL rfl)))) n r F hl u
 ·obtain ⟨n,r,u⟩:=sD h f (oR (oR (oL k)))
  exact kV s a b A B ca cb g sc j S w 8 k (oR (oR (oL rfl))) n r F hl u
 ·obtain ⟨n,r,u⟩:=sD h f (oR (oR (oR (oR k))))
  exact kV s a b A B ca cb g sc j S w 9 k (oR (oR (oR (oR rfl)))) n r F hl u

theorem az.grown {α : Type} {enc: α -> List d} {k:Nat} {w w':X} {A:Option U} {l:List α} {row:Option Nat} (h:az enc k w A l) (g:w.grownBy w' row) (f:∀a,A=some a->l≠[]->some a.block≠row):az enc k w' A l:=by
 rcases h with h|⟨b,off,hA,hb,hc⟩
 ·exact oL h
 ·by_cases n:l=[]
  ·exact oL n
  ·refine oR ⟨b,off,hA,nL hb g.size,fun j r i hi=> ?_⟩
   rw[World.cell?_of_block (a:=⟨b,off+j*k+i,none⟩) (g.block b hb (f _ hA n))]
   exact hc j r i hi
def Far (row:Option Nat) (s:Sl):Prop:=(∀a,s.A=some a->s.l≠[]->some a.block≠row)/\∀x∈s.l,∀a,x.p=some a->x.r≠[]->some a.block≠row
theorem Lv.grown {w w':X} {s:Sl} {row:Option Nat} (h:Lv w s.A s.cap s.l) (j:w.grownBy w' row) (g:Far row s):Lv w' s.A s.cap s.l :=
 ⟨⟨h.items.row.grown j g.1,fun x f=>⟨(h.items.each x f).1.grown j (g.2 x f),(h.items.each x f).2⟩⟩,h.nilc,h.len⟩
theorem Far.top {w:X} {s:Sl} (h:Lv w s.A s.cap s.l) {n:Nat} (r:w.heap.size<=n):Far (some n) s :=
 ⟨fun a f g e=>by have:=h.items.row.lt a f g;simp at e;omega,fun x k a f j e=>by have:=(h.items.each x k).1.lt a f j;simp at e;omega⟩
theorem Far.new {s:Sl} {n:Nat} {row:Option Nat} (h:jP n s.A s.l) (j:∀g,row=some g->g<n):Far row s :=
 ⟨fun a f _ e=>by have:=h.1 a f;have:=j _ e.symm;omega,fun x k a f _ e=>by have:=h.2 x k a f;have:=j _ e.symm;omega⟩
theorem mW (s:Sl):(fa s).length=1:=rfl
theorem zo (s:Sl):∀u∈fa s,u.oneCell'=true:=by
 intro u f
 simp[fa] at f
 rw[f];rfl
theorem Tryz.infoS:(Tryz.prog.info? 59).map (fun i=>(i.zero,i.size,i.bytes))=some (some (I none 0 0),1,24):=by kernel_rfl
theorem mt (w:X) {ops:Array Oper} {f:List Oper} {o:Oper} {a:Act} {Q:Exit->Act->X->Prop} (n:o.guard=none) (s z:Operand)
  (ho:o.op= .call { callee:= .builtin .append,args:= #[s,z],argTypes:= #[291,291] })
  (base:Nat) (v:d) (l:List Sl) (x:Sl) (A:U) (cap:Nat) (hs:a.eval s=v) (hz:a.eval z= I (some A) 1 cap) (k:ae fa 1 59 w base v l) (hr:az fa 1 w (some A) [x])
  (r:l.length+1<=maxLen) (hb:(l.length+1)*24<=140737488355328) (j:base<=w.heap.size)
  (h:∀g w',ae fa 1 59 w' base g (l++[x])->w.grownBy w' v.ownBlock->(g.ownBlock=v.ownBlock\/g.ownBlock=some w.heap.size)->wpList J ops Q f (a.put o.dst g) w'):wpList J ops Q (o::f) a w :=
 wpList_plain n fun _ hK=>by
  obtain ⟨i0,hi,C,E,F⟩:=info_parts Tryz.infoS
  obtain ⟨g,w',L,R,g3,_,g5⟩:=run_append_own_at (P:=J) w base 291 o.type 59 i0 (I none 0 0) 1 24 Tryz.underlying291 hi C E F rfl (by omega) v l.length (aL fa l) k A 1 cap (aL fa [x]) (aW mW [x]) (hr.cells mW (by omega)) (fun u hu=>ec zo u [x] hu) r hb j
  have h2:ae fa 1 59 w' base g (l++[x]):=by
   show w'.ownsRow base _ 1 g (l++[x]).length (aL fa (l++[x]))
   rw[List.length_append,cH]
   exact R
  unfold Oper.wp execOp
  simp only[ho,resolve,invoke,builtin,Sem.run_bind,Sem.run_pure,Result.andThen_ok,List.map_toArray,List.map_cons,List.map_nil,hs,hz,L]
  exact hK _ _ (h g w' h2 g3 g5)
end Go.Proofs.YtjmmpnmgpgaagaaGreatDoor

namespace Go.Proofs.YtjmmpnmgpgaagaaGreatDoor

def Small (n:Int):Prop:= -1073741824<=n/\n<=1073741824
structure Fine (s:Stp):Prop where
 a:Small s.a
 b:Small s.b
 c:Small s.c
 o:Small s.o
 v:Small s.v
 l:s.l.length<=8/\∀x∈s.l,Small x
theorem bq {n lo hi:Int} (h:inB n lo hi=true) (f: -1073741824<=lo) (g:hi<=1073741824):Small n:=by
 simp only[inB,Bool.and_eq_true,decide_eq_true_eq] at h
 exact ⟨by omega,by omega⟩
theorem aA {n:Int} (h:decide (n=0)=true):Small n:=by
 have:n=0:=by simpa using h
 exact ⟨by omega,by omega⟩
theorem fb {l:List Int} (h:l.isEmpty=true):l.length<=8/\∀x∈l,Small x:=by
 have:l=[]:=by simpa using h
 subst this
 exact ⟨by simp,fun x f=>by cases f⟩
theorem qo {s:Stp} {L:List Int} (h:aE s L≠0) (hl:L.length<=8) (F:∀x∈L,0<=x/\x<=8):Fine s:=by
 have ga:=ni F s.a.toNat
 have gb:=ni F s.b.toNat
 by_cases R:1<=s.k/\s.k<=9
 ·have f:s.k=1\/s.k=2\/s.k=3\/s.k=4\/s.k=5\/s.k=6\/s.k=7\/s.k=8\/s.k=9:=by omega
  rcases f with f|f|f|f|f|f|f|f|f
  ·rw[EG f] at h
   have t:=Classical.not_not.1 (fun e=>h (if_neg e))
   simp only[Bool.and_eq_true] at t
   obtain ⟨⟨⟨⟨⟨g,j⟩,n⟩,C⟩,r⟩,u⟩:=t
   exact ⟨bq g (by omega) (by omega),aA j,aA n,aA C,aA r,fb u⟩
  ·rw[EH f] at h
   have t:=Classical.not_not.1 (fun e=>h (if_neg e))
   simp only[Bool.and_eq_true] at t
   obtain ⟨⟨⟨⟨⟨g,j⟩,n⟩,C⟩,r⟩,u⟩:=t
   exact ⟨bq g (by omega) (by omega),aA j,bq u (by omega) (by omega),bq C (by omega) (by omega),bq r (by omega) (by omega),fb n⟩
  ·rw[DH f] at h
   have t:=Classical.not_not.1 (fun e=>h (if_neg e))
   simp only[Bool.and_eq_true] at t
   obtain ⟨⟨⟨⟨⟨⟨g,j⟩,n⟩,C⟩,r⟩,u⟩,E⟩:=t
   exact ⟨bq g (by omega) (by omega),aA j,aA r,aA u,aA E,⟨by simp only[inB,Bool.and_eq_true,decide_eq_true_eq] at n;omega,fun x hx=>bq (List.all_eq_true.1 C x hx) (by omega) (by omega)⟩⟩
  ·rw[EI f] at h
   have t:=Classical.not_not.1 (fun e=>h (if_neg e))
   simp only[Bool.and_eq_true] at t
   obtain ⟨⟨⟨⟨⟨⟨g,j⟩,n⟩,C⟩,r⟩,u⟩,E⟩:=t
   exact ⟨bq g (by omega) (by omega),bq j (by omega) (by omega),bq u (by omega) (by omega),aA E,bq r (by omega) (by omega),fb n⟩
  ·rw[EJ f] at h
   have t:=Classical.not_not.1 (fun e=>h (if_neg e))
   simp only[Bool.and_eq_true] at t
   obtain ⟨⟨⟨⟨⟨⟨g,j⟩,n⟩,C⟩,r⟩,u⟩,E⟩:=t
   exact ⟨bq g (by omega) (by omega),bq j (by omega) (by omega),aA r,aA u,aA E,fb n⟩
  ·rw[EK f] at h
   have t:=Classical.not_not.1 (fun e=>h (if_neg e))
   simp only[Bool.and_eq_true] at t
   obtain ⟨⟨⟨⟨⟨⟨g,j⟩,n⟩,C⟩,r⟩,u⟩,E⟩:=t
   exact ⟨bq g (by omega) (by omega),bq j (by omega) (by omega),aA r,aA u,aA E,fb n⟩
  ·rw[EL f] at h
   have t:=Classical.not_not.1 (fun e=>h (if_neg e))
   simp only[Bool.and_eq_true] at t
   obtain ⟨⟨⟨⟨⟨g,j⟩,n⟩,C⟩,r⟩,u⟩:=t
   exact ⟨bq g (by omega) (by omega),aA j,aA C,aA r,aA u,fb n⟩
  ·rw[EM f] at h
   have t:=Classical.not_not.1 (fun e=>h (if_neg e))
   simp only[Bool.and_eq_true] at t
   obtain ⟨⟨⟨⟨⟨g,j⟩,n⟩,C⟩,r⟩,u⟩:=t
   exact ⟨bq g (by omega) (by omega),aA j,bq C (by omega) (by omega),aA r,aA u,fb n⟩
  ·rw[EN f] at h
   have t:=Classical.not_not.1 (fun e=>h (if_neg e))
   simp only[Bool.and_eq_true] at t
   obtain ⟨⟨⟨⟨⟨g,j⟩,n⟩,C⟩,r⟩,u⟩:=t
   exact ⟨bq g (by omega) (by omega),aA j,bq r (by omega) (by omega),aA u,bq C (by omega) (by omega),fb n⟩
 ·exact absurd (CN R) h

end Go.Proofs.YtjmmpnmgpgaagaaGreatDoor

namespace Go.Proofs
open Go.Shelf
def Tryz.lays171_ren:Go.Shelf.Ren:=⟨fun|171=>22|243=>33|246=>50|283=>69|284=>70|285=>71|286=>72|129=>98|317=>97|318=>99|319=>100|320=>101|337=>137|338=>138|n=>n,fun|3=>3|9=>9|2=>2|4=>4|171=>124|0=>0|53=>125|37=>36|5=>5|173=>128|212=>165|51=>121|20=>20|213=>166|46=>101|232=>249|233=>250|n=>n,fun|17=>1|18=>6|19=>7|n=>n⟩
theorem Tryz.lays171:Go.Proofs.LaysM.n171 J Tryz.lays171_ren:={
 mixed:=by kernel_rfl
 f129:=Tryz.func98.trans (congrArg some (by kernel_rfl))
 f171:=Tryz.func22.trans (congrArg some (by kernel_rfl))
 f243:=Tryz.func33.trans (congrArg some (by kernel_rfl))
 f246:=Tryz.func50.trans (congrArg some (by kernel_rfl))
 f283:=Tryz.func69.trans (congrArg some (by kernel_rfl))
 f284:=Tryz.func70.trans (congrArg some (by kernel_rfl))
 f285:=Tryz.func71.trans (congrArg some (by kernel_rfl))
 f286:=Tryz.func72.trans (congrArg some (by kernel_rfl))
 f317:=Tryz.func97.trans (congrArg some (by kernel_rfl))
 f318:=Tryz.func99.trans (congrArg some (by kernel_rfl))
 f319:=Tryz.func100.trans (congrArg some (by kernel_rfl))
 f320:=Tryz.func101.trans (congrArg some (by kernel_rfl))
 f337:=Tryz.func137.trans (congrArg some (by kernel_rfl))
 f338:=Tryz.func138.trans (congrArg some (by kernel_rfl))
 t0:=Tryz.underlying0
 a0:=Tryz.isAgg0
 z0:=Tryz.sizeOf0
 v0:=Tryz.zeroValue0
 t2:=Tryz.underlying2
 a2:=Tryz.isAgg2
 z2:=Tryz.sizeOf2
 v2:=Tryz.zeroValue2
 t3:=Tryz.underlying3
 a3:=Tryz.isAgg3
 z3:=Tryz.sizeOf3
 v3:=Tryz.zeroValue3
 t4:=Tryz.underlying4
 a4:=Tryz.isAgg4
 z4:=Tryz.sizeOf4
 v4:=Tryz.zeroValue4
 t5:=Tryz.underlying5
 a5:=Tryz.isAgg5
 z5:=Tryz.sizeOf5
 v5:=Tryz.zeroValue5
 t9:=Tryz.underlying9
 a9:=Tryz.isAgg9
 z9:=Tryz.sizeOf9
 v9:=Tryz.zeroValue9
 t20:=Tryz.underlying20
 a20:=Tryz.isAgg20
 z20:=Tryz.sizeOf20
 v20:=Tryz.zeroValue20
 t37:=Tryz.underlying36
 a37:=Tryz.isAgg36
 z37:=Tryz.sizeOf36
 v37:=Tryz.zeroValue36
 t46:=Tryz.underlying101
 a46:=Tryz.isAgg101
 z46:=Tryz.sizeOf101
 v46:=Tryz.zeroValue101
 t51:=Tryz.underlying121
 a51:=Tryz.isAgg121
 z51:=Tryz.sizeOf121
 v51:=Tryz.zeroValue121
 t53:=Tryz.underlying125
 a53:=Tryz.isAgg125
 z53:=Tryz.sizeOf125
 v53:=Tryz.zeroValue125
 t171:=Tryz.underlying124
 a171:=Tryz.isAgg124
 z171:=Tryz.sizeOf124
 v171:=Tryz.zeroValue124
 t173:=Tryz.underlying128
 a173:=Tryz.isAgg128
 z173:=Tryz.sizeOf128
 v173:=Tryz.zeroValue128
 t212:=Tryz.underlying165
 a212:=Tryz.isAgg165
 z212:=Tryz.sizeOf165
 v212:=Tryz.zeroValue165
 t213:=Tryz.underlying166
 a213:=Tryz.isAgg166
 z213:=Tryz.sizeOf166
 t232:=Tryz.underlying249
 a232:=Tryz.isAgg249
 z232:=Tryz.sizeOf249
 v232:=Tryz.zeroValue249
 t233:=Tryz.underlying250
 a233:=Tryz.isAgg250
 z233:=Tryz.sizeOf250
 v233:=Tryz.zeroValue250
 g17:=by kernel_rfl
 g18:=by kernel_rfl
 g19:=by kernel_rfl
 i0:=by kernel_rfl
 i2:=by kernel_rfl
 i3:=by kernel_rfl
 i4:=by kernel_rfl
 i5:=by kernel_rfl
 i9:=by kernel_rfl
 i20:=by kernel_rfl
 i37:=by kernel_rfl
 i46:=by kernel_rfl
 i51:=by kernel_rfl
 i53:=by kernel_rfl
 i171:=by kernel_rfl
 i173:=by kernel_rfl
 i212:=by kernel_rfl
 i232:=by kernel_rfl
 i233:=by kernel_rfl
 m17:=by kernel_rfl
 m18:=by kernel_rfl
 m19:=by kernel_rfl }
def Tryz.lays156_ren:Go.Shelf.Ren:=⟨fun|156=>36|165=>52|166=>13|169=>16|240=>25|241=>74|276=>35|277=>103|n=>n,fun|31=>23|9=>9|3=>3|4=>4|0=>0|20=>20|72=>38|76=>41|70=>35|37=>36|75=>40|127=>83|164=>85|5=>5|80=>44|n=>n,fun|n=>n⟩
theorem Tryz.lays156:Go.Proofs.Lays.n156 J Tryz.lays156_ren:={
 mixed:=by kernel_rfl
 f156:=Tryz.func36.trans (congrArg some (by kernel_rfl))
 f165:=Tryz.func52.trans (congrArg some (by kernel_rfl))
 f166:=Tryz.func13.trans (congrArg some (by kernel_rfl))
 f169:=Tryz.func16.trans (congrArg some (by kernel_rfl))
 f240:=Tryz.func25.trans (congrArg some (by kernel_rfl))
 f241:=Tryz.func74.trans (congrArg some (by kernel_rfl))
 f276:=Tryz.func35.trans (congrArg some (by kernel_rfl))
 f277:=Tryz.func103.trans (congrArg some (by kernel_rfl))
 t0:=Tryz.underlying0
 a0:=Tryz.isAgg0
 z0:=Tryz.sizeOf0
 v0:=Tryz.zeroValue0
 t3:=Tryz.underlying3
 a3:=Tryz.isAgg3
 z3:=Tryz.sizeOf3
 v3:=Tryz.zeroValue3
 t4:=Tryz.underlying4
 a4:=Tryz.isAgg4
 z4:=Tryz.sizeOf4
 v4:=Tryz.zeroValue4
 t9:=Tryz.underlying9
 a9:=Tryz.isAgg9
 z9:=Tryz.sizeOf9
 v9:=Tryz.zeroValue9
 t20:=Tryz.underlying20
 a20:=Tryz.isAgg20
 z20:=Tryz.sizeOf20
 v20:=Tryz.zeroValue20
 t31:=Tryz.underlying23
 a31:=Tryz.isAgg23
 z31:=Tryz.sizeOf23
 v31:=Tryz.zeroValue23
 t37:=Tryz.underlying36
 a37:=Tryz.isAgg36
 z37:=Tryz.sizeOf36
 v37:=Tryz.zeroValue36
 t70:=Tryz.underlying35
 a70:=Tryz.isAgg35
 z70:=Tryz.sizeOf35
 v70:=Tryz.zeroValue35
 t72:=Tryz.underlying38
 a72:=Tryz.isAgg38
 z72:=Tryz.sizeOf38
 v72:=Tryz.zeroValue38
 t75:=Tryz.underlying40
 a75:=Tryz.isAgg40
 z75:=Tryz.sizeOf40
 v75:=Tryz.zeroValue40
 t76:=Tryz.underlying41
 a76:=Tryz.isAgg41
 z76:=Tryz.sizeOf41
 v76:=Tryz.zeroValue41
 t127:=Tryz.underlying83
 a127:=Tryz.isAgg83
 z127:=Tryz.sizeOf83
 v127:=Tryz.zeroValue83
 t164:=Tryz.underlying85
 a164:=Tryz.isAgg85
 z164:=Tryz.sizeOf85
 v164:=Tryz.zeroValue85 }
theorem Tryz.extra156:Builder.Extra J Tryz.lays156_ren:={
 sizeBuilder:=by kernel_rfl
 liesBuilder:=by kernel_rfl
 t5:=Tryz.underlying5
 a5:=Tryz.isAgg5
 z5:=Tryz.sizeOf5
 v5:=Tryz.zeroValue5
 infoByte:=by kernel_rfl
 cellsByte:=by kernel_rfl
 sizeByte:=by kernel_rfl
 neB5:=by decide }
def Tryz.lays169_ren:Go.Shelf.Ren:=⟨fun|169=>16|n=>n,fun|70=>35|9=>9|0=>0|72=>38|37=>36|127=>83|3=>3|5=>5|n=>n,fun|n=>n⟩
theorem Tryz.lays169:Go.Proofs.Lays.n169 J Tryz.lays169_ren:={
 mixed:=by kernel_rfl
 f169:=Tryz.func16.trans (congrArg some (by kernel_rfl))
 t0:=Tryz.underlying0
 a0:=Tryz.isAgg0
 z0:=Tryz.sizeOf0
 v0:=Tryz.zeroValue0
 t3:=Tryz.underlying3
 a3:=Tryz.isAgg3
 z3:=Tryz.sizeOf3
 v3:=Tryz.zeroValue3
 t9:=Tryz.underlying9
 a9:=Tryz.isAgg9
 z9:=Tryz.sizeOf9
 v9:=Tryz.zeroValue9
 t37:=Tryz.underlying36
 a37:=Tryz.isAgg36
 z37:=Tryz.sizeOf36
 v37:=Tryz.zeroValue36
 t70:=Tryz.underlying35
 a70:=Tryz.isAgg35
 z70:=Tryz.sizeOf35
 v70:=Tryz.zeroValue35
 t72:=Tryz.underlying38
 a72:=Tryz.isAgg38
 z72:=Tryz.sizeOf38
 v72:=Tryz.zeroValue38
 t127:=Tryz.underlying83
 a127:=Tryz.isAgg83
 z127:=Tryz.sizeOf83
 v127:=Tryz.zeroValue83 }
theorem Tryz.extra169:Builder.Extra J Tryz.lays169_ren:={
 sizeBuilder:=by kernel_rfl
 liesBuilder:=by kernel_rfl
 t5:=Tryz.underlying5
 a5:=Tryz.isAgg5
 z5:=Tryz.sizeOf5
 v5:=Tryz.zeroValue5
 infoByte:=by kernel_rfl
 cellsByte:=by kernel_rfl
 sizeByte:=by kernel_rfl
 neB5:=by decide }
def Tryz.laysB_ren:Go.Shelf.Ren:=⟨fun|156=>36|165=>52|166=>13|169=>16|240=>25|241=>74|276=>35|277=>103|167=>82|n=>n,fun|31=>23|9=>9|3=>3|4=>4|0=>0|20=>20|72=>38|76=>41|70=>35|37=>36|75=>40|127=>83|164=>85|5=>5|80=>44|n=>n,fun|n=>n⟩
theorem Tryz.laysB166:Go.Proofs.Lays.n166 J Tryz.laysB_ren:={
 mixed:=by kernel_rfl
 f166:=Tryz.func13.trans (congrArg some (by kernel_rfl))
 f240:=Tryz.func25.trans (congrArg some (by kernel_rfl))
 f276:=Tryz.func35.trans (congrArg some (by kernel_rfl))
 t0:=Tryz.underlying0
 a0:=Tryz.isAgg0
 z0:=Tryz.sizeOf0
 v0:=Tryz.zeroValue0
 t3:=Tryz.underlying3
 a3:=Tryz.isAgg3
 z3:=Tryz.sizeOf3
 v3:=Tryz.zeroValue3
 t4:=Tryz.underlying4
 a4:=Tryz.isAgg4
 z4:=Tryz.sizeOf4
 v4:=Tryz.zeroValue4
 t9:=Tryz.underlying9
 a9:=Tryz.isAgg9
 z9:=Tryz.sizeOf9
 v9:=Tryz.zeroValue9
 t20:=Tryz.underlying20
 a20:=Tryz.isAgg20
 z20:=Tryz.sizeOf20
 v20:=Tryz.zeroValue20
 t37:=Tryz.underlying36
 a37:=Tryz.isAgg36
 z37:=Tryz.sizeOf36
 v37:=Tryz.zeroValue36
 t70:=Tryz.underlying35
 a70:=Tryz.isAgg35
 z70:=Tryz.sizeOf35
 v70:=Tryz.zeroValue35
 t72:=Tryz.underlying38
 a72:=Tryz.isAgg38
 z72:=Tryz.sizeOf38
 v72:=Tryz.zeroValue38
 t75:=Tryz.underlying40
 a75:=Tryz.isAgg40
 z75:=Tryz.sizeOf40
 v75:=Tryz.zeroValue40
 t164:=Tryz.underlying85
 a164:=Tryz.isAgg85
 z164:=Tryz.sizeOf85
 v164:=Tryz.zeroValue85
}
theorem Tryz.laysB167:Go.Proofs.Lays.n167 J Tryz.laysB_ren:={
 mixed:=by kernel_rfl
 f167:=Tryz.func82.trans (congrArg some (by kernel_rfl))
 f240:=Tryz.func25.trans (congrArg some (by kernel_rfl))
 f276:=Tryz.func35.trans (congrArg some (by kernel_rfl))
 t0:=Tryz.underlying0
 a0:=Tryz.isAgg0
 z0:=Tryz.sizeOf0
 v0:=Tryz.zeroValue0
 t4:=Tryz.underlying4
 a4:=Tryz.isAgg4
 z4:=Tryz.sizeOf4
 v4:=Tryz.zeroValue4
 t5:=Tryz.underlying5
 a5:=Tryz.isAgg5
 z5:=Tryz.sizeOf5
 v5:=Tryz.zeroValue5
 t9:=Tryz.underlying9
 a9:=Tryz.isAgg9
 z9:=Tryz.sizeOf9
 v9:=Tryz.zeroValue9
 t20:=Tryz.underlying20
 a20:=Tryz.isAgg20
 z20:=Tryz.sizeOf20
 v20:=Tryz.zeroValue20
 t37:=Tryz.underlying36
 a37:=Tryz.isAgg36
 z37:=Tryz.sizeOf36
 v37:=Tryz.zeroValue36
 t70:=Tryz.underlying35
 a70:=Tryz.isAgg35
 z70:=Tryz.sizeOf35
 v70:=Tryz.zeroValue35
 t72:=Tryz.underlying38
 a72:=Tryz.isAgg38
 z72:=Tryz.sizeOf38
 v72:=Tryz.zeroValue38
 t75:=Tryz.underlying40
 a75:=Tryz.isAgg40
 z75:=Tryz.sizeOf40
 v75:=Tryz.zeroValue40
 t164:=Tryz.underlying85
 a164:=Tryz.isAgg85
 z164:=Tryz.sizeOf85
 v164:=Tryz.zeroValue85
}
theorem Tryz.extraB:Builder.Extra J Tryz.laysB_ren:={
 sizeBuilder:=by kernel_rfl
 liesBuilder:=by kernel_rfl
 t5:=Tryz.underlying5
 a5:=Tryz.isAgg5
 z5:=Tryz.sizeOf5
 v5:=Tryz.zeroValue5
 infoByte:=by kernel_rfl
 cellsByte:=by kernel_rfl
 sizeByte:=by kernel_rfl
 neB5:=by decide }

end Go.Proofs

namespace Go.Proofs.YtjmmpnmgpgaagaaGreatDoor
open Go.RowKit Go.Sort

def dK (w : X) : Prop := Lib.TabIs J w "internal/strconv.uint64pow10" .u64 Lib.pow10Tab
theorem dK.below {w w':X} (h:dK w) (k:H w.heap.size w w'):dK w':=by
 have j : (Tryz.prog.globalNamed "internal/strconv.uint64pow10").isSome = true := by kernel_rfl
 obtain ⟨g,f⟩:=Option.isSome_iff_exists.1 j
 exact TabIs_below f h k
theorem dK.gr {w w':X} (h:dK w) (k:Gr w w'):dK w':=h.below k.below
theorem gu {n:Int} (h:Small n) {w:X} (g:dK w):D J 22 #[O V n] w fun e w'=>e= K (.string ⟨(Lib.itoa n).toArray⟩)/\Gr w w':=by
 have f:=Any.strconv_Itoa Tryz.lays171 n (by have:=h.1;omega) (by have:=h.2;omega) w g
 change D J 22 _ _ _ at f
 exact f
theorem dw {n:Int} (h:Small n):(Lib.itoa n).length<=21:=Lib.itoa_length_le n (by have:=h.1;omega) (by have:=h.2;omega)
end Go.Proofs.YtjmmpnmgpgaagaaGreatDoor
