import Derived.Test.YtbkjgjjpnfhkhaaGreatDoorM12
set_option maxRecDepth 100000
set_option maxHeartbeats 8000000
open Go renaming Addr → Z, World → Y
open Go.IntKind renaming i64 → I
open Go.Obj renaming cells → H
open Go.RowKit renaming Hid → J, Below → X
open Go.Value renaming int → V, slice → O, agg → U, tuple → K
namespace Go.Proofs.YtbkjgjjpnfhkhaaGreatDoor
open Go.RowKit Go.Sort Go.Maps
set_option linter.unusedSimpArgs false

structure Sts (w:Y) (A:Option Z) (ss:List Sl) (S:List (List Zit)):Prop where
 row:aC dW 1 w A ss
 each:∀s∈ss,Lv w s.A s.cap s.l
 z:ss.map (fun s=>s.l.map Itm.z)=S
theorem Sts.below {w w':Y} {A:Option Z} {c:List Sl} {S:List (List Zit)} (h:Sts w A c S) (q:jb2 w w'):Sts w' A c S:=⟨h.row.below q,fun s d=>(h.each s d).below q,h.z⟩
theorem Sts.gr {w w':Y} {A:Option Z} {c:List Sl} {S:List (List Zit)} (h:Sts w A c S) (q:Gr w w'):Sts w' A c S:=h.below q.below
theorem Sts.at {w:Y} {A:Option Z} {f:List Sl} {S:List (List Zit)} (h:Sts w A f S) {i:Int} (m:0<=i) (hi:i.toNat<S.length):∃(b c n:Nat) (x:Sl),A=some (jb5 b c)/\b<w.heap.size/\i=n/\n<f.length/\jb1 w b (c+n) (O x.A x.l.length x.cap)/\Lv w x.A x.cap x.l/\x.l.map Itm.z=bm S i:=by
 have d:i.toNat<f.length:=by have:=congrArg List.length h.z;simp at this;omega
 obtain ⟨b,c,g,j,k⟩:=h.row.at d;refine ⟨b,c,i.toNat,f[i.toNat],g,j,by omega,d,?_,h.each _ (gM d),?_⟩
 ·have:=k i.toNat d 0 (by omega);simpa[dW] using this
 ·unfold bm;rw[<-h.z,List.getD_eq_getElem?_getD,List.getElem?_map,List.getElem?_eq_getElem d];rfl
theorem Bb (s:Stp) (a b:List Itm) (A B:Option Z) (ca cb:Nat) (SA:Option Z) (sc:Nat) (ss:List Sl) (S:List (List Zit)) (w:Y) (F:s.k=1) (r:s.a=0\/s.a=1) (ha:Lv w A ca a) (hb:Lv w B cb b) :
  Calls Tryz.prog 156 #[U #[V I s.k,V I s.a,V I s.b,V I s.c,V I s.o,V I s.v,O s.p s.l.length s.n],U #[O A a.length ca,O B b.length cb],O SA ss.length sc] w fun e w'=>∃(L:List Itm) (C:Option Z) (k:Nat),e= .returned (K #[O C L.length k,V I (aK s (a.map Itm.z) (b.map Itm.z) S)])/\L.map Itm.z=aJ s (a.map Itm.z) (b.map Itm.z) S/\Lv w' C k L/\jb2 w w'/\NwT w' k w.heap.size C L:=by
 have hH:J (Lv w A ca a/\Lv w B cb b):=⟨ha,hb⟩;have D:J (aK s (a.map Itm.z) (b.map Itm.z) S=bS (jy s (a.map Itm.z) (b.map Itm.z))/\aJ s (a.map Itm.z) (b.map Itm.z) S=cY (jy s (a.map Itm.z) (b.map Itm.z))):=⟨by unfold aK;rw[if_pos F],by unfold aJ;rw[if_pos F]⟩;rcases r with r|r
 ·have u:J (jy s (a.map Itm.z) (b.map Itm.z)=a.map Itm.z):=by show _=_;unfold jy;rw[if_pos r]
  have h:=oG (hH.out.1.gr (((gR _).alloc _).alloc _)) (W:=((w.alloc (H #[V I 1,V I 0,V I s.b,V I s.c,V I s.o,V I s.v,O s.p s.l.length s.n] 132)).alloc (H #[O A a.length ca,O B b.length cb] 64))) (m:=a.map Itm.z) rfl;have hN:J _:=h;obtain ⟨E,f⟩:=jb0 (aK s (a.map Itm.z) (b.map Itm.z) S);have g:J (bS (a.map Itm.z)=E):=by show _=_;rw[<-f,D.out.1,u.out]
  rw[f,F,r];go_enter Tryz.func156,Tryz.ntmps156;go_wp2_with fail;refine ja0 hN ?_;rintro e j ⟨L,C,k,rfl,R,h2,h3,h4⟩;rw[g.out];have d:J (L.map Itm.z=aJ s (a.map Itm.z) (b.map Itm.z) S/\Lv j C k L/\jb2 w j/\NwT j k w.heap.size C L):=⟨by rw[D.out.2,u.out];exact R,h2,(((gR w).alloc _).alloc _).below.trans (h3.mono (by simp;omega)),h4.mono (by simp;omega)⟩;go_wp2;go_ret2;exact ⟨L,C,k,rfl,d.out.1,d.out.2.1,d.out.2.2⟩
 ·have u:J (jy s (a.map Itm.z) (b.map Itm.z)=b.map Itm.z):=by show _=_;unfold jy;rw[if_neg (by omega)]
  have h:=oG (hH.out.2.gr (((gR _).alloc _).alloc _)) (W:=((w.alloc (H #[V I 1,V I 1,V I s.b,V I s.c,V I s.o,V I s.v,O s.p s.l.length s.n] 132)).alloc (H #[O A a.length ca,O B b.length cb] 64))) (m:=b.map Itm.z) rfl;have hN:J _:=h;obtain ⟨E,f⟩:=jb0 (aK s (a.map Itm.z) (b.map Itm.z) S);have g:J (bS (b.map Itm.z)=E):=by show _=_;rw[<-f,D.out.1,u.out]
  rw[f,F,r];go_enter Tryz.func156,Tryz.ntmps156;go_wp2_with fail;refine ja0 hN ?_;rintro e j ⟨L,C,k,rfl,R,h2,h3,h4⟩;rw[g.out];have d:J (L.map Itm.z=aJ s (a.map Itm.z) (b.map Itm.z) S/\Lv j C k L/\jb2 w j/\NwT j k w.heap.size C L):=⟨by rw[D.out.2,u.out];exact R,h2,(((gR w).alloc _).alloc _).below.trans (h3.mono (by simp;omega)),h4.mono (by simp;omega)⟩;go_wp2;go_ret2;exact ⟨L,C,k,rfl,d.out.1,d.out.2.1,d.out.2.2⟩
theorem oM (s:Stp) (a b:List Itm) (A B:Option Z) (ca cb:Nat) (SA:Option Z) (sc:Nat) (ss:List Sl) (S:List (List Zit)) (w:Y) (hk:s.k=4\/s.k=5\/s.k=6) (a3:0<=s.a) (a4:s.a.toNat<S.length) (a5:0<=s.b) (a6:s.b.toNat<S.length) (hS:Sts w SA ss S) (a2:s.k=4->∀l r:List Itm,l.map Itm.z=bm S s.a->r.map Itm.z=bm S s.b->JoinOk s.c s.v l r) (a7:am (bm S s.b)=0) :
  Calls Tryz.prog 156 #[U #[V I s.k,V I s.a,V I s.b,V I s.c,V I s.o,V I s.v,O s.p s.l.length s.n],U #[O A a.length ca,O B b.length cb],O SA ss.length sc] w fun e w'=>∃(L:List Itm) (C:Option Z) (k:Nat),e= .returned (K #[O C L.length k,V I (aK s (a.map Itm.z) (b.map Itm.z) S)])/\L.map Itm.z=aJ s (a.map Itm.z) (b.map Itm.z) S/\Lv w' C k L/\X w.heap.size w w'/\NwT w' k w.heap.size C L:=by
 obtain ⟨bb,m,na,x,hA,ah,a8,bh,ba,bc,an⟩:=hS.at a3 a4;obtain ⟨bs,bp,nb,y,a1,_,a9,bo,bd,be,R⟩:=hS.at a5 a6;subst hA;cases a1;obtain ⟨E,hE⟩:=jb0 (aK s (a.map Itm.z) (b.map Itm.z) S);obtain ⟨F,hF⟩:=jb0 (aJ s (a.map Itm.z) (b.map Itm.z) S);obtain ⟨kz,g⟩:=jb0 s.k;obtain ⟨d,u⟩:=jb0 ((w.alloc (H #[V I kz,V I (na:Int),V I (nb:Int),V I s.c,V I s.o,V I s.v,O s.p s.l.length s.n] 132)).alloc (H #[O A a.length ca,O B b.length cb] 64));have f:J (Gr w d):=by show Gr _ _;rw[<-u];exact ((gR _).alloc _).alloc _
 have q0:d.cell? ⟨w.heap.size,0,none⟩=some (V I kz):=by rw[<-u];exact ab (w:=w) ((gR _).alloc _) rfl
 have q1:d.cell? ⟨w.heap.size,1,none⟩=some (V I (na:Int)):=by rw[<-u];exact ab (w:=w) ((gR _).alloc _) rfl
 have q2:d.cell? ⟨w.heap.size,2,none⟩=some (V I (nb:Int)):=by rw[<-u];exact ab (w:=w) ((gR _).alloc _) rfl
 have q3:d.cell? ⟨w.heap.size,3,none⟩=some (V I s.c):=by rw[<-u];exact ab (w:=w) ((gR _).alloc _) rfl
 have q5:d.cell? ⟨w.heap.size,5,none⟩=some (V I s.v):=by rw[<-u];exact ab (w:=w) ((gR _).alloc _) rfl
 have ak:w.heap.size<d.heap.size:=by rw[<-u];simp;omega
 have D:J (∀W',X d.heap.size d W'->(fun w'=>w'.cell? ⟨w.heap.size,1,none⟩=some (V I (na:Int))/\w'.cell? ⟨w.heap.size,2,none⟩=some (V I (nb:Int))/\w'.cell? ⟨bb,m+na,none⟩=some (O x.A x.l.length x.cap)/\w'.cell? ⟨bb,m+nb,none⟩=some (O y.A y.l.length y.cap)/\w'.cell? ⟨w.heap.size,3,none⟩=some (V I s.c)/\w'.cell? ⟨w.heap.size,5,none⟩=some (V I s.v)) W'):=fun W' h=>⟨(h.cell (p:=⟨w.heap.size,1,none⟩) ak).trans q1,(h.cell (p:=⟨w.heap.size,2,none⟩) ak).trans q2,(h.cell (p:=⟨bb,m+na,none⟩) (nL ah f.out.size)).trans ((f.out.below.cell (p:=⟨bb,m+na,none⟩) ah).trans ba),(h.cell (p:=⟨bb,m+nb,none⟩) (nL ah f.out.size)).trans ((f.out.below.cell (p:=⟨bb,m+nb,none⟩) ah).trans bd),(h.cell (p:=⟨w.heap.size,3,none⟩) ak).trans q3,(h.cell (p:=⟨w.heap.size,5,none⟩) ak).trans q5⟩;have ad:J (X d.heap.size d d.drew):=(bR _ _).drew;have bl:(na:Int)<(ss.length:Int):=by omega
 have ao:=(bc.gr f.out).gr (gR _).drew;have ap:=(be.gr f.out).gr (gR _).drew;rw[hE,hF,g,a8,a9];rw[g] at hk;rcases hk with rfl|rfl|rfl;have j:=AG ao ap (a2 g x.l y.l an R) an R (W:=d.drew);rw[<-show aK s (a.map Itm.z) (b.map Itm.z) S=gP (bm S s.a) (bm S s.b) s.c s.v by unfold aK;rw[if_neg (by omega),if_pos g],<-show aJ s (a.map Itm.z) (b.map Itm.z) S=j4 (bm S s.a) (bm S s.b) s.c s.v by unfold aJ;rw[if_neg (by omega),if_pos g],hE,hF] at j;have hC:J _:=j;rotate_left;have j:=oS ao ap an R (W:=d.drew);rw[<-show aK s (a.map Itm.z) (b.map Itm.z) S=bi (bm S s.a) (bm S s.b) by unfold aK;rw[if_neg (by omega),if_neg (by omega),if_pos g],<-show aJ s (a.map Itm.z) (b.map Itm.z) S=aZ (bm S s.a) (bm S s.b) by unfold aJ;rw[if_neg (by omega),if_neg (by omega),if_pos g],hE,hF] at j;have hC:J _:=j;rotate_left;have j:=A9 ao ap (by rw[R];exact a7) an R (W:=d.drew);rw[<-show aK s (a.map Itm.z) (b.map Itm.z) S=lY (bm S s.a) (bm S s.b) by unfold aK;rw[if_neg (by omega),if_neg (by omega),if_neg (by omega),if_pos g],<-show aJ s (a.map Itm.z) (b.map Itm.z) S=oE (bm S s.a) (bm S s.b) by unfold aJ;rw[if_neg (by omega),if_neg (by omega),if_neg (by omega),if_pos g],hE,hF] at j;have hC:J _:=j;all_goals
  go_enter Tryz.func156,Tryz.ntmps156;go_wp2_with fail
  go_region_held3 (fun w'=>w'.cell? ⟨w.heap.size,1,none⟩=some (V I (na:Int))/\w'.cell? ⟨w.heap.size,2,none⟩=some (V I (nb:Int))/\w'.cell? ⟨bb,m+na,none⟩=some (O x.A x.l.length x.cap)/\w'.cell? ⟨bb,m+nb,none⟩=some (O y.A y.l.length y.cap)/\w'.cell? ⟨w.heap.size,3,none⟩=some (V I s.c)/\w'.cell? ⟨w.heap.size,5,none⟩=some (V I s.v)) (first|with_reducible exact D.out _ ad.out|with_reducible exact D.out _ aL.out) (first
   | (((first|go_at_call 97|go_at_call 182|go_at_call 181);(refine ja0 hC ?_);rintro e w2 ⟨L,C,k,rfl,h1,h2,h3,h4⟩;have aL:J (X d.heap.size d w2):=ad.out.trans (h3.mono ad.out.size);have a0:J (L.map Itm.z=F/\Lv w2 C k L/\X w.heap.size w w2/\NwT w2 k w.heap.size C L):=⟨h1,h2,f.out.below.trans (aL.out.mono f.out.size),h4.mono (nT f.out.size ad.out.size)⟩;clear h1 h2 h3 h4)))
  all_goals go_wp2;go_ret2;exact ⟨L,C,k,rfl,a0.out⟩
theorem jz (s:Stp) (a b:List Itm) (A B:Option Z) (ca cb:Nat) (SA:Option Z) (sc:Nat) (ss:List Sl) (S:List (List Zit)) (w:Y) (D:Int) (a0:s.k=D) (hk:D=2\/D=3\/D=8\/D=7\/D=9) (a5:0<=s.a) (a6:s.a.toNat<S.length) (hS:Sts w SA ss S) (hs:aq w s.p s.l) (hO:∀l:List Itm,l.map Itm.z=bm S s.a->OneOk s l) :
  Calls Tryz.prog 156 #[U #[V I s.k,V I s.a,V I s.b,V I s.c,V I s.o,V I s.v,O s.p s.l.length s.n],U #[O A a.length ca,O B b.length cb],O SA ss.length sc] w fun e w'=>∃(L:List Itm) (C:Option Z) (k:Nat),e= .returned (K #[O C L.length k,V I (aK s (a.map Itm.z) (b.map Itm.z) S)])/\L.map Itm.z=aJ s (a.map Itm.z) (b.map Itm.z) S/\Lv w' C k L/\jb2 w w'/\NwT w' k w.heap.size C L:=by
 have hE:J (aK s (a.map Itm.z) (b.map Itm.z) S=bS (dS s (bm S s.a))/\aJ s (a.map Itm.z) (b.map Itm.z) S=cY (dS s (bm S s.a))):=⟨by unfold aK;rw[if_neg (by omega),if_neg (by omega),if_neg (by omega),if_neg (by omega)],by unfold aJ;rw[if_neg (by omega),if_neg (by omega),if_neg (by omega),if_neg (by omega)]⟩;obtain ⟨bb,ad,R,x,hA,aL,a1,ba,a8,a9,a2⟩:=hS.at a5 a6;subst hA;obtain ⟨E,an⟩:=jb0 (aK s (a.map Itm.z) (b.map Itm.z) S);have a4:J (bS (dS s (bm S s.a))=E):=by show _=_;rw[<-an,hE.out.1]
 have g:J (Gr w ((w.alloc (H #[V I D,V I (R:Int),V I s.b,V I s.c,V I s.o,V I s.v,O s.p s.l.length s.n] 132)).alloc (H #[O A a.length ca,O B b.length cb] 64))):=((gR _).alloc _).alloc _;obtain ⟨d,f⟩:=jb0 ((w.alloc (H #[V I D,V I (R:Int),V I s.b,V I s.c,V I s.o,V I s.v,O s.p s.l.length s.n] 132)).alloc (H #[O A a.length ca,O B b.length cb] 64));have q0:jb1 d w.heap.size 0 (V I D):=by rw[<-f];exact ab (w:=w) ((gR _).alloc _) rfl
 have q1:jb1 d w.heap.size 1 (V I (R:Int)):=by rw[<-f];exact ab (w:=w) ((gR _).alloc _) rfl
 have q2:jb1 d w.heap.size 2 (V I s.b):=by rw[<-f];exact ab (w:=w) ((gR _).alloc _) rfl
 have q3:jb1 d w.heap.size 3 (V I s.c):=by rw[<-f];exact ab (w:=w) ((gR _).alloc _) rfl
 have q4:jb1 d w.heap.size 4 (V I s.o):=by rw[<-f];exact ab (w:=w) ((gR _).alloc _) rfl
 have q5:jb1 d w.heap.size 5 (V I s.v):=by rw[<-f];exact ab (w:=w) ((gR _).alloc _) rfl
 have q6:jb1 d w.heap.size 6 (O s.p s.l.length s.n):=by rw[<-f];exact ab (w:=w) ((gR _).alloc _) rfl
 have r:w.heap.size<d.heap.size:=by rw[<-f];simp;omega
 rw[f] at g;have a7:s.k=2\/s.k=3\/s.k=8\/s.k=7\/s.k=9:=by omega
 have ak:=yM s x.l x.A x.cap d.drew a7 (hO x.l a2) ((a9.items.gr g.out).gr (gR _).drew) ((hs.gr g.out).gr (gR _).drew);rw[a0,a1] at ak;have hC:J _:=ak;have a3:J (x.l.map Itm.z=bm S s.a):=a2;have j:J (∀W',jb2 d W'->(fun w'=>jb1 w' w.heap.size 0 (V I D)/\jb1 w' w.heap.size 1 (V I (R:Int))/\jb1 w' w.heap.size 2 (V I s.b)/\jb1 w' w.heap.size 3 (V I s.c)/\jb1 w' w.heap.size 4 (V I s.o)/\jb1 w' w.heap.size 5 (V I s.v)/\jb1 w' w.heap.size 6 (O s.p s.l.length s.n)/\jb1 w' bb (ad+R) (O x.A x.l.length x.cap)) W'):=fun W' h=>⟨(h.cell (p:=(jb5 w.heap.size 0)) r).trans q0,(h.cell (p:=(jb5 w.heap.size 1)) r).trans q1,(h.cell (p:=(jb5 w.heap.size 2)) r).trans q2,(h.cell (p:=(jb5 w.heap.size 3)) r).trans q3,(h.cell (p:=(jb5 w.heap.size 4)) r).trans q4,(h.cell (p:=(jb5 w.heap.size 5)) r).trans q5,(h.cell (p:=(jb5 w.heap.size 6)) r).trans q6,(h.cell (p:=(jb5 bb (ad+R))) (nL aL g.out.size)).trans ((g.out.below.cell (p:=(jb5 bb (ad+R))) aL).trans a8)⟩;have ah:J (jb2 d d.drew):=(bR _ _).drew;rw[an,a0,a1];go_enter Tryz.func156,Tryz.ntmps156;go_wp2_with fail
 go_region_held3 (fun w'=>jb1 w' w.heap.size 0 (V I D)/\jb1 w' w.heap.size 1 (V I (R:Int))/\jb1 w' w.heap.size 2 (V I s.b)/\jb1 w' w.heap.size 3 (V I s.c)/\jb1 w' w.heap.size 4 (V I s.o)/\jb1 w' w.heap.size 5 (V I s.v)/\jb1 w' w.heap.size 6 (O s.p s.l.length s.n)/\jb1 w' bb (ad+R) (O x.A x.l.length x.cap)) (first|with_reducible exact j.out _ ah.out|with_reducible exact j.out _ ap.out|with_reducible exact j.out _ F.out) (first
  | (go_at_call 183;(refine ja0 hC ?_);rintro e w1 ⟨L1,C1,k1,rfl,g1,g2,g3,g4⟩;have F:J (jb2 d w1):=ah.out.trans (g4.mono ah.out.size);have ao:=oG g2 (m:=dS s (bm S s.a)) (by rw[g1,a3.out]);have hN:J _:=ao;clear ao g1 g2 g3 g4)
  | (go_at_call 180;(refine ja0 hN ?_);rintro e w2 ⟨L,C,k,rfl,h1,h2,h3,h4⟩;rw[a4.out];have ap:J (jb2 d w2):=F.out.trans (h3.mono F.out.size);have u:J (L.map Itm.z=aJ s (a.map Itm.z) (b.map Itm.z) S/\Lv w2 C k L/\jb2 w w2/\NwT w2 k w.heap.size C L):=⟨by rw[hE.out.2];exact h1,h2,g.out.below.trans (ap.out.mono g.out.size),h4.mono (nT g.out.size F.out.size)⟩;clear h1 h2 h3 h4))
 all_goals go_wp2;go_ret2;exact ⟨L,C,k,rfl,u.out.1,u.out.2.1,u.out.2.2⟩
end Go.Proofs.YtbkjgjjpnfhkhaaGreatDoor

namespace Go.Proofs.YtbkjgjjpnfhkhaaGreatDoor

theorem mE {l m:List Zit} {x:Zit} (g:x.2≠0) (c:∀y∈m,aw x.1 y.1<0) (f:∀r,wt l r=(if x.1=r then x.2 else 0)+wt m r):bQ l=x::bQ m:=by
 refine (bk l).uniq (m:=l) (T:=x::bQ m) ⟨?_,?_,?_⟩ (fun _=>rfl)
 ·unfold ew;rw[List.pairwise_cons];exact ⟨fun y d=>by obtain ⟨z,h,e⟩:=(bk m).row d;rw[<-e];exact c z h,(bk m).rise⟩
 ·intro y d;rcases List.mem_cons.1 d with e|e
  ·rw[e];exact g
  ·exact (bk m).noz y e
 ·intro r;show (if x.1=r then x.2 else 0)+wt (bQ m) r=_;rw[(bk m).same,f]
def bD (a b:List Zit):List Zit:=bQ (a++cW b)
theorem gW (a b:List Zit) (r:List Int):wt (a++cW b) r=wt a r-wt b r:=by rw[cC];have:=xQ b r;unfold cW;omega
theorem kM {b:List Zit} {z:Zit} (h:z∈cW b):∃y∈b,y.1=z.1:=by obtain ⟨y,c,rfl⟩:=List.mem_map.1 h;exact ⟨y,c,rfl⟩
theorem yh:bD [] []=[]:=rfl
theorem zW {x:Zit} {t b:List Zit} (d:ew (x::t)) (g:x.2≠0) (f:∀y∈b,aw x.1 y.1<0):bD (x::t) b=x::bD t b:=by
 refine mE g (fun z j=> ?_) (fun r=> ?_)
 ·rcases List.mem_append.1 j with e|e
  ·exact (List.pairwise_cons.1 d).1 z e
  ·obtain ⟨y,h,c⟩:=kM e;rw[<-c];exact f y h
 ·rw[gW,gW];simp only[wt];omega
theorem zV {y:Zit} {a u:List Zit} (f:ew (y::u)) (j:y.2≠0) (d:∀x∈a,aw y.1 x.1<0):bD a (y::u)=(y.1,-y.2)::bD a u:=by
 refine mE (x:=(y.1,-y.2)) (by show -y.2≠0;omega) (fun z h=> ?_) (fun r=> ?_)
 ·rcases List.mem_append.1 h with e|e
  ·exact d z e
  ·obtain ⟨v,g,c⟩:=kM e;rw[<-c];exact (List.pairwise_cons.1 f).1 v g
 ·rw[gW,gW];simp only[wt];by_cases e:y.1=r
  ·simp only[if_pos e];omega
  ·simp only[if_neg e];omega
theorem zU {x y:Zit} {t u:List Zit} (g:ew (x::t)) (j:ew (y::u)) (h:x.1=y.1):bD (x::t) (y::u)=if x.2-y.2=0 then bD t u else (y.1,x.2-y.2)::bD t u:=by
 have d:∀r,wt ((x::t)++cW (y::u)) r=(if y.1=r then x.2-y.2 else 0)+wt (t++cW u) r:=fun r=>by
  rw[gW,gW];simp only[wt,h];by_cases e:y.1=r
  ·rw[if_pos e,if_pos e];simp only[if_pos e];omega
  ·rw[if_neg e,if_neg e];simp only[if_neg e];omega
 by_cases c:x.2-y.2=0
 ·rw[if_pos c];refine fl fun r=> ?_;rw[d r,c];by_cases e:y.1=r
  ·rw[if_pos e];omega
  ·rw[if_neg e];omega
 ·rw[if_neg c];refine mE (x:=(y.1,x.2-y.2)) c (fun z l=> ?_) d;rcases List.mem_append.1 l with e|e
  ·show aw y.1 z.1<0;rw[<-h];exact (List.pairwise_cons.1 g).1 z e
  ·obtain ⟨v,k,f⟩:=kM e;rw[<-f];exact (List.pairwise_cons.1 j).1 v k
theorem xH {a:List Zit} (c:am a=0):bQ a=a:=by have h:=(aQ a).1 c;exact (bk _).uniq (⟨h.2.2,kS h.2.1,fun _=>rfl⟩:IsTot a a) fun _=>rfl
def gU (a b:List Zit):Int:=if am a=0 then (if am b=0 then (if (a++b).all (fun x=>decide (x.1.length=4))=true then 0 else 5) else am b) else am a
theorem jd (q:List Stp) (a b:List Zit):ff q a b=if bX q=0 then gU a b else bX q:=rfl
theorem zd {a b:List Zit} (c:am a=0) (d:am b=0) (f:cQ 4 a) (g:cQ 4 b):gU a b=0:=by
 unfold gU;rw[if_pos c,if_pos d,if_pos];rw[List.all_eq_true];intro x h;rcases List.mem_append.1 h with e|e
 ·exact decide_eq_true (by have:=f x e;omega)
 ·exact decide_eq_true (by have:=g x e;omega)
def iM (q:List Stp) (s t a b:List Zit):Int:=if gU a b=0 then (if bi s a=0 then (if bi t b=0 then ct q (aZ s a) (aZ t b) else bi t b) else bi s a) else gU a b
theorem qZ {q:List Stp} {s t a b:List Zit} (h:iM q s t a b=0):gU a b=0/\bi s a=0/\bi t b=0/\ct q (aZ s a) (aZ t b)=0:=by
 unfold iM at h;by_cases c:gU a b=0
 ·rw[if_pos c] at h;by_cases d:bi s a=0
  ·rw[if_pos d] at h;by_cases f:bi t b=0
   ·rw[if_pos f] at h;exact ⟨c,d,f,h⟩
   ·rw[if_neg f] at h;exact absurd h f
  ·rw[if_neg d] at h;exact absurd h d
 ·rw[if_neg c] at h;exact absurd h c
def bare (s:Stp):Stp:={ s with p:=none,n:=0 }
theorem xN (s:Stp) (c:List Int):aB (bare s) c=aB s c:=rfl
theorem oe:∀(q:List Stp) (c:List Int),bT (q.map bare) c=bT q c
 | [],_=>rfl
 | s::q,c=>by show (if aB (bare s) c=0 then none else bT (q.map bare) (c++[aB (bare s) c]))=_;rw[xN,oe q];rfl
theorem sV (q:List Stp):bX (q.map bare)=bX q:=by unfold bX;rw[List.length_map,oe]
theorem mz (s:Stp) (a b:List Zit) (S:List (List Zit)):aK (bare s) a b S=aK s a b S:=rfl
theorem mA (s:Stp) (a b:List Zit) (S:List (List Zit)):aJ (bare s) a b S=aJ s a b S:=rfl
theorem mV (a b:List Zit):∀(q:List Stp) (S:List (List Zit)),g9 a b (q.map bare) S=g9 a b q S
 | [],_=>rfl
 | s::q,S=>by show (if aK (bare s) a b S=0 then g9 a b (q.map bare) (S++[aJ (bare s) a b S]) else aK (bare s) a b S)=_;rw[mz,mA,mV a b q];rfl
theorem mW (a b:List Zit):∀(q:List Stp) (S:List (List Zit)),gB a b (q.map bare) S=gB a b q S
 | [],_=>rfl
 | s::q,S=>by show (if aK (bare s) a b S=0 then gB a b (q.map bare) (S++[aJ (bare s) a b S]) else [])=_;rw[mz,mA,mW a b q];rfl
theorem jT (q:List Stp) (a b:List Zit):ct (q.map bare) a b=ct q a b:=by unfold ct;rw[jd,jd,sV,mV]
theorem nk (q:List Stp) (a b:List Zit):el (q.map bare) a b=el q a b:=by unfold el eu;rw[jT,mW,List.length_map]
theorem ug {q r:List Stp} (h:q.map bare=r.map bare) (a b:List Zit):ct q a b=ct r a b:=by rw[<-jT q,h,jT]
theorem uf {q r:List Stp} (h:q.map bare=r.map bare) (a b:List Zit):el q a b=el r a b:=by rw[<-nk q,h,nk]
end Go.Proofs.YtbkjgjjpnfhkhaaGreatDoor
