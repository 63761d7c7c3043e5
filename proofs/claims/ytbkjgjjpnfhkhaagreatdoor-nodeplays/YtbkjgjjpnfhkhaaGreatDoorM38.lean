import Derived.SizedLaws
import Derived.ChangeMaps5
import Derived.Test.YtbkjgjjpnfhkhaaGreatDoorM37
set_option maxRecDepth 100000
set_option maxHeartbeats 8000000
open Go renaming Value → Z, Addr → U, World → T, Calls → o
open Go.Ending renaming returned → Y
open Go.IntKind renaming i64 → I
open Go.Obj renaming cells → ia
open Go.Proofs.Tryz renaming prog → J
open Go.Value renaming slice → S, pointer → ib, agg → ih
namespace Go.Proofs.YtbkjgjjpnfhkhaaGreatDoor
open Go.RowKit Go.Sort

theorem xo {w:T} {N O:Nat} {P:Nat->Prop} {id:Int} {s t:Tab} {qs:List (List Stp)} (h:Nd w N O P id s t qs) :
  o J 17 #[ib (jb4 N O)] w fun e w'=>∃(EA:Option U) (m:Nat) (EB:Option U) (E:Nat),e= Y (ih #[.int I s.c.c0,.int I s.c.c1,.int I s.c.c2,.int I s.c.c3,S EA s.c.l.length m,.int I t.c.c0,.int I t.c.c1,.int I t.c.c2,.int I t.c.c3,S EB t.c.l.length E])/\Own w' w.heap.size (S EA s.c.l.length m) s.c.l/\Own w' w.heap.size (S EB t.c.l.length E) t.c.l/\jb2 w w':=by
 obtain ⟨A,ca,C,cc,R,a9⟩:=h.ts;obtain ⟨B,cb,D,cd,ad,ba⟩:=h.tt;have bv:=s7 (.int I s.c.c0) (.int I s.c.c1) (.int I s.c.c2) (.int I s.c.c3) (S A s.c.l.length ca) (S C s.e.length cc) (.int I t.c.c0) (.int I t.c.c1) (.int I t.c.c2) (.int I t.c.c3) (S B t.c.l.length cb) (S D t.e.length cd);have bC:=s8 (.int I s.c.c0) (.int I s.c.c1) (.int I s.c.c2) (.int I s.c.c3) (S A s.c.l.length ca) (S C s.e.length cc) (.int I t.c.c0) (.int I t.c.c1) (.int I t.c.c2) (.int I t.c.c3) (S B t.c.l.length cb) (S D t.e.length cd);have n1:=R.k0;have n2:=R.k1;have n3:=R.k2;have n4:=R.k3;have n5:=R.k4;have n6:=R.k5;have n7:=ad.k0;have n8:=ad.k1;have n9:=ad.k2;have bl:=ad.k3;have bo:=ad.k4;have bp:=ad.k5;have hH:=ja3 a9 ba trivial;have bt:N<w.heap.size:=h.blk.lt;have bs:N<w.heap.size+1:=by omega
 clear h a9 ba R ad;go_enter Tryz.func17,Tryz.ntmps17;go_wp2;obtain ⟨w1,an⟩:=jb0 ((w.alloc (ia #[.int I 0,.int I 0,.int I 0,.int I 0,S none 0 0,.int I 0,.int I 0,.int I 0,.int I 0,S none 0 0] 52)).alloc (ia #[.int I 0,.int I 0,.int I 0,.int I 0,S none 0 0,.int I 0,.int I 0,.int I 0,.int I 0,S none 0 0] 52));rw[an];have hI:Hid (jb2 w w1/\Cls w1 (w.heap.size+1) [.int I 0,.int I 0,.int I 0,.int I 0,S none 0 0,.int I 0,.int I 0,.int I 0,.int I 0,S none 0 0]/\Cls w1 w.heap.size [.int I 0,.int I 0,.int I 0,.int I 0,S none 0 0,.int I 0,.int I 0,.int I 0,.int I 0,S none 0 0]):=by refine ⟨by rw[<-an];exact (((gR w).alloc _).alloc _).below,?_,by rw[<-an];exact (Cls.new w _ _).gr ((gR _).alloc _)⟩;have:=Cls.new (w.alloc (ia #[.int I 0,.int I 0,.int I 0,.int I 0,S none 0 0,.int I 0,.int I 0,.int I 0,.int I 0,S none 0 0] 52)) #[.int I 0,.int I 0,.int I 0,.int I 0,S none 0 0,.int I 0,.int I 0,.int I 0,.int I 0,S none 0 0] 52;rw[an,show (w.alloc (ia #[.int I 0,.int I 0,.int I 0,.int I 0,S none 0 0,.int I 0,.int I 0,.int I 0,.int I 0,S none 0 0] 52)).heap.size=w.heap.size+1 by simp] at this;exact this
 clear an n1 n2 n3 n4 n5 n6 n7 n8 n9 bl bo bp;refine wp_loop_rounds 3 ?_;rw[rounds_succ];go_upto_region 5 with fail;obtain ⟨d,u⟩:=jb0 (w1.alloc (ia #[.int I s.c.c0,.int I s.c.c1,.int I s.c.c2,.int I s.c.c3,S A s.c.l.length ca,S C s.e.length cc] 35));rw[u];have f:Hid (Gr w1 d/\jb2 w d/\Cls d w1.heap.size (T6 s A ca C cc)/\Cls d (w.heap.size+1) [.int I 0,.int I 0,.int I 0,.int I 0,S none 0 0,.int I 0,.int I 0,.int I 0,.int I 0,S none 0 0]/\Cls d w.heap.size [.int I 0,.int I 0,.int I 0,.int I 0,S none 0 0,.int I 0,.int I 0,.int I 0,.int I 0,S none 0 0]/\w.heap.size+1<w1.heap.size/\w1.heap.size<d.heap.size):=by
  have hg:Gr w1 d:=by rw[<-u];exact (gR _).alloc _
  exact ⟨hg,hI.out.1.trans (hg.below.mono hI.out.1.size),by rw[<-u];exact Cls.new w1 _ _,hI.out.2.1.gr hg,hI.out.2.2.gr hg,hI.out.2.1.lt,by rw[<-u];simp⟩
 clear u;have hC:Hid (o J 35 #[ih (ja7 s.c A ca)] d fun e w'=>∃B cb,e= Y (ih (ja7 s.c B cb))/\Own w' d.heap.size (S B s.c.l.length cb) s.c.l/\jb2 d w'):=by have hr:=hH.out.1.below f.out.2.1;exact fH s.c A ca d (aY (af hr.ok).1).2.1 hr.row hr.nr
 obtain ⟨a0,a1,a2,a3,a4⟩:=xY f.out.2.2.1;go_wp2_with fail;refine ja0 hC ?_;rintro e w2 ⟨EA,m,rfl,f1,f2⟩;have F:=ja2 f2 f1;clear f1 f2 hC a0 a1 a2 a3 a4;obtain ⟨p0,p1,p2,p3,p4⟩:=xY (f.out.2.2.2.1.below F.out.1);obtain ⟨z0,z1,z2,z3,z4⟩:=Bi (f.out.2.2.2.1.below F.out.1);go_wp2;obtain ⟨k,g⟩:=jb0 (((((w2.setCell (jb5 (w.heap.size+1) 0) (.int I s.c.c0)).setCell (jb5 (w.heap.size+1) 1) (.int I s.c.c1)).setCell (jb5 (w.heap.size+1) 2) (.int I s.c.c2)).setCell (jb5 (w.heap.size+1) 3) (.int I s.c.c3)).setCell (jb5 (w.heap.size+1) 4) (S EA s.c.l.length m));rw[g];have hJ:Hid (jb2 w k/\Cls k (w.heap.size+1) [.int I s.c.c0,.int I s.c.c1,.int I s.c.c2,.int I s.c.c3,S EA s.c.l.length m,.int I 0,.int I 0,.int I 0,.int I 0,S none 0 0]/\Cls k w.heap.size [.int I 0,.int I 0,.int I 0,.int I 0,S none 0 0,.int I 0,.int I 0,.int I 0,.int I 0,S none 0 0]/\Own k d.heap.size (S EA s.c.l.length m) s.c.l):=by
  have a7:=f.out.2.2.2.2.2.1;have a8:=f.out.2.2.2.2.2.2;have ap:=f.out.2.1.trans (F.out.1.mono f.out.2.1.size);have n:w.heap.size<=w.heap.size+1:=by omega
  have r:w.heap.size≠w.heap.size+1:=by omega
  refine ⟨?_,?_,?_,?_⟩
  ·rw[<-g];exact ((((ap.setCell n _).setCell n _).setCell n _).setCell n _).setCell n _
  ·rw[<-g];exact (((((f.out.2.2.2.1.below F.out.1).put 0 _).put 1 _).put 2 _).put 3 _).put 4 _
  ·rw[<-g];exact (((((f.out.2.2.2.2.1.below F.out.1).oth r _).oth r _).oth r _).oth r _).oth r _
  ·rw[<-g];exact cP F.out.2 (((((aS _ fun h=>by omega).trans (aS _ fun h=>by omega)).trans (aS _ fun h=>by omega)).trans (aS _ fun h=>by omega)).trans (aS _ fun h=>by omega))
 clear g F p0 z0 p1 z1 p2 z2 p3 z3 p4 z4;have bb:=ja1 hJ.out.2.2.2;have ao:Hid (w.heap.size+1<d.heap.size):=by have h1:=f.out.2.2.2.2.2.1;have h2:=f.out.2.2.2.2.2.2;show _<_;omega
 have a5:=ja3 hJ.out.1 hJ.out.2.1 hJ.out.2.2.1;clear f hI hJ;have hI:=a5;clear a5;rw[rounds_succ];go_upto_region 5 with fail;obtain ⟨j,u⟩:=jb0 (k.alloc (ia #[.int I t.c.c0,.int I t.c.c1,.int I t.c.c2,.int I t.c.c3,S B t.c.l.length cb,S D t.e.length cd] 35));rw[u];have f:Hid (Gr k j/\jb2 w j/\Cls j k.heap.size (T6 t B cb D cd)/\Cls j (w.heap.size+1) [.int I s.c.c0,.int I s.c.c1,.int I s.c.c2,.int I s.c.c3,S EA s.c.l.length m,.int I 0,.int I 0,.int I 0,.int I 0,S none 0 0]/\Cls j w.heap.size [.int I 0,.int I 0,.int I 0,.int I 0,S none 0 0,.int I 0,.int I 0,.int I 0,.int I 0,S none 0 0]/\w.heap.size+1<k.heap.size/\k.heap.size<j.heap.size):=by
  have hg:Gr k j:=by rw[<-u];exact (gR _).alloc _
  exact ⟨hg,hI.out.1.trans (hg.below.mono hI.out.1.size),by rw[<-u];exact Cls.new k _ _,hI.out.2.1.gr hg,hI.out.2.2.gr hg,hI.out.2.1.lt,by rw[<-u];simp⟩
 clear u;have hC:Hid (o J 35 #[ih (ja7 t.c B cb)] j fun e w'=>∃B cb,e= Y (ih (ja7 t.c B cb))/\Own w' j.heap.size (S B t.c.l.length cb) t.c.l/\jb2 j w'):=by have hr:=hH.out.2.1.below f.out.2.1;exact fH t.c B cb j (aY (af hr.ok).1).2.1 hr.row hr.nr
 obtain ⟨a0,a1,a2,a3,a4⟩:=xY f.out.2.2.1;go_wp2_with fail;refine ja0 hC ?_;rintro e w2 ⟨EB,E,rfl,f1,f2⟩;have F:=ja2 f2 f1;clear f1 f2 hC a0 a1 a2 a3 a4;obtain ⟨p5,p6,p7,p8,p9⟩:=Bf (f.out.2.2.2.1.below F.out.1);obtain ⟨z5,z6,z7,z8,z9⟩:=Bj (f.out.2.2.2.1.below F.out.1);go_wp2;obtain ⟨ah,g⟩:=jb0 (((((w2.setCell (jb5 (w.heap.size+1) 5) (.int I t.c.c0)).setCell (jb5 (w.heap.size+1) 6) (.int I t.c.c1)).setCell (jb5 (w.heap.size+1) 7) (.int I t.c.c2)).setCell (jb5 (w.heap.size+1) 8) (.int I t.c.c3)).setCell (jb5 (w.heap.size+1) 9) (S EB t.c.l.length E));rw[g];have hJ:Hid (jb2 w ah/\Cls ah (w.heap.size+1) [.int I s.c.c0,.int I s.c.c1,.int I s.c.c2,.int I s.c.c3,S EA s.c.l.length m,.int I t.c.c0,.int I t.c.c1,.int I t.c.c2,.int I t.c.c3,S EB t.c.l.length E]/\Cls ah w.heap.size [.int I 0,.int I 0,.int I 0,.int I 0,S none 0 0,.int I 0,.int I 0,.int I 0,.int I 0,S none 0 0]/\Own ah j.heap.size (S EB t.c.l.length E) t.c.l/\Own ah d.heap.size (S EA s.c.l.length m) s.c.l):=by
  have a7:=f.out.2.2.2.2.2.1;have a8:=f.out.2.2.2.2.2.2;have ap:=f.out.2.1.trans (F.out.1.mono f.out.2.1.size);have n:w.heap.size<=w.heap.size+1:=by omega
  have r:w.heap.size≠w.heap.size+1:=by omega
  refine ⟨?_,?_,?_,?_,?_⟩
  ·rw[<-g];exact ((((ap.setCell n _).setCell n _).setCell n _).setCell n _).setCell n _
  ·rw[<-g];exact (((((f.out.2.2.2.1.below F.out.1).put 5 _).put 6 _).put 7 _).put 8 _).put 9 _
  ·rw[<-g];exact (((((f.out.2.2.2.2.1.below F.out.1).oth r _).oth r _).oth r _).oth r _).oth r _
  ·rw[<-g];exact cP F.out.2 (((((aS _ fun h=>by omega).trans (aS _ fun h=>by omega)).trans (aS _ fun h=>by omega)).trans (aS _ fun h=>by omega)).trans (aS _ fun h=>by omega))
  ·have bd:jb2 k w2:=f.out.1.below.trans (F.out.1.mono f.out.1.size);have a6:=ao.out;rw[<-g];exact cP (bb.out.below bd) (((((aS _ fun h=>by omega).trans (aS _ fun h=>by omega)).trans (aS _ fun h=>by omega)).trans (aS _ fun h=>by omega)).trans (aS _ fun h=>by omega))
 clear g F p5 z5 p6 z6 p7 z7 p8 z8 p9 z9;rw[rounds_succ];obtain ⟨q0,q1,q2,q3,q4,q5,q6,q7,q8,q9⟩:=zo hJ.out.2.1;obtain ⟨r0,r1,r2,r3,r4,r5,r6,r7,r8,r9⟩:=zo hJ.out.2.2.1;obtain ⟨z0,z1,z2,z3,z4,z5,z6,z7,z8,z9⟩:=Az hJ.out.2.2.1;go_wp2;have a6:=ao.out;have a7:=f.out.2.2.2.2.2.1;have a8:=f.out.2.2.2.2.2.2;have aL:∀ak,w.heap.size<ak->Agr (fun b=>ak<=b) ah ((((((((((ah.setCell (jb5 w.heap.size 0) (.int I s.c.c0)).setCell (jb5 w.heap.size 1) (.int I s.c.c1)).setCell (jb5 w.heap.size 2) (.int I s.c.c2)).setCell (jb5 w.heap.size 3) (.int I s.c.c3)).setCell (jb5 w.heap.size 4) (S EA s.c.l.length m)).setCell (jb5 w.heap.size 5) (.int I t.c.c0)).setCell (jb5 w.heap.size 6) (.int I t.c.c1)).setCell (jb5 w.heap.size 7) (.int I t.c.c2)).setCell (jb5 w.heap.size 8) (.int I t.c.c3)).setCell (jb5 w.heap.size 9) (S EB t.c.l.length E)):=fun ak bc=>((((((((((aS _ fun h=>by omega).trans (aS _ fun h=>by omega)).trans (aS _ fun h=>by omega)).trans (aS _ fun h=>by omega)).trans (aS _ fun h=>by omega)).trans (aS _ fun h=>by omega)).trans (aS _ fun h=>by omega)).trans (aS _ fun h=>by omega)).trans (aS _ fun h=>by omega)).trans (aS _ fun h=>by omega));have be:w.heap.size<=d.heap.size:=by omega
 have bh:w.heap.size<=j.heap.size:=by have:=f.out.2.1.size;omega
 exact bodyPost_ret (v:= ih #[.int I s.c.c0,.int I s.c.c1,.int I s.c.c2,.int I s.c.c3,S EA s.c.l.length m,.int I t.c.c0,.int I t.c.c1,.int I t.c.c2,.int I t.c.c3,S EB t.c.l.length E]) (by simp[results,Tryz.results17,go_sem,r0,r1,r2,r3,r4,r5,r6,r7,r8,r9]) rfl ⟨EA,m,EB,E,rfl,Own.mono (cP hJ.out.2.2.2.2 (aL _ (by omega))) be,Own.mono (cP hJ.out.2.2.2.1 (aL _ (by omega))) bh,((((((((((hJ.out.1.setCell (nR _) _).setCell (nR _) _).setCell (nR _) _).setCell (nR _) _).setCell (nR _) _).setCell (nR _) _).setCell (nR _) _).setCell (nR _) _).setCell (nR _) _).setCell (nR _) _)⟩

theorem zX {w:T} {N O:Nat} {P:Nat->Prop} {id:Int} {s t:Tab} {qs:List (List Stp)} (h:Nd w N O P id s t qs) (k x2 x3 x4 x5:Int) :
  o J 6 #[ib (jb4 N O),ih #[.int I k,.int I x2,.int I x3,.int I x4,.int I x5]] w fun e w'=>e= Y (.int I (ndE s t id k x2 x3 x4 x5))/\Nd w' N O (aj P w.heap.size w'.heap.size) id (ndS s id k x2 x3 x4 x5) (ndT t id k x2 x3 x4 x5) qs/\Wr N (O+1) (O+37) w w':=by
 by_cases f:x2=0
 ·subst f;exact rV h (j:=0) (by omega) k x3 x4 x5
 ·by_cases g:x2=1
  ·subst g;exact rV h (j:=1) (by omega) k x3 x4 x5
  ·have m:ndE s t id k x2 x3 x4 x5=1:=(by unfold ndE;rw[if_neg f,if_neg g]);have n:ndS s id k x2 x3 x4 x5=s:=by unfold ndS;rw[if_neg f]
   have r:ndT t id k x2 x3 x4 x5=t:=(by unfold ndT;rw[if_neg g]);rw[m,n,r];have d:=ja1 h;clear h m n r;have u:Hid (Gr w (w.alloc (ia #[.int I k,.int I x2,.int I x3,.int I x4,.int I x5] 41))):=(gR w).alloc _;have c:Hid (Nd (w.alloc (ia #[.int I k,.int I x2,.int I x3,.int I x4,.int I x5] 41)) N O (aj P w.heap.size (w.alloc (ia #[.int I k,.int I x2,.int I x3,.int I x4,.int I x5] 41)).heap.size) id s t qs/\Wr N (O+1) (O+37) w (w.alloc (ia #[.int I k,.int I x2,.int I x3,.int I x4,.int I x5] 41))):=by have C:=d.out.below u.out.below;exact ⟨C.mono (fun b l=>aj.old b l) (cZ d.out.out d.out.blk.lt) (fM fun b l=>C.up b l),Wr.of u.out.below d.out.blk.lt⟩
   by_cases D:x2<0
   ·go_enter Tryz.func6,Tryz.ntmps6;go_wp2;go_ret;exact ⟨rfl,c.out⟩
   ·have E:2<=x2:=(by omega);go_enter Tryz.func6,Tryz.ntmps6;go_wp2;go_ret;exact ⟨rfl,c.out⟩
section
open Go.ChangeShapes Go.WideShapes Go.ChangeAt Go.Deep

variable {H:Type} {enc:TypeId×Z->H} {W:T}

theorem wM {c:Nat} {d:List Z} {x:DataW H×List MemPlace} (hl:d.length=5) (h:DataW.trod enc J W 0 (fun _=>true) true c 91 d=some x):∃y:Cel,d=ex y:=by
 match d,hl with
 | [v0,v1,v2,v3,v4],_ =>
  obtain ⟨xs,n,_,_,_,j,f⟩:=DataW.trod_struct Tryz.underlying91 h
  have c2:Tryz.prog.cellsOf 89=2:=by kernel_rfl
  have r:Tryz.prog.cellsOf 3=1:=by kernel_rfl
  have g:xs.length=4:=j
  match xs,g with
  | [y0,y1,y2,y3],_ =>
   have R:=f 0 _ rfl
   have g1:=f 1 _ rfl
   have g2:=f 2 _ rfl
   have g3:=f 3 _ rfl
   simp[r,c2] at R g1 g2 g3
   obtain ⟨z2,D,_⟩:=DataW.trod_int Tryz.underlying3 g1
   obtain ⟨z3,E,_⟩:=DataW.trod_int Tryz.underlying3 g2
   obtain ⟨z4,F,_⟩:=DataW.trod_int Tryz.underlying3 g3
   obtain ⟨ys,m,_,_,_,l,hd⟩:=DataW.trod_struct Tryz.underlying89 R
   have k:ys.length=2:=l
   match ys,k with
   | [u0,u1],_ =>
    have k0:=hd 0 _ rfl
    have k1:=hd 1 _ rfl
    simp[r] at k0 k1
    obtain ⟨z0,u,_⟩:=DataW.trod_int Tryz.underlying3 k0
    obtain ⟨z1,C,_⟩:=DataW.trod_int Tryz.underlying3 k1
    simp only[List.cons.injEq,and_true] at u C D E F
    exact ⟨((z0,z1),z2,z3,z4),by rw[u,C,D,E,F];rfl⟩

theorem tF {k:Nat} {cs:List Z} {x:DataW H×List MemPlace} (h:DataW.trod enc J W 0 (fun _=>true) true k 33 cs=some x) :
  ∃A cap l,cs=[S A l.length cap]/\(A=none->cap=0)/\av W A l/\l.length<=maxLen/\((∀n∈x.1.weights J 33,n<=reachBytes)->l.length*40<=140737488355328):=by
 rcases open_slice Tryz.underlying33 h with ⟨f,_⟩|⟨a,len,cap,m,n,D,Pl,f,_,hl,hm,hmm,hx,hi⟩
 ·exact ⟨none,0,[],f,fun _=>rfl,oL rfl,by simp,fun _=>by simp⟩
 ·have c5:Tryz.prog.cellsOf 91=5:=by kernel_rfl
  have E:Tryz.prog.bytesOf 91=40:=by kernel_rfl
  have an:len<=m:=by rw[hmm];simp;exact hl
  obtain ⟨ao,hZ⟩:=choose_lt (α := Cel) (n:=len) (p:=fun i z=>∀j,j<5->W.cell? (a.add (i*5+j))=(ex z)[j]?) (fun i ak=>by obtain ⟨ah,h1,h2⟩:=hi i (by omega);rw[c5] at h1;obtain ⟨_,u,d⟩:=World.cells?_some h1;obtain ⟨y,hy⟩:=wM u h2;refine ⟨y,fun j hj=> ?_⟩;have:=d j (by omega);rw[add_add] at this;rw[this,<-hy,List.getElem?_eq_getElem (by omega)])
  refine ⟨some a,cap,(List.range len).map ao,by rw[f];simp,(fun h=>by cases h),?_,by simp;omega,fun hw=> ?_⟩
  ·by_cases h0:len=0
   ·exact oL (by rw[h0];rfl)
   ·have F:=hZ 0 (by omega) 0 (by omega);obtain ⟨b,C,c⟩:=a;have r:W.cell? (Addr.add ⟨b,C,c⟩ (0*5+0))=some (.int I (ao 0).1.1):=F;have g:c=none:=by simpa[Addr.add] using World.cell?_spot r
    subst g;refine oR ⟨b,C,rfl,?_,fun j hj i R=> ?_⟩
    ·have:=World.block_lt_of_cell? W _ r;simpa[Addr.add_lit] using this
    ·have ad:j<len:=(by simpa using hj);have:=hZ j ad i R;simp only[Addr.add_lit,<-Nat.add_assoc] at this;simpa using this
  ·rw[hx] at hw;have:=hw ((((List.range len).map D).length+((List.range (m-len)).map fun j=>D (len+j)).length)*Tryz.prog.bytesOf 91) (by simp[DataW.weights,Tryz.underlying33]);have hb:=reachBytes_lt;rw[E] at this;simp only[List.length_map,List.length_range] at this ⊢;omega

theorem tG {h:Nat} {j:List Z} {x:DataW H×List MemPlace} (g:j.length=5) (hf:DataW.trod enc J W 0 (fun _=>true) true h 32 j=some x) :
  ∃(c:Ctx) (A:Option U) (cap:Nat),j=[.int I c.c0,.int I c.c1,.int I c.c2,.int I c.c3,S A c.l.length cap]/\(A=none->cap=0)/\Row W A c.l/\c.l.length<=maxLen:=by
 match j,g with
 | [v0,v1,v2,v3,v4],_ =>
  obtain ⟨y0,y1,n,_,_,F,R⟩:=trod_struct2 Tryz.underlying32 hf;have k:Tryz.prog.cellsOf 29=4:=by kernel_rfl
  have r:Tryz.prog.cellsOf 30=1:=by kernel_rfl
  have c3:Tryz.prog.cellsOf 3=1:=by kernel_rfl
  simp only[k,r] at F R;obtain ⟨A,cap,l,E,hA,hr,hm⟩:=tH R;obtain ⟨xs,m,_,_,_,g,hi⟩:=DataW.trod_array Tryz.underlying29 F;have d:∀(i:Nat) (u:Z),i<4->((([v0,v1,v2,v3,v4]:List Z).drop 0).take 4)[i]? = some u->∃z,u= .int I z:=by
   intro i u D f;have C:=hi i D;rw[c3] at C;obtain ⟨y,hy⟩:∃y,xs[i]? = some y:=⟨xs[i]'(by omega),List.getElem?_eq_getElem (by omega)⟩;rw[hy] at C;obtain ⟨z,e,_⟩:=DataW.trod_int Tryz.underlying3 C;refine ⟨z,?_⟩;match i,D,f,e with
   | 0,_,f,e=>simp at f e;rw[<-f,e]
   | 1,_,f,e=>simp at f e;rw[<-f,e]
   | 2,_,f,e=>simp at f e;rw[<-f,e]
   | 3,_,f,e=>simp at f e;rw[<-f,e]
  obtain ⟨z0,rfl⟩:=d 0 v0 (by omega) rfl;obtain ⟨z1,rfl⟩:=d 1 v1 (by omega) rfl;obtain ⟨z2,rfl⟩:=d 2 v2 (by omega) rfl;obtain ⟨z3,rfl⟩:=d 3 v3 (by omega) rfl;simp at E;exact ⟨⟨z0,z1,z2,z3,l⟩,A,cap,by rw[E],hA,hr,hm⟩

end
section
open Go.ChangeShapes Go.WideShapes Go.ChangeAt Go.Deep

variable {H:Type} {enc:TypeId×Z->H} {W:T}

theorem AH {j:List Z} (h:j.length=7):∃a b c d e f g,j=[a,b,c,d,e,f,g]:=by
 match j,h with
 | [a,b,c,d,e,f,g],_=>exact ⟨a,b,c,d,e,f,g,rfl⟩

theorem tJ {d:Nat} {f:List Z} {x:DataW H×List MemPlace} (hl:f.length=7) (h:DataW.trod enc J W 0 (fun _=>true) true d 132 f=some x):∃y:Stp,f=iW y/\aq W y.p y.l/\y.l.length<=maxLen/\(y.p=none->y.n=0):=by
 obtain ⟨v0,v1,v2,v3,v4,v5,v6,rfl⟩:=AH hl;obtain ⟨xs,n,_,_,_,j,c⟩:=DataW.trod_struct Tryz.underlying132 h;have c1:Tryz.prog.cellsOf 3=1:=by kernel_rfl
 have c2:Tryz.prog.cellsOf 99=1:=by kernel_rfl
 have g:xs.length=7:=j;match xs,g with
 | [y0,y1,y2,y3,y4,y5,y6],_ =>have F:=c 0 _ rfl;have R:=c 1 _ rfl;have g2:=c 2 _ rfl;have g3:=c 3 _ rfl;have g4:=c 4 _ rfl;have g5:=c 5 _ rfl;have g6:=c 6 _ rfl;simp[c1,c2] at F R g2 g3 g4 g5 g6;obtain ⟨z0,k,_⟩:=DataW.trod_int Tryz.underlying3 F;obtain ⟨z1,m,_⟩:=DataW.trod_int Tryz.underlying3 R;obtain ⟨z2,r,_⟩:=DataW.trod_int Tryz.underlying3 g2;obtain ⟨z3,u,_⟩:=DataW.trod_int Tryz.underlying3 g3;obtain ⟨z4,C,_⟩:=DataW.trod_int Tryz.underlying3 g4;obtain ⟨z5,D,_⟩:=DataW.trod_int Tryz.underlying3 g5;obtain ⟨A,cap,l,E,hA,hr,hm⟩:=wN g6;simp only[List.cons.injEq,and_true] at k m r u C D E;exact ⟨⟨z0,z1,z2,z3,z4,z5,A,cap,l⟩,by rw[k,m,r,u,C,D,E];rfl,hr,hm,hA⟩

end
end Go.Proofs.YtbkjgjjpnfhkhaaGreatDoor

namespace Go.Proofs.YtbkjgjjpnfhkhaaGreatDoor
open Go.ChangeShapes Go.WideShapes Go.ChangeAt Go.RowKit Go.Deep

structure Actm where
 k:Int
 x1:Int
 x2:Int
 x3:Int
 x4:Int
 x5:Int
 a:Tab
 A:Option U
 ca:Nat
 C:Option U
 cc:Nat
 b:Tab
 B:Option U
 cb:Nat
 D:Option U
 cd:Nat
 q:List Stp
 Q:Option U
 cq:Nat
def sT (x:Actm):List Z:=[.int I x.k,.int I x.x1,.int I x.x2,.int I x.x3,.int I x.x4,.int I x.x5,.int I x.a.c.c0,.int I x.a.c.c1,.int I x.a.c.c2,.int I x.a.c.c3,S x.A x.a.c.l.length x.ca,S x.C x.a.e.length x.cc,.int I x.b.c.c0,.int I x.b.c.c1,.int I x.b.c.c2,.int I x.b.c.c3,S x.B x.b.c.l.length x.cb,S x.D x.b.e.length x.cd,S x.Q x.q.length x.cq]
structure ActIn (w:T) (x:Actm):Prop where
 ra:Row w x.A x.a.c.l
 rc:av w x.C x.a.e
 rb:Row w x.B x.b.c.l
 rd:av w x.D x.b.e
 la:x.a.c.l.length<=maxLen
 lc:x.a.e.length<=maxLen
 lb:x.b.c.l.length<=maxLen
 ld:x.b.e.length<=maxLen
 na:x.A=none->x.ca=0
 nc:x.C=none->x.cc=0
 nb:x.B=none->x.cb=0
 nd:x.D=none->x.cd=0
 st:Stps w x.Q x.q
 lq:x.q.length<=maxLen
 nq:x.Q=none->x.cq=0
theorem ActIn.below {w w':T} {x:Actm} (h:ActIn w x) (k:jb2 w w'):ActIn w' x:=⟨h.ra.below k,h.rc.below k,h.rb.below k,h.rd.below k,h.la,h.lc,h.lb,h.ld,h.na,h.nc,h.nb,h.nd,h.st.below k,h.lq,h.nq⟩
structure Acts (w:T) (A:Option U) (l:List Actm):Prop where
 row:aC sT 19 w A l
 each:∀x∈l,ActIn w x
theorem Acts.below {w w':T} {A:Option U} {l:List Actm} (h:Acts w A l) (k:jb2 w w'):Acts w' A l:=⟨h.row.below k,fun x c=>(h.each x c).below k⟩
theorem Acts.at {w:T} {A:Option U} {l:List Actm} (h:Acts w A l) {j:Nat} (d:j<l.length):∃b c,A=some (jb5 b c)/\b<w.heap.size/\∀i,i<19->w.cell? (jb5 b (c+j*19+i))=(sT l[j])[i]? := by obtain ⟨b,c,f,g,k⟩:=h.row.at d;exact ⟨b,c,f,g,fun i hi=>k j d i hi⟩

variable {H:Type} {enc:TypeId×Z->H} {W:T}

theorem nE {f:Nat} {v0 v1 v2 v3 v4 v5:Z} {x:DataW H×List MemPlace} (R:DataW.trod enc J W 0 (fun _=>true) true f 35 [v0,v1,v2,v3,v4,v5]=some x) :
  ∃(t:Tab) (A:Option U) (ca:Nat) (D:Option U) (g:Nat),[v0,v1,v2,v3,v4,v5]=[.int I t.c.c0,.int I t.c.c1,.int I t.c.c2,.int I t.c.c3,S A t.c.l.length ca,S D t.e.length g]/\Row W A t.c.l/\av W D t.e/\t.c.l.length<=maxLen/\t.e.length<=maxLen/\(A=none->ca=0)/\(D=none->g=0):=by
 obtain ⟨y0,y1,n,hx,_,m,r⟩:=trod_struct2 Tryz.underlying35 R;have C:Tryz.prog.cellsOf 32=5:=by kernel_rfl
 have u:Tryz.prog.cellsOf 33=1:=by kernel_rfl
 simp only[C,u] at m r;obtain ⟨c,A,ca,d,E,hr,hm⟩:=tG rfl m;obtain ⟨D,g,l,k,F,j,h,_⟩:=tF r;simp at d k;exact ⟨⟨c,l⟩,A,ca,D,g,by rw[d.1,d.2.1,d.2.2.1,d.2.2.2.1,d.2.2.2.2,k],hr,j,hm,h,E,F⟩
theorem qe {r:Nat} {cs:List Z} {x:DataW H×List MemPlace} (h:DataW.trod enc J W 0 (fun _=>true) true r 44 cs=some x) :
  ∃A cap l,cs=[S A (l:List Stp).length cap]/\(A=none->cap=0)/\Stps W A l/\l.length<=maxLen:=by
 rcases open_slice Tryz.underlying44 h with ⟨f,_⟩|⟨a,len,cap,m,n,D,Pl,f,_,hl,hm,hmm,R,hi⟩
 ·exact ⟨none,0,[],f,fun _=>rfl,⟨oL rfl,fun x R=>by cases R⟩,by simp⟩
 ·have c2:Tryz.prog.cellsOf 132=7:=by kernel_rfl
  have ap:len<=m:=by rw[hmm];simp;exact hl
  haveI:Inhabited Stp:=⟨⟨0,0,0,0,0,0,none,0,[]⟩⟩;obtain ⟨aL,hZ⟩:=choose_lt (α := Stp) (n:=len) (p:=fun i z=>(∀j,j<7->W.cell? (a.add (i*7+j))=(iW z)[j]?)/\aq W z.p z.l/\z.l.length<=maxLen/\(z.p=none->z.n=0)) (fun i C=>by obtain ⟨ao,h1,h2⟩:=hi i (by omega);rw[c2] at h1;obtain ⟨_,E,d⟩:=World.cells?_some h1;obtain ⟨y,hy,an⟩:=tJ E h2;refine ⟨y,fun j hj=> ?_,an⟩;have:=d j (by omega);rw[add_add] at this;rw[this,<-hy,List.getElem?_eq_getElem (by omega)])
  refine ⟨some a,cap,(List.range len).map aL,by rw[f];simp,(fun h=>by cases h),⟨?_,fun x R=> ?_⟩,by simp;omega⟩
  ·by_cases h0:len=0
   ·exact oL (by rw[h0];rfl)
   ·have ad:=(hZ 0 (by omega)).1 0 (by omega);obtain ⟨b,F,c⟩:=a;have u:W.cell? (Addr.add ⟨b,F,c⟩ (0*7+0))=some (.int I (aL 0).k):=ad;have g:c=none:=by simpa[Addr.add] using World.cell?_spot u
    subst g;refine oR ⟨b,F,rfl,?_,fun j hj i ah=> ?_⟩
    ·have:=World.block_lt_of_cell? W _ u;simpa[Addr.add_lit] using this
    ·have ak:j<len:=(by simpa using hj);have:=(hZ j ak).1 i ah;simp only[Addr.add_lit,<-Nat.add_assoc] at this;simpa using this
  ·obtain ⟨i,C,rfl⟩:=List.mem_map.1 R;exact (hZ i (by simpa using C)).2
theorem A7 {c:List Z} (h:c.length=19):∃v0 v1 v2 v3 v4 v5 v6 v7 v8 v9 v10 v11 v12 v13 v14 v15 v16 v17 v18,c=[v0,v1,v2,v3,v4,v5,v6,v7,v8,v9,v10,v11,v12,v13,v14,v15,v16,v17,v18]:=by
 match c,h with
 | [v0,v1,v2,v3,v4,v5,v6,v7,v8,v9,v10,v11,v12,v13,v14,v15,v16,v17,v18],_=>exact ⟨v0,v1,v2,v3,v4,v5,v6,v7,v8,v9,v10,v11,v12,v13,v14,v15,v16,v17,v18,rfl⟩
theorem tI {c:Nat} {v0 v1 v2 v3 v4:Z} {x:DataW H×List MemPlace} (h:DataW.trod enc J W 0 (fun _=>true) true c 41 [v0,v1,v2,v3,v4]=some x):∃j k l m r:Int,[v0,v1,v2,v3,v4]=[.int I j,.int I k,.int I l,.int I m,.int I r]:=by
 obtain ⟨xs,n,_,_,_,g,d⟩:=DataW.trod_struct Tryz.underlying41 h;have c1:Tryz.prog.cellsOf 3=1:=by kernel_rfl
 have f:xs.length=5:=g;match xs,f with
 | [y0,y1,y2,y3,y4],_ =>have R:=d 0 _ rfl;have g1:=d 1 _ rfl;have g2:=d 2 _ rfl;have g3:=d 3 _ rfl;have g4:=d 4 _ rfl;simp[c1] at R g1 g2 g3 g4;obtain ⟨j,u,_⟩:=DataW.trod_int Tryz.underlying3 R;obtain ⟨k,C,_⟩:=DataW.trod_int Tryz.underlying3 g1;obtain ⟨l,D,_⟩:=DataW.trod_int Tryz.underlying3 g2;obtain ⟨m,E,_⟩:=DataW.trod_int Tryz.underlying3 g3;obtain ⟨r,F,_⟩:=DataW.trod_int Tryz.underlying3 g4;simp only[List.cons.injEq,and_true] at u C D E F;exact ⟨j,k,l,m,r,by rw[u,C,D,E,F]⟩
theorem wL {c:Nat} {j:List Z} {x:DataW H×List MemPlace} (hl:j.length=19) (h:DataW.trod enc J W 0 (fun _=>true) true c 46 j=some x):∃y:Actm,j=sT y/\ActIn W y:=by
 obtain ⟨v0,v1,v2,v3,v4,v5,v6,v7,v8,v9,v10,v11,v12,v13,v14,v15,v16,v17,v18,rfl⟩:=A7 hl;obtain ⟨xs,n,_,_,_,F,d⟩:=DataW.trod_struct Tryz.underlying46 h;have c1:Tryz.prog.cellsOf 3=1:=by kernel_rfl
 have c5:Tryz.prog.cellsOf 41=5:=by kernel_rfl
 have f:Tryz.prog.cellsOf 43=12:=by kernel_rfl
 have cq:Tryz.prog.cellsOf 44=1:=by kernel_rfl
 have c6:Tryz.prog.cellsOf 35=6:=by kernel_rfl
 have E:xs.length=4:=F;match xs,E with
 | [y0,y1,y2,y3],_ =>
  have g0:=d 0 _ rfl;have g1:=d 1 _ rfl;have g2:=d 2 _ rfl;have g3:=d 3 _ rfl;simp[c1,c5,f,cq] at g0 g1 g2 g3;obtain ⟨k,e0,_⟩:=DataW.trod_int Tryz.underlying3 g0;obtain ⟨x1,x2,x3,x4,x5,e1⟩:=tI g1;obtain ⟨Q,g,q,e3,hQ,u,r⟩:=qe g3;obtain ⟨zs,m,_,_,_,ak,l⟩:=DataW.trod_struct Tryz.underlying43 g2;have ah:zs.length=1:=ak;match zs,ah with
  | [z0],_ =>
   have p0:=l 0 _ rfl;obtain ⟨ys,m2,_,_,_,ad,hi⟩:=DataW.trod_array Tryz.underlying36 p0;have R:ys.length=2:=ad;match ys,R with
   | [u0,u1],_ =>have t0:=hi 0 (by omega);have t1:=hi 1 (by omega);rw[c6] at t0 t1;obtain ⟨a,A,ca,C,cc,ea,h1,h2,h3,h4,h5,h6⟩:=nE t0;obtain ⟨b,B,cb,D,cd,eb,k1,k2,k3,k4,k5,k6⟩:=nE t1;simp only[List.cons.injEq,and_true] at e0 e1 e3 ea eb;obtain ⟨rfl,rfl,rfl,rfl,rfl⟩:=e1;obtain ⟨rfl,rfl,rfl,rfl,rfl,rfl⟩:=ea;obtain ⟨rfl,rfl,rfl,rfl,rfl,rfl⟩:=eb;exact ⟨⟨k,x1,x2,x3,x4,x5,a,A,ca,C,cc,b,B,cb,D,cd,q,Q,g⟩,by rw[e0,e3];rfl,⟨h1,h2,k1,k2,h3,h4,k3,k4,h5,h6,k5,k6,u,r,hQ⟩⟩
theorem tE {r:Reach} {b0:Nat} {v:Z} {d:DataW H} {p:List MemPlace} (hv:Value.okWide J W r b0 22 v) (h:DataW.Trod enc J W 0 (fun _=>true) true 22 v d p) :
  ∃A cap l,v= S A (l:List Actm).length cap/\Acts W A l/\l.length<=maxLen:=by
 obtain ⟨aL,c,E,rfl⟩:=okWide_slice Tryz.underlying22 hv;obtain ⟨a1,hf⟩:=h;rcases open_slice Tryz.underlying22 hf with ⟨f,_⟩|⟨a,len,cap,m,n,D,Pl,f,_,hl,hm,hmm,hx,hi⟩
 ·simp[Value.cells] at f;obtain ⟨rfl,rfl,rfl⟩:=f;exact ⟨none,0,[],rfl,⟨oL rfl,fun x hx=>by cases hx⟩,by simp⟩
 ·simp[Value.cells] at f;obtain ⟨rfl,rfl,rfl⟩:=f;have ak:Tryz.prog.cellsOf 46=19:=by kernel_rfl
  have a3:c<=m:=by rw[hmm];simp;exact hl
  haveI:Inhabited Actm:=⟨⟨0,0,0,0,0,0,⟨⟨0,0,0,0,[]⟩,[]⟩,none,0,none,0,⟨⟨0,0,0,0,[]⟩,[]⟩,none,0,none,0,[],none,0⟩⟩;obtain ⟨a4,hZ⟩:=choose_lt (α := Actm) (n:=c) (p:=fun i z=>(∀j,j<19->W.cell? (a.add (i*19+j))=(sT z)[j]?)/\ActIn W z) (fun i R=>by obtain ⟨a2,h1,h2⟩:=hi i (by omega);rw[ak] at h1;obtain ⟨_,ad,u⟩:=World.cells?_some h1;obtain ⟨y,hy,a0⟩:=wL ad h2;refine ⟨y,fun j hj=> ?_,a0⟩;have:=u j (by omega);rw[add_add] at this;rw[this,<-hy,List.getElem?_eq_getElem (by omega)])
  refine ⟨some a,E,(List.range c).map a4,by simp,⟨?_,fun x hx=> ?_⟩,by simp;omega⟩
  ·by_cases h0:c=0
   ·exact oL (by rw[h0];rfl)
   ·have an:=(hZ 0 (by omega)).1 0 (by omega);obtain ⟨b,ah,g⟩:=a;have F:W.cell? (Addr.add ⟨b,ah,g⟩ (0*19+0))=some (.int I (a4 0).k):=an;have C:g=none:=by simpa[Addr.add] using World.cell?_spot F
    subst C;refine oR ⟨b,ah,rfl,?_,fun j hj i ao=> ?_⟩
    ·have:=World.block_lt_of_cell? W _ F;simpa[Addr.add_lit] using this
    ·have ap:j<c:=(by simpa using hj);have:=(hZ j ap).1 i ao;simp only[Addr.add_lit,<-Nat.add_assoc] at this;simpa using this
  ·obtain ⟨i,R,rfl⟩:=List.mem_map.1 hx;exact (hZ i (by simpa using R)).2
end Go.Proofs.YtbkjgjjpnfhkhaaGreatDoor

namespace Go.Proofs.YtbkjgjjpnfhkhaaGreatDoor
open Go.RowKit Go.Sort

theorem mt {a b:Tab} {A B C D g k C2 m:Option U} {ca cb cc cd ca2 cb2 cc2 cd2:Nat} {w:T} (u:a.c.l.length<=maxLen/\a.e.length<=maxLen) (E:b.c.l.length<=maxLen/\b.e.length<=maxLen) (n:Row w A a.c.l/\av w C a.e/\Row w B b.c.l/\av w D b.e) (r:Row w g a.c.l/\av w C2 a.e/\Row w k b.c.l/\av w m b.e) :
  o J 14 #[ih (T2 a A ca C cc b B cb D cd).toArray,ih (T2 a g ca2 C2 cc2 b k cb2 m cd2).toArray] w fun e w'=>e= Y (.bool true)/\Gr w w':=by
 obtain ⟨W,hW⟩:=jb0 ((w.alloc (ia #[.int I a.c.c0,.int I a.c.c1,.int I a.c.c2,.int I a.c.c3,S A a.c.l.length ca,S C a.e.length cc,.int I b.c.c0,.int I b.c.c1,.int I b.c.c2,.int I b.c.c3,S B b.c.l.length cb,S D b.e.length cd] 43)).alloc (ia #[.int I a.c.c0,.int I a.c.c1,.int I a.c.c2,.int I a.c.c3,S g a.c.l.length ca2,S C2 a.e.length cc2,.int I b.c.c0,.int I b.c.c1,.int I b.c.c2,.int I b.c.c3,S k b.c.l.length cb2,S m b.e.length cd2] 43));have f:Hid (Cls W w.heap.size (T2 a A ca C cc b B cb D cd)/\Cls W (w.heap.size+1) (T2 a g ca2 C2 cc2 b k cb2 m cd2)):=by have k1:=(Cls.new w #[.int I a.c.c0,.int I a.c.c1,.int I a.c.c2,.int I a.c.c3,S A a.c.l.length ca,S C a.e.length cc,.int I b.c.c0,.int I b.c.c1,.int I b.c.c2,.int I b.c.c3,S B b.c.l.length cb,S D b.e.length cd] 43).gr ((gR _).alloc (ia #[.int I a.c.c0,.int I a.c.c1,.int I a.c.c2,.int I a.c.c3,S g a.c.l.length ca2,S C2 a.e.length cc2,.int I b.c.c0,.int I b.c.c1,.int I b.c.c2,.int I b.c.c3,S k b.c.l.length cb2,S m b.e.length cd2] 43));have k2:=Cls.new (w.alloc (ia #[.int I a.c.c0,.int I a.c.c1,.int I a.c.c2,.int I a.c.c3,S A a.c.l.length ca,S C a.e.length cc,.int I b.c.c0,.int I b.c.c1,.int I b.c.c2,.int I b.c.c3,S B b.c.l.length cb,S D b.e.length cd] 43)) #[.int I a.c.c0,.int I a.c.c1,.int I a.c.c2,.int I a.c.c3,S g a.c.l.length ca2,S C2 a.e.length cc2,.int I b.c.c0,.int I b.c.c1,.int I b.c.c2,.int I b.c.c3,S k b.c.l.length cb2,S m b.e.length cd2] 43;rw[hW] at k1 k2;rw[show (w.alloc (ia #[.int I a.c.c0,.int I a.c.c1,.int I a.c.c2,.int I a.c.c3,S A a.c.l.length ca,S C a.e.length cc,.int I b.c.c0,.int I b.c.c1,.int I b.c.c2,.int I b.c.c3,S B b.c.l.length cb,S D b.e.length cd] 43)).heap.size=w.heap.size+1 by simp] at k2;exact ⟨k1,k2⟩
 have hg:Hid (Gr w W):=by show Gr w W;rw[<-hW];exact ((gR _).alloc _).alloc _
 have R:Hid (∀V,Gr w V->o J 34 #[ih (T6 a A ca C cc).toArray,ih (T6 a g ca2 C2 cc2).toArray] V fun e w'=>e= Y (.bool true)/\Gr V w'):=fun V h=>by have:=nS a a A C g C2 ca cc ca2 cc2 V u.1 u.1 u.2 u.2 (n.1.gr h) (r.1.gr h) (n.2.1.gr h) (r.2.1.gr h);rw[mu] at this;exact this
 have ad:Hid (∀V,Gr w V->o J 34 #[ih (T6 b B cb D cd).toArray,ih (T6 b k cb2 m cd2).toArray] V fun e w'=>e= Y (.bool true)/\Gr V w'):=fun V h=>by have:=nS b b B D k m cb cd cb2 cd2 V E.1 E.1 E.2 E.2 (n.2.2.1.gr h) (r.2.2.1.gr h) (n.2.2.2.gr h) (r.2.2.2.gr h);rw[mu] at this;exact this
 have x0:=f.out.1.cell (j:=0) rfl;have y0:=f.out.2.cell (j:=0) rfl;have x1:=f.out.1.cell (j:=1) rfl;have y1:=f.out.2.cell (j:=1) rfl;have x2:=f.out.1.cell (j:=2) rfl;have y2:=f.out.2.cell (j:=2) rfl;have x3:=f.out.1.cell (j:=3) rfl;have y3:=f.out.2.cell (j:=3) rfl;have x4:=f.out.1.cell (j:=4) rfl;have y4:=f.out.2.cell (j:=4) rfl;have x5:=f.out.1.cell (j:=5) rfl;have y5:=f.out.2.cell (j:=5) rfl;have x6:=f.out.1.cell (j:=6) rfl;have y6:=f.out.2.cell (j:=6) rfl;have x7:=f.out.1.cell (j:=7) rfl;have y7:=f.out.2.cell (j:=7) rfl;have x8:=f.out.1.cell (j:=8) rfl;have y8:=f.out.2.cell (j:=8) rfl;have x9:=f.out.1.cell (j:=9) rfl;have y9:=f.out.2.cell (j:=9) rfl;have ak:=f.out.1.cell (j:=10) rfl;have ao:=f.out.2.cell (j:=10) rfl;have an:=f.out.1.cell (j:=11) rfl;have ap:=f.out.2.cell (j:=11) rfl;clear n r u E;go_enter Tryz.func14,Tryz.ntmps14
 go_wp2_with (first
  | (go_at_call 34;(with_reducible refine cM (R.out _ hg.out) ?_);rintro e V ⟨rfl,F⟩;have hV:Hid (Gr W V):=F;have d:Cls V w.heap.size (T2 a A ca C cc b B cb D cd)/\Cls V (w.heap.size+1) (T2 a g ca2 C2 cc2 b k cb2 m cd2):=⟨f.out.1.gr F,f.out.2.gr F⟩;have x6:=d.1.cell (j:=6) rfl;have y6:=d.2.cell (j:=6) rfl;have x7:=d.1.cell (j:=7) rfl;have y7:=d.2.cell (j:=7) rfl;have x8:=d.1.cell (j:=8) rfl;have y8:=d.2.cell (j:=8) rfl;have x9:=d.1.cell (j:=9) rfl;have y9:=d.2.cell (j:=9) rfl;have ak:=d.1.cell (j:=10) rfl;have ao:=d.2.cell (j:=10) rfl;have an:=d.1.cell (j:=11) rfl;have ap:=d.2.cell (j:=11) rfl;clear F d)
  | (go_at_call 34;(with_reducible refine cM (ad.out _ (hg.out.trans hV.out)) ?_);rintro e V2 ⟨rfl,f2⟩;have ah:Hid (Gr w V2):=(hg.out.trans hV.out).trans f2;clear f2))
 go_ret;exact ⟨rfl,ah.out⟩
theorem yI (w:T) {id:Int} (h:inB id 0 3=false):o J 4 #[.int I id] w fun e w'=>e= Y (.tuple #[ib none,.int I 1])/\w'=w:=by
 have c:id<0\/4<=id:=by simp[inB] at h;omega
 rcases c with c|c
 ·go_enter Tryz.func4,Tryz.ntmps4;go_wp2;go_ret2;exact ⟨rfl,rfl⟩
 ·have d:¬id<0:=by omega
  go_enter Tryz.func4,Tryz.ntmps4;go_wp2;go_ret2;exact ⟨rfl,rfl⟩

theorem kw {t:Tab} {c:Ctx} (h:t.e.length<=maxLen):(bz t c).c.l.length<=maxLen/\(bz t c).e.length<=maxLen:=by
 unfold bz;by_cases f:bn t c=0
 ·rw[if_pos f];refine ⟨?_,nT (jN _ _) h⟩;show (woC t.c _).l.length<=maxLen;unfold woC;by_cases g:woE t.c (ag (bE c) t.e)=0
  ·rw[if_pos g];show (fv _ _).length<=maxLen;unfold fv;by_cases d:400<(bw t.c (e9 t.c (ag (bE c) t.e)) 4).length
   ·rw[if_pos d];decide
   ·rw[if_neg d];exact nT (Nat.le_of_not_lt d) (by decide)
  ·rw[if_neg g];decide
 ·rw[if_neg f];exact ⟨by decide,by decide⟩
theorem sl {t:Tab} (h:ay t=0):t.c.l.length<=maxLen/\t.e.length<=maxLen:=by have d:=(aY (af h).1).2.1;have f:=(af h).2.1;unfold maxLen;omega
theorem yY {s t:Tab} {c d:Ctx} (h:s.e.length<=maxLen) (f:t.e.length<=maxLen):((snS s t c d).c.l.length<=maxLen/\(snS s t c d).e.length<=maxLen)/\((snT s t c d).c.l.length<=maxLen/\(snT s t c d).e.length<=maxLen):=by
 unfold snS snT;split
 ·exact ⟨kw h,kw f⟩
 ·exact ⟨⟨nZ _,nZ _⟩,nZ _,nZ _⟩
structure Inv2 (w wr:T) (id:Int) (M:Nat) (v:Z) (s t:Tab) (Q:List Qs):Prop where
 nd:∃P,Nd wr w.heap.size 0 P id s t (Q.map Qs.q)/\¬P M/\∀g,v.ownBlock=some g->¬P g
 pe:∃K,Pr wr M K id s t v/\¬K w.heap.size/\∀g,v.ownBlock=some g->¬K g
 own:ae fh 1 44 wr (M+1) v Q
 each:∀x∈Q,StP (fun b=>b<w.heap.size) wr x.p x.q/\x.q.length<=maxLen
 bel:jb2 w wr
 lo:w.heap.size<M
 hi:M+1<=wr.heap.size
structure Inv1 (w wr:T) (id:Int) (M:Nat) (v:Z) (s t:Tab) (Q:List Qs) (s' t':Tab) (qs:List (List Stp)):Prop where
 nd:∃P,Nd wr w.heap.size 0 P id s' t' qs/\¬P M/\∀g,v.ownBlock=some g->¬P g
 pe:∃K,Pr wr M K id s t v/\¬K w.heap.size/\∀g,v.ownBlock=some g->¬K g
 own:ae fh 1 44 wr (M+1) v Q
 each:∀x∈Q,StP (fun b=>b<w.heap.size) wr x.p x.q/\x.q.length<=maxLen
 bel:jb2 w wr
 lo:w.heap.size<M
 hi:M+1<=wr.heap.size
section
variable {w wr w':T} {id:Int} {M:Nat} {v:Z} {s t s' t':Tab} {Q:List Qs} {qs:List (List Stp)}
theorem Inv2.below (h:Inv2 w wr id M v s t Q) (k:jb2 wr w'):Inv2 w w' id M v s t Q:=by obtain ⟨⟨P,u,C,D⟩,⟨K,m,n,r⟩,g,c,d,j,l⟩:=h;exact ⟨⟨P,u.below k,C,D⟩,⟨K,m.below k,n,r⟩,ae.below g k,fun x f=>⟨(c x f).1.below k,(c x f).2⟩,d.trans (k.mono d.size),j,nT l k.size⟩
theorem Inv2.ob (h:Inv2 w wr id M v s t Q):∀g,v.ownBlock=some g->M+1<=g/\g<wr.heap.size:=fun g c=>World.ownsRow.lt h.own g c
theorem Inv2.node (h:Inv2 w wr id M v s t Q) {P:Nat->Prop} (F:¬P M) (R:∀g,v.ownBlock=some g->¬P g) {lo hi:Nat} (k:Wr w.heap.size lo hi wr w') (u:Nd w' w.heap.size 0 (aj P wr.heap.size w'.heap.size) id s' t' qs):Inv1 w w' id M v s t Q s' t' qs:=by have C:=h.ob;obtain ⟨_,⟨K,D,j,E⟩,l,d,m,n,r⟩:=h;refine ⟨⟨_,u,cZ F (by omega),fun g c=>cZ (R g c) (C g c).2⟩,⟨K,D.keep (k.oth M (by omega) (by omega)) (k.agr j),j,E⟩,cP l (k.agr (by omega)),fun x f=>⟨(d x f).1.agr (k.agr (by omega)),(d x f).2⟩,?_,n,nT r k.size⟩;exact m.trans ⟨k.os,k.tape,k.output,k.size,fun g c=>k.oth g (by omega) (by omega)⟩
theorem Inv1.peer (h:Inv1 w wr id M v s t Q s' t' (Q.map Qs.q)) {K:Nat->Prop} (D:¬K w.heap.size) (E:∀g,v.ownBlock=some g->¬K g) {lo hi:Nat} (k:Wr M lo hi wr w') (C:Pr w' M (aj K wr.heap.size w'.heap.size) id s' t' v):Inv2 w w' id M v s' t' Q:=by obtain ⟨⟨P,F,l,R⟩,_,d,f,m,n,r⟩:=h;have u:=fun g c=>World.ownsRow.lt d g c;refine ⟨⟨P,F.keep (k.oth w.heap.size (by omega) (by omega)) (k.agr l),l,R⟩,⟨_,C,cZ D (by omega),fun g c=>cZ (E g c) (u g c).2⟩,cP d (k.agr (by omega)),fun x j=>⟨(f x j).1.agr (k.agr (by omega)),(f x j).2⟩,?_,n,nT r k.size⟩;exact m.trans ⟨k.os,k.tape,k.output,k.size,fun g c=>k.oth g (by omega) (by omega)⟩
theorem Inv1.watch {x:Qs} {n:Z} (h:Inv1 w wr id M v s t Q s t (wtQ x.q (Q.map Qs.q))) (hx:StP (fun b=>b<w.heap.size) wr x.p x.q/\x.q.length<=maxLen) (m:Agr (fun b=>b≠M/\v.ownBlock≠some b) wr w') (hB:∀B,B<=M->B<=M+1->Below B wr w') (E:∀g,n.ownBlock=some g->v.ownBlock=some g\/wr.heap.size<=g) (ho:ae fh 1 44 w' (M+1) n (wtL x Q)) {K:Nat->Prop} (k1:Pr wr M K id s t v) (k2:¬K w.heap.size) (k3:∀g,v.ownBlock=some g->¬K g) (hp:Pr w' M K id s t n):Inv2 w w' id M n s t (wtL x Q):=by
 obtain ⟨⟨P,u,F,R⟩,_,h3,C,h5,D,h7⟩:=h;have r:=fun g l=>World.ownsRow.lt h3 g l;have f:∀b,b<M->b≠M/\v.ownBlock≠some b:=fun b d=>⟨by omega,fun e=>by have:=(r b e).1;omega⟩;have hK:∀b,K b->b<wr.heap.size:=by obtain ⟨_,_,_,_,_,_,_,_,_,_,_,_,k⟩:=k1;exact k
 have c:∀y:Qs,StP (fun b=>b<w.heap.size) wr y.p y.q/\y.q.length<=maxLen->StP (fun b=>b<w.heap.size) w' y.p y.q/\y.q.length<=maxLen:=fun y j=>⟨j.1.agr (m.mono fun b d=>f b (by omega)),j.2⟩;refine ⟨⟨P,?_,F,fun g l d=> ?_⟩,⟨K,hp,k2,fun g l d=> ?_⟩,ho,fun y j=> ?_,h5.trans (hB _ (by omega) (by omega)),D,nT h7 m.size⟩
 ·rw[Bd];exact u.keep (m.block _ (f _ D) u.blk.lt) (m.mono fun b d=>⟨fun e=>F (e▸d),fun e=>R b e d⟩)
 ·rcases E g l with e|e
  ·exact R g e d
  ·have:=u.up g d;omega
 ·rcases E g l with e|e
  ·exact k3 g e d
  ·have:=hK g d;omega
 ·unfold wtL at j;split at j
  ·rcases List.mem_append.1 j with e|e
   ·exact c y (C y e)
   ·rw[List.mem_singleton.1 e];exact c x hx
  ·exact c y (C y j)
end
def uA (f g:FuncId) (a:Z) (w wr:T) (id:Int) (M:Nat) (v:Z) (s t:Tab) (Q:List Qs) (X:Nat) (L:List Z):Prop:=∃(E:Int) (s' t':Tab) (qs:List (List Stp)),o J f #[ib (some ⟨w.heap.size,0,none⟩),a] wr (fun e w'=>e= Y (.int I E)/\Inv1 w w' id M v s t Q s' t' qs/\Cls w' X L)/\∀W,Inv1 w W id M v s t Q s' t' qs->Cls W X L->o J g #[ib (some ⟨M,0,none⟩),a] W fun e w'=>e= Y (.int I E)/\(∃(v':Z) (Q':List Qs),Inv2 w w' id M v' s' t' Q')/\Cls w' X L
section
variable {w wr w':T} {id:Int} {M X:Nat} {v:Z} {s t:Tab} {Q:List Qs} {L:List Z}
theorem zy (h:Inv2 w wr id M v s t Q) (k:Cls wr X L) (E:M<X) (c x2 x3 x4 x5:Int):uA 6 7 (ih #[.int I c,.int I x2,.int I x3,.int I x4,.int I x5]) w wr id M v s t Q X L:=by
 obtain ⟨P,u,C,D⟩:=h.nd;have l:=h.lo;refine ⟨ndE s t id c x2 x3 x4 x5,ndS s id c x2 x3 x4 x5,ndT t id c x2 x3 x4 x5,Q.map Qs.q,(zX u c x2 x3 x4 x5).mono ?_,fun W j g=> ?_⟩
 ·rintro e w' ⟨rfl,f,d⟩;exact ⟨rfl,h.node C D d f,k.keep (d.oth X k.lt (by omega))⟩
 ·obtain ⟨K,m,n,r⟩:=j.pe;refine (yO m c x2 x3 x4 x5).mono ?_;rintro e w' ⟨rfl,f,d⟩;exact ⟨rfl,⟨v,Q,j.peer n r d f⟩,g.keep (d.oth X g.lt (by omega))⟩
theorem uB (h:Inv2 w wr id M v s t Q) (R:Cls wr X L) (hM:M<X) (a b:Tab) (m n u C:Option U) (d f g j:Nat) (ra:Row w m a.c.l) (rc:av w u a.e) (rb:Row w n b.c.l) (rd:av w C b.e) (la:a.c.l.length<=maxLen) (lc:a.e.length<=maxLen) (lb:b.c.l.length<=maxLen) (ld:b.e.length<=maxLen) (na:m=none->d=0) (nb:n=none->f=0):uA 8 9 (ih (T2 a m d u g b n f C j).toArray) w wr id M v s t Q X L:=by
 obtain ⟨P,p1,p2,p3⟩:=h.nd;have ad:=h.lo;have k:=h.bel;refine ⟨tkE s t a b,tkS s t a b,tkT s t a b,Q.map Qs.q,(xD p1 a b m n u C d f g j (ra.below k) (rc.below k) (rb.below k) (rd.below k) la lc lb ld na nb).mono ?_,fun W E F=> ?_⟩
 ·rintro e w' ⟨rfl,D,r⟩;exact ⟨rfl,h.node p2 p3 r D,R.keep (r.oth X R.lt (by omega))⟩
 ·obtain ⟨K,k1,k2,k3⟩:=E.pe;have k:=E.bel;refine (tT k1 a b m n u C d f g j (ra.below k) (rc.below k) (rb.below k) (rd.below k) la lc lb ld na nb).mono ?_;rintro e w' ⟨rfl,D,r⟩;exact ⟨rfl,⟨v,Q,E.peer k2 k3 r D⟩,F.keep (r.oth X F.lt (by omega))⟩
theorem sG (h:Inv2 w wr id M v s t Q) (D:Cls wr X L) (hM:M<X) (hv:∀g,v.ownBlock=some g->g≠X) (x:Qs) (n:x.q.length<=maxLen) (f:Stps w x.p x.q):uA 10 11 (S x.p x.q.length x.c) w wr id M v s t Q X L:=by
 obtain ⟨P,R,p2,p3⟩:=h.nd;have ad:=h.lo;have h4:Q.length<=4:=by simpa using R.le
 have hx:∀W,jb2 w W->StP (fun b=>b<w.heap.size) W x.p x.q:=fun W k=>⟨f.below k,fun a m r=>f.row.lt a m r,fun y hy a m r=>(f.each y hy).1.lt a m r⟩;refine ⟨wtE x.q (Q.map Qs.q),s,t,wtQ x.q (Q.map Qs.q),(uv R x.q x.p x.c n (f.below h.bel)).mono ?_,fun W d C=> ?_⟩
 ·rintro e w' ⟨rfl,l,j⟩;exact ⟨rfl,h.node p2 p3 j l,D.keep (j.oth X D.lt (by omega))⟩
 ·obtain ⟨K,E,k2,F⟩:=d.pe;refine (rI E d.own (Nat.lt_succ_self M) d.hi F h4 x n (f.below d.bel)).mono ?_;rintro e w' ⟨rfl,v',l,j,f3,u,f5⟩;exact ⟨rfl,⟨v',wtL x Q,d.watch ⟨hx W d.bel,n⟩ u f5 f3 j E k2 F l⟩,C.keep (u.block X ⟨by omega,fun e=>hv X e rfl⟩ C.lt)⟩
end
theorem kT {w:T} {d n c:Nat} {A:Option U} {l:List (Int×Int)} (h:Own w d (S A n c) l):Row w A l:=by obtain ⟨g,j,e,_,f,_⟩:=h.row;injection e with e1 _ _;rw[e1];exact f
theorem sq {w:T} {d n c:Nat} {A:Option U} {l:List Cel} (h:cL w d (S A n c) l):av w A l:=by obtain ⟨g,j,e,_,f,_⟩:=ae.row cO h;injection e with e1 _ _;rw[e1];exact f
section
variable {w wr W:T} {id:Int} {M:Nat} {v:Z} {s t:Tab} {Q:List Qs}
theorem Inv2.views (h:Inv2 w wr id M v s t Q) (k:jb2 wr W):o J 15 #[ib (jb4 w.heap.size 0)] W fun e w'=>e= Y (.int I (Q.length:Int))/\w'=W:=by obtain ⟨P,c,_⟩:=h.nd;have:=ut (c.below k);rw[List.length_map] at this;exact this
theorem Inv2.whole (h:Inv2 w wr id M v s t Q) (k:jb2 wr W):o J 16 #[ib (jb4 w.heap.size 0)] W fun e w'=>∃(m:Option U) (d:Nat) (r:Option U) (g:Nat) (n:Option U) (f:Nat) (u:Option U) (j:Nat),e= Y (ih (T2 s m d r g t n f u j).toArray)/\(Row w' m s.c.l/\av w' r s.e/\Row w' n t.c.l/\av w' u t.e)/\jb2 W w':=by obtain ⟨P,F,_⟩:=h.nd;refine (ux (F.below k)).mono ?_;rintro e w' ⟨m,d,r,g,n,f,u,j,rfl,C,D,E⟩;exact ⟨_,_,_,_,_,_,_,_,rfl,⟨kT C.1,sq C.2,kT D.1,sq D.2⟩,E⟩
theorem Inv2.seen (h:Inv2 w wr id M v s t Q) (k:jb2 wr W):o J 17 #[ib (jb4 w.heap.size 0)] W fun e w'=>∃(g:Option U) (d:Nat) (j:Option U) (f:Nat),e= Y (ih #[.int I s.c.c0,.int I s.c.c1,.int I s.c.c2,.int I s.c.c3,S g s.c.l.length d,.int I t.c.c0,.int I t.c.c1,.int I t.c.c2,.int I t.c.c3,S j t.c.l.length f])/\(Row w' g s.c.l/\Row w' j t.c.l)/\jb2 W w':=by obtain ⟨P,u,_⟩:=h.nd;refine (xo (u.below k)).mono ?_;rintro e w' ⟨g,d,j,f,rfl,m,n,r⟩;exact ⟨_,_,_,_,rfl,⟨kT m,kT n⟩,r⟩
theorem Inv2.mem (h:Inv2 w wr id M v s t Q):∃A ca C f B cb D g V d,v= S V Q.length d/\Cls wr M (iS id s A ca C f t B cb D g (S V Q.length d))/\Row wr A s.c.l/\av wr C s.e/\Row wr B t.c.l/\av wr D t.e:=by obtain ⟨K,⟨A,ca,C,f,B,cb,D,g,m,j,k,_⟩,_⟩:=h.pe;obtain ⟨V,d,rfl,_⟩:=ae.row gi h.own;exact ⟨A,ca,C,f,B,cb,D,g,V,d,rfl,m,j.row,j.cel,k.row,k.cel⟩
theorem Inv2.lens (h:Inv2 w wr id M v s t Q):(s.c.l.length<=maxLen/\s.e.length<=maxLen)/\(t.c.l.length<=maxLen/\t.e.length<=maxLen):=by obtain ⟨P,d,_⟩:=h.nd;exact ⟨sl d.ts.ok,sl d.tt.ok⟩
theorem Inv2.le (h:Inv2 w wr id M v s t Q):Q.length<=4:=by obtain ⟨P,c,_⟩:=h.nd;simpa using c.le
theorem Inv2.view (h:Inv2 w wr id M v s t Q) (ht:fC w) {j:Nat} (hj:j<=Q.length):∃(E:Int) (F:List Zit),(∀W,jb2 wr W->o J 19 #[ib (jb4 w.heap.size 0),.int I j] W fun e w'=>∃(L:List Itm) (C:Option U) (k:Nat),e= Y (.tuple #[S C L.length k,.int I E])/\L.map Itm.z=F/\Lv w' C k L/\jb2 W w')/\∀W,jb2 wr W->o J 20 #[ib (jb4 M 0),.int I j] W fun e w'=>∃(L:List Itm) (C:Option U) (k:Nat),e= Y (.tuple #[S C L.length k,.int I E])/\L.map Itm.z=F/\Lv w' C k L/\jb2 W w':=by
 obtain ⟨P,g,_⟩:=h.nd;obtain ⟨K,r,_⟩:=h.pe;obtain ⟨V,cv,rfl,_,hr,_⟩:=ae.row gi h.own;have l:Q.length<=4:=by simpa using g.le
 by_cases d:j<Q.length
 ·have f:j<(Q.map Qs.q).length:=by simpa using d
  have n:=h.each _ (gM d);refine ⟨ct Q[j].q (ofR s) (ofR t),el Q[j].q (ofR s) (ofR t),fun W k=> ?_,fun W k=> ?_⟩
  ·have:=xK (g.below k) f;rw[List.getElem_map] at this;refine this.mono ?_;rintro e w' ⟨L,C,c,rfl,u,D,R,_⟩;exact ⟨L,C,c,rfl,u,D,R⟩
  ·exact tV (r.below k) (hr.below k) l d (n.1.st.below k) n.2 (ht.below (h.bel.trans (k.mono h.bel.size)))
 ·have m:∀W,Lv W none 0 []:=fun W=>⟨⟨oL rfl,fun x hx=>(by cases hx)⟩,dC.mk (fun _=>rfl) (nZ _),nZ _⟩;refine ⟨4,[],fun W k=> ?_,fun W k=> ?_⟩
  ·refine (us (g.below k) (oR (by simp;omega))).mono ?_;rintro e w' ⟨rfl,rfl⟩;exact ⟨[],none,0,rfl,rfl,m _,bR _ _⟩
  ·refine (rH (r.below k) (oR (by omega)) l).mono ?_;rintro e w' ⟨rfl,rfl⟩;exact ⟨[],none,0,rfl,rfl,m _,bR _ _⟩
end
end Go.Proofs.YtbkjgjjpnfhkhaaGreatDoor
