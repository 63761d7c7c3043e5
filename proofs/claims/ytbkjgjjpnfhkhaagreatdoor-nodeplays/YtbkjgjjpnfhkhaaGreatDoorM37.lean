import Derived.Test.YtbkjgjjpnfhkhaaGreatDoorM36
set_option maxRecDepth 100000
set_option maxHeartbeats 8000000
open Go renaming Addr → N, World → ia, Calls → ib, Value → iv
open Go.Ending renaming returned → Y
open Go.IntKind renaming i64 → O
open Go.Obj renaming cells → H
open Go.Proofs.Tryz renaming prog → X
open Go.RowKit renaming Hid → Z, Below → U
open Go.Value renaming slice → I, int → J, tuple → ix, bool → kc, pointer → kf
namespace Go.Proofs.YtbkjgjjpnfhkhaaGreatDoor
open Go.RowKit Go.Sort

theorem sm {n:Int} (h:okN n=true):I64 n:=by simp only[okN,inB,Bool.and_eq_true,decide_eq_true_eq] at h;exact ⟨by omega,by omega⟩
theorem kQ {r:List Int} (h:okR r=true):r.length<=8/\∀n∈r,I64 n:=by simp only[okR,Bool.and_eq_true,decide_eq_true_eq] at h;exact ⟨h.1,fun n c=>sm (List.all_eq_true.1 h.2 n c)⟩
theorem kR {n:Int} (h:okW n=true): -1048576<=n/\n<=1048576:=by simpa[okW,inB] using h
def WdZ (m:List Zit):Prop:=m.length<=400000/\∀x∈m,(x.1.length<=100/\∀n∈x.1,I64 n)/\ -2199023255552<=x.2/\x.2<=2199023255552
theorem WdZ.wd {L:List Itm} (h:WdZ (L.map Itm.z)):Wd L :=
 ⟨by have:=h.1;rwa [List.length_map] at this,fun x c=>(h.2 x.z (List.mem_map.2 ⟨x,c,rfl⟩)).1,fun x c=>(h.2 x.z (List.mem_map.2 ⟨x,c,rfl⟩)).2⟩
theorem mw {l:List Zit} (e:am l=0):l.length<=400/\∀x∈l,okR x.1=true/\okW x.2=true:=by obtain ⟨f,c,_⟩:=(aQ l).1 e;exact ⟨f,fun x d=>⟨(bg (c x d)).1,(bg (c x d)).2.1⟩⟩
theorem jZ {m:List Zit} (d:m.length<=400000) (h:∀x∈m,okR x.1=true/\okW x.2=true):WdZ m :=
 ⟨d,fun x c=>⟨⟨by have:=(kQ (h x c).1).1;omega,(kQ (h x c).1).2⟩,by have:=kR (h x c).2;omega,by have:=kR (h x c).2;omega⟩⟩
theorem wR (a b:List Zit) (c v:Int):(aP a b c v).length<=a.length*b.length:=by
 induction a with
 | nil=>simp[aP]
 | cons x a ih =>
  have d:=List.length_filter_le (fun y:Zit=>decide (atI y.1 v=atI x.1 c)) b
  have e:aP (x::a) b c v=((b.filter fun y=>decide (atI y.1 v=atI x.1 c)).map fun y=>(x.1++y.1,x.2*y.2))++aP a b c v:=rfl
  rw[e,List.length_append,List.length_map,List.length_cons,Nat.succ_mul]
  omega
theorem ze {l:List Zit} (d:l.length<=400) (h:∀x∈l,okR x.1=true/\okW x.2=true):I64 (aV l):=by have:=gV (l:=l) fun x c=>(h x c).2;exact ⟨by omega,by omega⟩
theorem B7 {l:List Zit} (v:Int) (c:l.length<=400) (h:∀x∈l,okR x.1=true/\okW x.2=true):I64 (bq v l):=by have:=my (l:=l) (v:=v) h;exact ⟨by omega,by omega⟩
theorem sE {f:Int×List Zit->Option Zit} {a:List Zit} {c:Int} (F:a.length<=400) (u:∀x∈a,okR x.1=true) (C:∀d z,f (d,ofK a c d)=some z->z.2=1/\∃n,z.1=[d,n]/\I64 n):WdZ ((gp a c).filterMap fun d=>f (d,ofK a c d)):=by
 have R:(gp a c).length<=a.length:=by unfold gp;have:=di (a.map fun x=>atI x.1 c);rwa [List.length_map] at this
 refine ⟨by have:=List.length_filterMap_le (fun d=>f (d,ofK a c d)) (gp a c);omega,fun z E=> ?_⟩;obtain ⟨d,g,e⟩:=List.mem_filterMap.1 E;obtain ⟨j,n,k,l⟩:=C d z e;have r:I64 d:=by unfold gp at g;rw[(eL _).2] at g;obtain ⟨x,D,rfl⟩:=List.mem_map.1 g;exact sm (mi (u x D))
 rw[j,k];refine ⟨⟨by simp,fun m h=> ?_⟩,by decide,by decide⟩;simp only[List.mem_cons,List.not_mem_nil,or_false] at h;rcases h with rfl|rfl
 ·exact r
 ·exact l
theorem kP {a:List Zit} (d:a.length<=400) (h:∀x∈a,okR x.1=true/\okW x.2=true) (c key:Int):(ofK a c key).length<=400/\∀x∈ofK a c key,okR x.1=true/\okW x.2=true :=
 ⟨nT (List.length_filter_le _ _) d,fun x f=>h x (List.mem_filter.1 f).1⟩
theorem yD {s:Stp} {E:List Int} (h:aB s E≠0) (C:s.k≠1) {a b:List Zit} (F:am a=0) (R:am b=0):WdZ (cI s a b):=by
 obtain ⟨m,g⟩:=mw F;obtain ⟨lb,ob⟩:=mw R;rcases kinds h with k|k|k|k|k|k|k|k|k
 ·exact absurd k C
 ·have:WdZ (bM a s.c s.o s.v):=jZ (by have:=List.length_filter_le (fun x:Zit=>toB (atI x.1 s.c) s.o s.v) a;unfold bM;omega) fun x f=>g x (List.mem_filter.1 f).1;simpa[cI,k] using this
 ·have hp:=(rC h k).2.1;have:WdZ (dj a s.l):=jZ (by unfold dj;rw[List.length_map];omega) fun x f=>by obtain ⟨y,j,rfl⟩:=List.mem_map.1 f;exact ⟨qc hp (g y j).1,(g y j).2⟩
  simpa[cI,k] using this
 ·have:WdZ (aP a b s.c s.v):=by
   refine ⟨by have h1:=wR a b s.c s.v;have D:a.length*b.length<=400*400:=Nat.mul_le_mul m lb;omega,fun x f=> ?_⟩;unfold aP at f;obtain ⟨y,j,D⟩:=List.mem_flatMap.1 f;obtain ⟨z,hz,rfl⟩:=List.mem_map.1 D;have r:=g y j;have u:=ob z (List.mem_filter.1 hz).1;have r1:=kQ r.1;have r2:=kQ u.1;have hm: -1099511627776<=y.2*z.2/\y.2*z.2<=1099511627776:=by
    have w1:=kR r.2;have w2:=kR u.2;have h3:(y.2*z.2).natAbs<=1048576*1048576:=by rw[Int.natAbs_mul];exact Nat.mul_le_mul (by omega) (by omega)
    omega
   refine ⟨⟨by rw[List.length_append];omega,fun n hn=> ?_⟩,by show _<=y.2*z.2;omega,by show y.2*z.2<=_;omega⟩;rcases List.mem_append.1 hn with e|e
   ·exact r1.2 n e
   ·exact r2.2 n e
  simpa[cI,k] using this
 ·have:WdZ (a++b):=jZ (by rw[List.length_append];omega) fun x f=>(List.mem_append.1 f).elim (g x) (ob x);simpa[cI,k] using this
 ·have:WdZ (a++cW b):=jZ (by unfold cW;rw[List.length_append,List.length_map];omega) fun x f=>by
   rcases List.mem_append.1 f with e|e
   ·exact g x e
   ·obtain ⟨y,j,rfl⟩:=List.mem_map.1 e;exact ⟨(ob y j).1,by rw[sn];exact (ob y j).2⟩
  simpa[cI,k] using this
 ·have:WdZ (de a):=jZ (by have:=List.length_filter_le (fun x:Zit=>decide (0<x.2)) a;unfold de;rw[List.length_map];omega) fun x f=>by obtain ⟨y,j,rfl⟩:=List.mem_map.1 f;exact ⟨(g y (List.mem_filter.1 j).1).1,rfl⟩
  simpa[cI,k] using this
 ·have:WdZ ((gp a s.c).filterMap fun d=>gE (d,ofK a s.c d)):=sE m (fun x f=>(g x f).1) fun d z e=>by
   unfold gE at e;split at e
   ·cases e
   ·injection e with e;subst e;exact ⟨rfl,_,rfl,ze (kP m g s.c d).1 (kP m g s.c d).2⟩
  simpa[cI,k] using this
 ·have:WdZ ((gp a s.c).filterMap fun d=>gT s.v (d,ofK a s.c d)):=sE m (fun x f=>(g x f).1) fun d z e=>by
   unfold gT at e;split at e
   ·cases e
   ·injection e with e;subst e;exact ⟨rfl,_,rfl,B7 s.v (kP m g s.c d).1 (kP m g s.c d).2⟩
  simpa[cI,k] using this

theorem fU {l:List Itm} {n c:Int} (d:cQ n (l.map Itm.z)) (h:inB c 0 (n-1)=true):∀x∈l,inB c 0 ((x.r.length:Int)-1)=true:=fun x f=>by
 have:=d x.z (List.mem_map.2 ⟨x,f,rfl⟩)
 have e:(x.r.length:Int)=n:=this
 rw[e];exact h
theorem vK {l:List Itm} (e:am (l.map Itm.z)=0):l.length<=400/\∀x∈l,okR x.r=true/\okW x.n=true:=by obtain ⟨c,d⟩:=mw e;exact ⟨by rwa [List.length_map] at c,fun x f=>d x.z (List.mem_map.2 ⟨x,f,rfl⟩)⟩
theorem AX {s:Stp} {c:List Int} (h:aB s c≠0) (k:s.k=8):s.v=0:=by rw[xM k] at h;obtain ⟨d,_⟩:=bW h;simp only[Bool.and_eq_true,decide_eq_true_eq] at d;omega

theorem vW {s:Stp} {D:List Int} (h:aB s D≠0) (u:s.k≠1) (a b:List Itm) (A B:Option N) (ca cb:Nat) (w:ia) (F:aq w s.p s.l) (f:Lv w A ca a) (E:Lv w B cb b) (ea:am (a.map Itm.z)=0) (eb:am (b.map Itm.z)=0) (j:cQ (D.getD s.a.toNat 0) (a.map Itm.z)) (wb:cQ (D.getD s.b.toNat 0) (b.map Itm.z)) :
  ib X 74 #[.agg #[J O s.k,J O s.a,J O s.b,J O s.c,J O s.o,J O s.v,I s.p s.l.length s.n],I A a.length ca,I B b.length cb] w fun e w'=>∃(L:List Itm) (C:Option N) (k:Nat),e= Y (I C L.length k)/\L.map Itm.z=cI s (a.map Itm.z) (b.map Itm.z)/\Items w' C L/\jb2 w w'/\Wd L:=by
 obtain ⟨g,oa⟩:=vK ea;obtain ⟨lb,ob⟩:=vK eb;have fin:∀ {m:List Zit},cI s (a.map Itm.z) (b.map Itm.z)=m->∀ {e:Ending} {w':ia},(∃(L:List Itm) (C:Option N) (k:Nat),e= Y (I C L.length k)/\L.map Itm.z=m/\Items w' C L/\jb2 w w')->∃(L:List Itm) (C:Option N) (k:Nat),e= Y (I C L.length k)/\L.map Itm.z=cI s (a.map Itm.z) (b.map Itm.z)/\Items w' C L/\jb2 w w'/\Wd L:=by rintro m hm e w' ⟨L,C,k,h1,h2,h3,h4⟩;exact ⟨L,C,k,h1,h2.trans hm.symm,h3,h4,WdZ.wd (by rw[h2,<-hm];exact yD h u ea eb)⟩
 rcases kinds h with k|k|k|k|k|k|k|k|k
 ·exact absurd k u
 ·obtain ⟨_,r,d,_⟩:=tM h k;have ho:s.o=1\/s.o=2\/s.o=3:=by simp only[inB,Bool.and_eq_true,decide_eq_true_eq] at r;omega
  rcases ho with o|o|o
  ·exact (rt 1 (oL rfl) s a b A B ca cb w k g f.items o (fU j d)).mono fun _ _=>fin (by simp[cI,k,o])
  ·exact (rt 2 (oR (oL rfl)) s a b A B ca cb w k g f.items o (fU j d)).mono fun _ _=>fin (by simp[cI,k,o])
  ·exact (rt 3 (oR (oR rfl)) s a b A B ca cb w k g f.items o (fU j d)).mono fun _ _=>fin (by simp[cI,k,o])
 ·obtain ⟨_,r,d,_⟩:=rC h k;exact (AK s a b A B ca cb w k g f.items r F (fun x R c hc=>fU j (d c hc) x R)).mono fun _ _=>fin (by simp[cI,k])
 ·obtain ⟨_,_,d,p4,_⟩:=rD h k;exact (AL s a b A B ca cb w k g f.items lb E.items (fU j p4) (fU wb d) oa ob).mono fun _ _=>fin (by simp[cI,k])
 ·exact (AN s a b A B ca cb w k g f.items E lb).mono fun _ _=>fin (by simp[cI,k])
 ·exact (AO s a b A B ca cb w k g f.items E lb (fun x R=>(ob x R).2)).mono fun _ _=>fin (by simp[cI,k])
 ·exact (AP s a b A B ca cb w k g f.items).mono fun _ _=>fin (by simp[cI,k])
 ·obtain ⟨_,r,_⟩:=tN h k;have hv:=AX h k;have d:inB s.v 0 ((D.getD s.a.toNat 0)-1)=true:=by simp only[inB,Bool.and_eq_true,decide_eq_true_eq] at r ⊢;omega
  exact (vV 8 gE s a b A B ca cb w k (oL ⟨rfl,rfl⟩) g f.items (fU j r) (fU j d) oa).mono fun _ _=>fin (by simp[cI,k])
 ·obtain ⟨_,r,d,_⟩:=tO h k;exact (vV 9 (gT s.v) s a b A B ca cb w k (oR ⟨rfl,rfl⟩) g f.items (fU j d) (fU j r) oa).mono fun _ _=>fin (by simp[cI,k])

theorem lP {n lo hi:Int} {w:ia} {Q:Ending->ia->Prop} (c:inB n lo hi=false->Q (Y (kc false)) w) (d:inB n lo hi=true->Q (Y (kc true)) w):ib X 5 #[J O n,J O lo,J O hi] w Q:=by
 refine cM (s9 n lo hi w) ?_;rintro e w' ⟨rfl,rfl⟩;cases h:inB n lo hi
 ·exact c h
 ·exact d h
theorem dzB (x:Int):decide (x=0)= !(x != 0):=by by_cases h:x=0<;>simp[h]
theorem emB (l:List Int):l.isEmpty= !((l.length:Int) != 0):=by
 cases l with
 | nil=>rfl
 | cons x l=>rw[show (((x::l).length:Int) != 0)=true from by simp;omega];rfl

theorem mM (q:List Stp) (A:Option N) (ca:Nat) (w:ia) (hl:q.length<=8) (hq:Stps w A q) :
  ib X 65 #[I A q.length ca] w fun e w'=>∃(C:Option N) (c:Nat),e= Y (ix #[I C ((bT q []).getD []).length c,kc (bT q []).isSome])/\aq w' C ((bT q []).getD [])/\(C=none->c=0)/\U w.heap.size w w':=by
 have b7:Tryz.prog.follows .mixedOrders=true:=by kernel_rfl
 have cm:=ja1 hq;clear hq;go_enter Tryz.func65,Tryz.ntmps65;go_wp2;go_loopw [4,5] (fun v i wr=>∃(j:Nat) (u:List Int),j<=q.length/\i= J O j/\Z (u.length=j/\(∀x∈u,1<=x/\x<=8)/\bT q []=bT (q.drop j) u)/\Z (dD wr w.heap.size v u/\U w.heap.size w wr)) (fun _ i _=>q.length-(intOf i).toNat);exact ⟨0,[],by omega,rfl,⟨rfl,(fun x hx=>by cases hx),by simp⟩,ae.nil _ _ _ _ _,bR _ _⟩;obtain ⟨j,u,hj,rfl,ap,ak⟩:=hrel;by_cases bt:j<q.length
 ·have cd:(j:Int)<(q.length:Int):=by omega
  have hI:=ja1 (cm.out.below ak.out.2);obtain ⟨bb,a7,rfl,hb,ad⟩:=hI.out.at bt;obtain ⟨s,hs⟩:=jb0 (q[j]);have ce:Z (aq wr s.p s.l/\s.l.length<=maxLen):=⟨(hI.out.each s (by rw[<-hs];exact gM bt)).1,(hI.out.each s (by rw[<-hs];exact gM bt)).2.1⟩;rw[hs] at ad;have m0:jb1 wr bb (a7+j*7) (J O s.k):=ad 0 (by omega);have m1:jb1 wr bb (a7+j*7+1) (J O s.a):=ad 1 (by omega);have m2:jb1 wr bb (a7+j*7+2) (J O s.b):=ad 2 (by omega);have m3:jb1 wr bb (a7+j*7+3) (J O s.c):=ad 3 (by omega);have m4:jb1 wr bb (a7+j*7+4) (J O s.o):=ad 4 (by omega);have m5:jb1 wr bb (a7+j*7+5) (J O s.v):=ad 5 (by omega);have m6:jb1 wr bb (a7+j*7+6) (I s.p s.l.length s.n):=ad 6 (by omega);have a6:Z (bT q []=if aB s u=0 then none else bT (q.drop (j+1)) (u++[aB s u])):=by show _=_;rw[ap.out.2.2,List.drop_eq_getElem_cons bt,hs];rfl
  have bo:Z (aB s u=0->(bT q []).isSome=false/\(bT q []).getD []=[]):=fun h=>by rw[a6.out,if_pos h];exact ⟨rfl,rfl⟩
  have cf:Z (0<=aB s u/\aB s u<=8):=rQ s (fun x hx=>⟨by have:=(ap.out.2.1 x hx).1;omega,(ap.out.2.1 x hx).2⟩);obtain ⟨G,gc,rfl,hG,a0,bl⟩:=ae.row bI ak.out.1;have bd:Gr wr (wr.alloc (H #[J O s.k,J O s.a,J O s.b,J O s.c,J O s.o,J O s.v,I s.p s.l.length s.n] 132)):=(gR wr).alloc _;have a5:=ja1 (a0.gr bd);have E:=ja1 (ak.out.2.trans (bd.below.mono ak.out.2.size));have an:u.length=j:=ap.out.1;have c0:jb1 (wr.alloc (H #[J O s.k,J O s.a,J O s.b,J O s.c,J O s.o,J O s.v,I s.p s.l.length s.n] 132)) wr.heap.size 0 (J O s.k):=ab (gR _) rfl;have c1:jb1 (wr.alloc (H #[J O s.k,J O s.a,J O s.b,J O s.c,J O s.o,J O s.v,I s.p s.l.length s.n] 132)) wr.heap.size 1 (J O s.a):=ab (gR _) rfl;have c2:jb1 (wr.alloc (H #[J O s.k,J O s.a,J O s.b,J O s.c,J O s.o,J O s.v,I s.p s.l.length s.n] 132)) wr.heap.size 2 (J O s.b):=ab (gR _) rfl;have c3:jb1 (wr.alloc (H #[J O s.k,J O s.a,J O s.b,J O s.c,J O s.o,J O s.v,I s.p s.l.length s.n] 132)) wr.heap.size 3 (J O s.c):=ab (gR _) rfl;have c4:jb1 (wr.alloc (H #[J O s.k,J O s.a,J O s.b,J O s.c,J O s.o,J O s.v,I s.p s.l.length s.n] 132)) wr.heap.size 4 (J O s.o):=ab (gR _) rfl;have c5:jb1 (wr.alloc (H #[J O s.k,J O s.a,J O s.b,J O s.c,J O s.o,J O s.v,I s.p s.l.length s.n] 132)) wr.heap.size 5 (J O s.v):=ab (gR _) rfl;have c6:jb1 (wr.alloc (H #[J O s.k,J O s.a,J O s.b,J O s.c,J O s.o,J O s.v,I s.p s.l.length s.n] 132)) wr.heap.size 6 (I s.p s.l.length s.n):=ab (gR _) rfl;have hX:Z (∀W,U w.heap.size w W->aB s u=0->∃(C:Option N) (c:Nat),Ending.returned (ix #[I none 0 0,kc false])= Y (ix #[I C ((bT q []).getD []).length c,kc (bT q []).isSome])/\aq W C ((bT q []).getD [])/\(C=none->c=0)/\U w.heap.size w W):=fun W k h=>by have f:=bo.out h;exact ⟨none,0,by rw[f.1,f.2];rfl,by rw[f.2];exact oL rfl,fun _=>rfl,k⟩
  have hN:Z (1<=aB s u->(u++[aB s u]).length=j+1/\(∀x∈u++[aB s u],1<=x/\x<=8)/\bT q []=bT (q.drop (j+1)) (u++[aB s u])):=fun h=>by
   have h9:=a6.out;rw[if_neg (by omega)] at h9;refine ⟨by simp[an],fun x hx=> ?_,h9⟩;rcases List.mem_append.1 hx with e|e
   ·exact ap.out.2.1 x e
   ·rw[List.mem_singleton.1 e];exact ⟨h,cf.out.2⟩
  have hO:Z (∀W,Gr wr W->U w.heap.size w W->dD (W.alloc (H #[J O (aB s u)] 3)) w.heap.size (I G j gc) u/\aq (W.alloc (H #[J O (aB s u)] 3)) (jb4 W.heap.size 0) [aB s u]/\u.length+1<=maxLen/\(u.length+1)*8<=140737488355328/\U w.heap.size w (W.alloc (H #[J O (aB s u)] 3))):=fun W g k=>by have h:=ak.out.1;rw[an] at h;exact ⟨h.gr (g.alloc _),eQ (by simp) _ 3,by unfold maxLen;omega,by omega,k.alloc k.size _⟩
  have a2:wr.heap.size<(wr.alloc (H #[J O s.k,J O s.a,J O s.b,J O s.c,J O s.o,J O s.v,I s.p s.l.length s.n] 132)).heap.size:=by simp
  obtain ⟨w1,a1⟩:=jb0 (wr.alloc (H #[J O s.k,J O s.a,J O s.b,J O s.c,J O s.o,J O s.v,I s.p s.l.length s.n] 132));rw[a1] at c0 c1 c2 c3 c4 c5 c6 bd a5 E a2;clear ad hs a0 hG bl ak bo a6 cf;by_cases hk:s.k=1
  ·as_aux_lemma =>
    rw[hk] at c0 m0 a1;have d:=Ak hk u;simp only[dzB,emB] at d;replace d:Z _:=d;go_wp2_with fail;try rw[a1]
    clear a1 m0 m1 m2 m3 m4 m5 m6;refine lP (fun h=> ?_) (fun h=> ?_)
    ·rw[h] at d;go_wp2;go_ret2;exact hX.out _ E.out (by rw[d.out];simp)
    rw[h] at d;cases h:(s.b != 0);rotate_left
    ·rw[h] at d;go_wp2;go_ret2;exact hX.out _ E.out (by rw[d.out];simp)
    rw[h] at d;cases h:(s.c != 0);rotate_left
    ·rw[h] at d;go_wp2;go_ret2;exact hX.out _ E.out (by rw[d.out];simp)
    rw[h] at d;cases h:(s.o != 0);rotate_left
    ·rw[h] at d;go_wp2;go_ret2;exact hX.out _ E.out (by rw[d.out];simp)
    rw[h] at d;cases h:(s.v != 0);rotate_left
    ·rw[h] at d;go_wp2;go_ret2;exact hX.out _ E.out (by rw[d.out];simp)
    rw[h] at d;cases h:((s.l.length:Int) != 0);rotate_left
    ·rw[h] at d;go_wp2;go_ret2;exact hX.out _ E.out (by rw[d.out];simp)
    rw[h] at d;replace d:Z _:=d.out.trans (if_pos rfl);have F:Z _:=hN.out (by rw[d.out];omega);have D:Z _:=hO.out _ bd E.out;rw[d.out] at D F;clear d hN hO hX;go_wp2_with (at_builtin;refine aH _ rfl (.tmp 71) (.tmp 72) rfl w.heap.size _ u _ _ 1 rfl rfl D.out.1 D.out.2.1 (fun h=>by cases h) D.out.2.2.1 D.out.2.2.2.1 D.out.2.2.2.2.size ?_;intro v7 w7 R bh);have a4:=ja2 R (D.out.2.2.2.2.trans (ae.grown_below D.out.1 bh D.out.2.2.2.2.size));clear R bh D;go_roundw;exact ⟨j+1,_,by omega,by go_num,F.out,a4⟩;simp[intOf];omega
  by_cases cu:s.k=2\/s.k=3\/s.k=7\/s.k=8\/s.k=9\/s.k=4\/s.k=5\/s.k=6
  ·rcases Or.imp (fun h=>And.intro h (zh h u)) (Or.imp (fun h=>And.intro h (zi h u)) (Or.imp (fun h=>And.intro h (zk h u)) (Or.imp (fun h=>And.intro h (xM h u)) (Or.imp (fun h=>And.intro h (zm h u)) (Or.imp (fun h=>And.intro h (zj h u)) (Or.imp (fun h=>And.intro h (Am h u)) (fun h=>And.intro h (An h u)))))))) (by omega:s.k=2\/s.k=3\/s.k=7\/s.k=8\/s.k=9\/s.k=4\/s.k=5\/s.k=6) with ⟨hk,d⟩|⟨hk,d⟩|⟨hk,d⟩|⟨hk,d⟩|⟨hk,d⟩|⟨hk,d⟩|⟨hk,d⟩|⟨hk,d⟩;all_goals as_aux_lemma =>
    rw[hk] at c0 m0 a1;simp only[an,dzB,emB] at d;replace d:Z _:=d;go_wp2_with fail;try rw[a1]
    refine lP (fun h=>absurd h (by decide)) (fun _=> ?_);clear a1 m0 m1 m2 m3 m4 m5 m6;go_wp2_with fail;refine lP (fun h=> ?_) (fun h=> ?_)
    ·rw[h] at d;go_wp2;go_ret2;exact hX.out _ E.out (by rw[d.out];simp)
    rw[h] at d;obtain ⟨ka,cc,a8⟩:=iB (show belowB s.a u.length=true by rw[bH,an];exact h);clear h
    first
     | (
      have h:s.k=4\/s.k=5\/s.k=6:=by omega
      go_wp2_with fail
      refine lP (fun h=> ?_) (fun h=> ?_)
      ·rw[h] at d;go_wp2;go_ret2;exact hX.out _ E.out (by rw[d.out];simp)
      rw[h] at d
      obtain ⟨kb,bs,a9⟩:=iB (show belowB s.b u.length=true by rw[bH,an];exact h)
      clear h)
     | (
      cases h:(s.b != 0)
      rotate_left
      ·rw[h] at d;go_wp2;go_ret2;exact hX.out _ E.out (by rw[d.out];simp)
      rw[h] at d
      obtain ⟨kb,bs,a9⟩:∃n:Nat,s.b=n/\n<u.length:=⟨0,by simpa using h,by omega⟩
      rw[bs] at h)
    cases hL:((s.l.length:Int) != 0);rotate_left
    first
     | (rw[hL] at d;go_wp2;go_ret2;exact hX.out _ E.out (by rw[d.out];simp))
     | skip
    all_goals
     try rw[hL] at d
     obtain ⟨ba,oa,cj,bN,b1⟩:=a5.out.at a8;subst cj;obtain ⟨xa,b5⟩:=jb0 (u[ka]);obtain ⟨xb,b6⟩:=jb0 (u[kb]);have ea:=b1 ka a8 0 (by omega);have eb:=b1 kb a9 0 (by omega);rw[b5] at ea;rw[b6] at eb;have ea:_=some (Value.int O xa):=ea;have eb:_=some (Value.int O xb):=eb;have ⟨hx1,hx2⟩:=ap.out.2.1 xa (by rw[<-b5];exact gM a8);have ⟨hy1,hy2⟩:=ap.out.2.1 xb (by rw[<-b6];exact gM a9);have h1:u.getD s.a.toNat 0=xa:=by rw[cc,Int.toNat_natCast,kK a8,b5]
     have h2:u.getD s.b.toNat 0=xb:=(by rw[bs,Int.toNat_natCast,kK a9,b6]);simp only[h1,h2,Z] at d;replace d:Z _:=d;simp only[cc,bs,Nat.mul_one,Nat.add_zero] at c1 c2 ea eb bN ⊢;have cv:(ka:Int)<(j:Int):=by omega
     have cp:(kb:Int)<(j:Int):=(by omega);clear b1 a5 h1 h2;go_wp2_with fail;have g1:=(gR w1).cellG (a:=(jb5 wr.heap.size 1)) a2 c1;have g2:=(gR w1).cellG (a:=(jb5 wr.heap.size 2)) a2 c2;have ga:=(gR w1).cellG (a:=(jb5 ba (oa+ka))) bN ea;have gb:=(gR w1).cellG (a:=(jb5 ba (oa+kb))) bN eb;refine wp_region_quiet_grown b7 (by kernel_rfl) ?_;repeat (go_big_quiet_step (fail))
     refine wpQuiet_nil ?_;rintro _ ⟨⟨nq,b8⟩,rfl⟩;have aL:Gr w1 (grow (w1.drewN nq) b8):=⟨nq,b8,rfl⟩;generalize grow (w1.drewN nq) b8=w2 at aL ⊢;have ao:=ja1 (E.out.trans (aL.below.mono E.out.size));have bG:=ja1 (bd.trans aL);replace c3:=(aL.below.cell (p:=(jb5 wr.heap.size 3)) a2).trans c3;replace c4:=(aL.below.cell (p:=(jb5 wr.heap.size 4)) a2).trans c4;replace c5:=(aL.below.cell (p:=(jb5 wr.heap.size 5)) a2).trans c5;replace c6:=(aL.below.cell (p:=(jb5 wr.heap.size 6)) a2).trans c6;clear E bd aL c0 c1 c2 ea eb g1 g2 ga gb a2
     first
      | (
       have h3:s.k=3:=by first|exact hk|fail
       have cn:=ja1 (ce.out.1.gr bG.out)
       have cr:s.l.length<=9223372036854775807:=by have:=ce.out.2;unfold maxLen at this;exact this
       go_wp2_with fail
       obtain ⟨b0,bc⟩:=jb0 (inB (s.l.length:Int) 1 8)
       refine cM (s9 _ _ _ _) ?_
       rintro e w' ⟨rfl,rfl⟩
       rw[bc]
       go_wp2
       go_loopw [12,16] (fun o i wz=>∃m:Nat,m<=s.l.length/\i= J O m/\o= kc (b0 && (s.l.take m).all (fun n=>inB n 0 (xa-1)))/\wz=w') (fun _ i _=>s.l.length-(intOf i).toNat)
       case atStart=>exact ⟨0,by omega,rfl,by simp,rfl⟩
       case' round =>
        rename ia=>wz
        obtain ⟨m,hm,rfl,rfl,cG⟩:=hrel
        subst wz
        obtain ⟨o,ho⟩:=jb0 (b0 && (s.l.take m).all (fun n=>inB n 0 (xa-1)))
        rw[ho]
        have b4:=ja1 ho
        clear ho
        by_cases b2:m<s.l.length
        ·have cl:(m:Int)<(s.l.length:Int):=by omega
         obtain ⟨b3,o3,h3,cs,b9⟩:=cn.out.at b2
         obtain ⟨x,hx⟩:=jb0 (s.l[m])
         have e3:=b9 m b2 0 (by omega)
         rw[hx] at e3
         have e3:_=some (Value.int O x):=e3
         simp only[Nat.mul_one,Nat.add_zero] at e3
         have bv:Z ((b0 && (s.l.take (m+1)).all (fun n=>inB n 0 (xa-1)))=(o && inB x 0 (xa-1))):=by
          show _=_
          rw[List.take_succ_eq_append_getElem b2,hx,List.all_append,<-b4.out]
          simp[Bool.and_assoc]
         rw[h3] at c6
         clear b9 hx h3
         cases o
         ·go_wp2
          go_roundw
          exact ⟨m+1,by omega,by go_num,by rw[bv.out];rfl,by trivial⟩
          simp[intOf];omega
         ·go_wp2_with fail
          refine lP (fun h=> ?_) (fun h=> ?_)
          all_goals
           rw[h] at bv
           go_wp2
           go_roundw
           case rel =>
            first
             | exact ⟨m+1,by omega,by go_num,by rw[bv.out];rfl,by trivial⟩
             | (repeat (apply Exists.intro);refine ⟨?r,?e⟩;(case e=>rfl);(case r=>exact ⟨m+1,by omega,by go_num,by rw[bv.out];rfl,by trivial⟩))
           case measure=>simp[intOf];omega
        have cl:¬(m:Int)<(s.l.length:Int):=by omega
        have be:Z ((b0 && s.l.all (fun n=>inB n 0 (xa-1)))=o):=by show _=_;rw[<-b4.out,List.take_of_length_le (by omega)]
        cases o
        ·go_wp2
         go_ret2
         exact hX.out _ ao.out (by
          have h9:=be.out
          rw[d.out,bc]
          rw[Bool.and_eq_false_iff] at h9
          rcases h9 with h9|h9<;>simp[h9])
        have bp:b0=true/\s.l.all (fun n=>inB n 0 (xa-1))=true:=by simpa using be.out
        rw[bc,bp.1,bp.2] at d
        have cz:1<=(s.l.length:Int):=by rw[bp.1] at bc;simp[inB] at bc;omega
        clear bp be b4 bc)
      | (
       have h4:s.k=4:=by first|exact hk|fail
       by_cases h8:xa+xb<=8
       rotate_left
       ·rw[decide_eq_false h8] at d;go_wp2;go_ret2;exact hX.out _ ao.out (by rw[d.out];simp)
       rw[decide_eq_true h8] at d)
      | (
       have h5:s.k=5\/s.k=6:=by omega
       by_cases h8:xa=xb
       rotate_left
       ·have h9:(xa==xb)=false:=beq_eq_false_iff_ne.2 h8
        rw[decide_eq_false h8] at d;go_wp2;go_ret2;exact hX.out _ ao.out (by rw[d.out];simp)
       rw[decide_eq_true h8] at d
       subst h8)
      | skip
     iterate 3 first
      | (
       rw[show @inB= @inB from rfl] at d
       go_wp2_with fail
       refine lP (fun h=> ?_) (fun h=> ?_)
       ·rw[h] at d;go_wp2;go_ret2;exact hX.out _ ao.out (by rw[d.out];simp)
       rw[h] at d)
      | (
       cases h:(s.c != 0)
       all_goals rw[h] at d
       rotate_left
       ·go_wp2;go_ret2;exact hX.out _ ao.out (by rw[d.out];simp))
      | (
       cases h:(s.o != 0)
       all_goals rw[h] at d
       rotate_left
       ·go_wp2;go_ret2;exact hX.out _ ao.out (by rw[d.out];simp))
      | (
       cases h:(s.v != 0)
       all_goals rw[h] at d
       rotate_left
       ·go_wp2;go_ret2;exact hX.out _ ao.out (by rw[d.out];simp))
     replace d:Z _:=d.out.trans (if_pos rfl);have F:Z _:=hN.out (by rw[d.out];omega);have D:Z _:=hO.out _ bG.out ao.out;rw[d.out] at D F;clear d hN hO hX;go_wp2_with (at_builtin;refine aH _ rfl (.tmp 229) (.tmp 231) rfl w.heap.size _ u _ _ 1 rfl rfl D.out.1 D.out.2.1 (fun h=>by cases h) D.out.2.2.1 D.out.2.2.2.1 D.out.2.2.2.2.size ?_;intro v7 w7 R bh);have a4:=ja2 R (D.out.2.2.2.2.trans (ae.grown_below D.out.1 bh D.out.2.2.2.2.size));clear R bh D;go_roundw;exact ⟨j+1,_,by omega,by go_num,F.out,a4⟩;simp[intOf];omega
  have q1:(s.k==1)=false:=beq_eq_false_iff_ne.2 (by omega);have q2:(s.k==2)=false:=beq_eq_false_iff_ne.2 (by omega);have q3:(s.k==3)=false:=beq_eq_false_iff_ne.2 (by omega);have q4:(s.k==4)=false:=beq_eq_false_iff_ne.2 (by omega);have q5:(s.k==5)=false:=beq_eq_false_iff_ne.2 (by omega);have q6:(s.k==6)=false:=beq_eq_false_iff_ne.2 (by omega);have q7:(s.k==7)=false:=beq_eq_false_iff_ne.2 (by omega);have q8:(s.k==8)=false:=beq_eq_false_iff_ne.2 (by omega);have q9:(s.k==9)=false:=beq_eq_false_iff_ne.2 (by omega);have ck:inB s.k 1 9=false:=by simp[inB];omega
  go_wp2_with fail;try rw[a1]
  refine lP (fun _=> ?_) (fun h=>absurd (ck.symm.trans h) (by decide));go_wp2;go_ret2;exact hX.out _ E.out (uE (by omega))
 ·have cd:¬(j:Int)<(q.length:Int):=by omega
  have bC:Z (bT q []=some u):=by have h1:=ap.out.2.2;rw[List.drop_eq_nil_of_le (by omega)] at h1;exact h1
  obtain ⟨G,gc,rfl,hG,a0,bl⟩:=ae.row bI ak.out.1;have a3:=ja3 a0 hG ak.out.2;clear a0 hG bl ak;go_wp2;go_ret2;exact ⟨G,gc,by rw[bC.out];rfl,by rw[bC.out];exact a3.out.1,a3.out.2.1,a3.out.2.2⟩


theorem ju (q:List Stp) (A:Option N) (ca:Nat) (w:ia) (D:q.length<=maxLen) (n:Stps w A q) :
  ib X 31 #[I A q.length ca] w fun e w'=>e= Y (J O (bX q))/\jb2 w w':=by
 unfold maxLen at D;by_cases g:q.length=0
 ·have f:Z (bX q=1):=by show _=_;unfold bX;rw[if_pos g]
  have j:((q.length:Int)==0)=true:=by rw[g];rfl
  clear g;go_enter Tryz.func31,Tryz.ntmps31;go_wp2;go_ret;exact ⟨by rw[f.out];rfl,bR _ _⟩
 have j:((q.length:Int)==0)=false:=beq_eq_false_iff_ne.2 (by omega);by_cases l:8<q.length
 ·have f:Z (bX q=2):=by show _=_;unfold bX;rw[if_neg g,if_pos l]
  have k:(8:Int)<(q.length:Int):=by omega
  clear g;go_enter Tryz.func31,Tryz.ntmps31;go_wp2;go_ret;exact ⟨by rw[f.out];rfl,bR _ _⟩
 have k:¬(8:Int)<(q.length:Int):=by omega
 have d:Z (bX q=if (bT q []).isSome=true then 0 else 1):=by show _=_;unfold bX;rw[if_neg g,if_neg l]
 have h:=ja9 (mM q A ca w (by omega) n);clear n g;go_enter Tryz.func31,Tryz.ntmps31;go_wp2_with fail;refine ja0 h ?_;rintro e E ⟨C,c,rfl,-,-,m⟩;clear h;cases r:(bT q []).isSome
 ·have f:Z (bX q=1):=by show _=_;rw[d.out,r];rfl
  go_wp2;go_ret;exact ⟨by rw[f.out];rfl,m⟩
 ·have f:Z (bX q=0):=by show _=_;rw[d.out,r];rfl
  go_wp2;go_ret;exact ⟨by rw[f.out];rfl,m⟩

section
open Go.Maps

theorem xS (q:List Stp) {a b:List Itm} (d:bX q=0) (f:am (a.map Itm.z)=0) (g:am (b.map Itm.z)=0):(∀x∈a++b,¬x.r.length=4->ff q (a.map Itm.z) (b.map Itm.z)=5)/\((∀x∈a,x.r.length=4)->(∀x∈b,x.r.length=4)->ff q (a.map Itm.z) (b.map Itm.z)=0):=by
 have e:ff q (a.map Itm.z) (b.map Itm.z)=if (a.map Itm.z++b.map Itm.z).all (fun x=>decide (x.1.length=4))=true then 0 else 5:=by unfold ff;rw[if_pos d,if_pos f,if_pos g]
 refine ⟨fun x c l=> ?_,fun j k=> ?_⟩
 ·rw[e,if_neg];intro h;rw[<-List.map_append] at h;have:=List.all_eq_true.1 h x.z (List.mem_map.2 ⟨x,c,rfl⟩);exact l (of_decide_eq_true this)
 ·rw[e,if_pos];rw[<-List.map_append,List.all_eq_true];intro y m;obtain ⟨x,c,rfl⟩:=List.mem_map.1 m;rcases List.mem_append.1 c with e|e
  ·exact decide_eq_true (j x e)
  ·exact decide_eq_true (k x e)

theorem rJ (q:List Stp) (QA:Option N) (cq:Nat) (a b:List Itm) (A B:Option N) (ca cb:Nat) (w:ia) (hl:q.length<=maxLen) (hq:Stps w QA q) (ha:Lv w A ca a) (hb:Lv w B cb b) :
  ib X 73 #[I QA q.length cq,I A a.length ca,I B b.length cb] w fun e w'=>e= Y (J O (ff q (a.map Itm.z) (b.map Itm.z)))/\jb2 w w':=by
 obtain ⟨E,hE⟩:=jb0 (ff q (a.map Itm.z) (b.map Itm.z));obtain ⟨E1,ap⟩:=jb0 (bX q);obtain ⟨E2,aL⟩:=jb0 (am (a.map Itm.z));obtain ⟨E3,a0⟩:=jb0 (am (b.map Itm.z));have a4:=ju q QA cq w hl hq;rw[ap] at a4;have ba:Z _:=a4
 have hZ:Z ((∀W,jb2 w W->ib X 109 #[I A a.length ca] W fun e w'=>e= Y (J O E2)/\Gr W w')/\(∀W,jb2 w W->ib X 109 #[I B b.length cb] W fun e w'=>e= Y (J O E3)/\Gr W w')) :=
  ⟨fun W h=>by rw[<-aL];exact qp a A ca W ha.len (ha.below h).items,fun W h=>by rw[<-a0];exact qp b B cb W hb.len (hb.below h).items⟩
 have f:=ja6 hE ap aL a0 ha hb;rw[hE];clear hE ap aL a0 a4 hq ha hb;go_enter Tryz.func73,Tryz.ntmps73;go_wp2_with fail;refine ja0 ba ?_;rintro e w1 ⟨rfl,a7⟩;have j:=ja1 a7;clear ba a7;cases h1:(E1 != 0)
 ·have u:E1=0:=by simpa using h1
  have ak:=ja9 (hZ.out.1 w1 j.out);go_wp2_with fail;refine ja0 ak ?_;rintro e w2 ⟨rfl,a8⟩;have l:=ja1 (j.out.trans (a8.below.mono j.out.size));clear ak a8;cases h2:(E2 != 0)
  ·have C:E2=0:=(by simpa using h2);have an:=ja9 (hZ.out.2 w2 l.out);go_wp2_with fail;refine ja0 an ?_;rintro e w3 ⟨rfl,a9⟩;have D:=ja1 (l.out.trans (a9.below.mono l.out.size));clear an a9;cases h3:(E3 != 0)
   ·have ah:E3=0:=(by simpa using h3);have hA:=xS q (a:=a) (b:=b) (by rw[f.out.2.1];exact u) (by rw[f.out.2.2.1];exact C) (by rw[f.out.2.2.2.1];exact ah);rw[f.out.1] at hA;have ao:Z _:=hA;have bl:a.length<=400:=((aQ _).1 (by rw[f.out.2.2.1];exact C)).1 |> fun h=>by simpa using h
    have bo:b.length<=400:=((aQ _).1 (by rw[f.out.2.2.2.1];exact ah)).1 |> fun h=>by simpa using h
    have a3:Z (Gr w3 (w3.alloc (H #[I A a.length ca,I B b.length cb] 59))):=(gR _).alloc _;obtain ⟨w4,ad⟩:=jb0 (w3.alloc (H #[I A a.length ca,I B b.length cb] 59));have s0:jb1 w4 w3.heap.size 0 (I A a.length ca):=by rw[<-ad];exact ab (w:=w3) (gR _) rfl
    have s1:jb1 w4 w3.heap.size 1 (I B b.length cb):=(by rw[<-ad];exact ab (w:=w3) (gR _) rfl);rw[ad] at a3;have m:Z (jb2 w w4/\Items w4 A a/\Items w4 B b):=by have h:=D.out.trans (a3.out.below.mono D.out.size);exact ⟨h,(f.out.2.2.2.2.1.below h).items,(f.out.2.2.2.2.2.below h).items⟩
    clear hA a3;go_wp2;clear ad;refine wp_loop_rounds 3 ?_;rw[rounds_succ];go_wp2;go_loopw [12] (fun i wr=>∃k:Nat,k<=a.length/\i= J O k/\wr=w4/\Z (∀x∈a.take k,x.r.length=4)) (fun i _=>a.length-(intOf i).toNat);exact ⟨0,nZ _,rfl,rfl,fun x n=>(by simp at n)⟩;obtain ⟨k,hk,rfl,rfl,hR⟩:=hrel;by_cases g:k<a.length
    ·have R:(k:Int)<(a.length:Int):=(by omega);obtain ⟨bb,bh,rfl,hb,F⟩:=m.out.2.1.at g;obtain ⟨x,n⟩:=jb0 (a[k]);obtain ⟨e0,e1⟩:=F k g;rw[n] at e0 e1;have a6:Z (x∈a):=by show _∈_;rw[<-n];exact gM g
     have a5:Z (a.take (k+1)=a.take k++[x]):=(by show _=_;rw[List.take_succ_eq_append_getElem g,n]);clear F n;cases h4:((x.r.length:Int) != 4)
     ·have d:x.r.length=4:=(by have:(x.r.length:Int)=4:=(by simpa using h4);omega);have c:Z (∀y∈a.take (k+1),y.r.length=4):=fun y hy=>by
       rw[a5.out] at hy;rcases List.mem_append.1 hy with e|e
       ·exact hR.out y e
       ·rw[List.mem_singleton.1 e];exact d
      clear d;go_wp2;go_roundw;exact ⟨k+1,by omega,by go_num,by first|rfl|trivial,c⟩;simp[intOf];omega
     ·have d:¬x.r.length=4:=(by have:¬(x.r.length:Int)=4:=(by simpa using h4);omega);have c:Z (E=5):=ao.out.1 x (by simp[a6.out]) d;clear d;go_wp2;go_ret;exact ⟨by rw[c.out];rfl,m.out.1⟩
    ·have R:¬(k:Int)<(a.length:Int):=(by omega);have a1:Z (∀x∈a,x.r.length=4):=by have:=hR.out;rw[List.take_of_length_le (by omega)] at this;exact this
     clear hR;go_wp2;rw[rounds_succ];go_wp2;obtain ⟨w5,be⟩:=jb0 wr;rw[be] at m s0 s1 ⊢;go_loopw [12] (fun i wr=>∃k:Nat,k<=b.length/\i= J O k/\wr=w5/\Z (∀x∈b.take k,x.r.length=4)) (fun i _=>b.length-(intOf i).toNat);exact ⟨0,nZ _,rfl,rfl,fun x n=>(by simp at n)⟩;obtain ⟨k,hk,rfl,rfl,hR⟩:=hrel;by_cases g:k<b.length
     ·have R:(k:Int)<(b.length:Int):=(by omega);obtain ⟨bb,bh,rfl,hb,F⟩:=m.out.2.2.at g;obtain ⟨x,n⟩:=jb0 (b[k]);obtain ⟨e0,e1⟩:=F k g;rw[n] at e0 e1;have a6:Z (x∈b):=by show _∈_;rw[<-n];exact gM g
      have a5:Z (b.take (k+1)=b.take k++[x]):=(by show _=_;rw[List.take_succ_eq_append_getElem g,n]);clear F n;cases h4:((x.r.length:Int) != 4)
      ·have d:x.r.length=4:=(by have:(x.r.length:Int)=4:=(by simpa using h4);omega);have c:Z (∀y∈b.take (k+1),y.r.length=4):=fun y hy=>by
        rw[a5.out] at hy;rcases List.mem_append.1 hy with e|e
        ·exact hR.out y e
        ·rw[List.mem_singleton.1 e];exact d
       clear d;go_wp2;go_roundw;exact ⟨k+1,by omega,by go_num,by first|rfl|trivial,c⟩;simp[intOf];omega
      ·have d:¬x.r.length=4:=(by have:¬(x.r.length:Int)=4:=(by simpa using h4);omega);have c:Z (E=5):=ao.out.1 x (by simp[a6.out]) d;clear d;go_wp2;go_ret;exact ⟨by rw[c.out];rfl,m.out.1⟩
     ·have R:¬(k:Int)<(b.length:Int):=(by omega);have a2:Z (∀x∈b,x.r.length=4):=by have:=hR.out;rw[List.take_of_length_le (by omega)] at this;exact this
      go_wp2;rw[rounds_succ];go_wp2;go_ret;exact ⟨by rw[ao.out.2 a1.out a2.out];rfl,m.out.1⟩
   ·have c:Z (E3=E):=(by have hn:¬am (b.map Itm.z)=0:=(by rw[f.out.2.2.2.1];simpa using h3);show _=_;rw[<-f.out.1];unfold ff;rw[if_pos (by rw[f.out.2.1];exact u),if_pos (by rw[f.out.2.2.1];exact C),if_neg hn];exact f.out.2.2.2.1.symm);go_wp2;go_ret;exact ⟨by rw[<-c.out];rfl,D.out⟩
  ·have c:Z (E2=E):=(by have hn:¬am (a.map Itm.z)=0:=(by rw[f.out.2.2.1];simpa using h2);show _=_;rw[<-f.out.1];unfold ff;rw[if_pos (by rw[f.out.2.1];exact u),if_neg hn];exact f.out.2.2.1.symm);go_wp2;go_ret;exact ⟨by rw[<-c.out];rfl,l.out⟩
 ·have c:Z (E1=E):=by have hn:¬bX q=0:=(by rw[f.out.2.1];simpa using h1);show _=_;rw[<-f.out.1];unfold ff;rw[if_neg hn];exact f.out.2.1.symm
  go_wp2;go_ret;exact ⟨by rw[<-c.out];rfl,j.out⟩
end
section
open Go.Maps

structure BInv (w wr:ia) (a b:List Zit) (q:List Stp) (j:Nat) (u:iv) (ss:List Sl) (S:List (List Zit)) (ah:List Int):Prop where
 own:ae dW 1 59 wr w.heap.size u ss
 each:∀s∈ss,Lv wr s.A s.cap s.l/\Far u.ownBlock s
 z:ss.map (fun s=>s.l.map Itm.z)=S
 len:ss.length=j
 ahd:Ahd S ah
 wid:(bT (q.drop j) ah).isSome=true
 e:g9 a b (q.drop j) S=g9 a b q []
 f:gB a b (q.drop j) S=gB a b q []
 bel:jb2 w wr

theorem BInv.step {w wr D c w3:ia} {a b:List Zit} {q:List Stp} {j:Nat} {u v3:iv} {ss:List Sl} {S:List (List Zit)} {ah:List Int} {s:Stp} {L:List Itm} {C:Option N} {k:Nat} {o:Obj} (h:BInv w wr a b q j u ss S ah) (hs:q.drop j=s::q.drop (j+1)) (ha:cQ 4 a) (hb:cQ 4 b) (hT:aK s a b S=0) (r:Gr wr D) (hz:L.map Itm.z=aJ s a b S) (hL:Lv c C k L) (hB:jb2 D c) (hN:eR D.heap.size C L)
  (an:ae dW 1 59 w3 w.heap.size v3 (ss++[⟨C,k,L⟩])) (hg:(c.alloc o).grownBy w3 u.ownBlock) (ad:v3.ownBlock=u.ownBlock\/v3.ownBlock=some (c.alloc o).heap.size):BInv w w3 a b q (j+1) v3 (ss++[⟨C,k,L⟩]) (S++[aJ s a b S]) (ah++[aB s ah]):=by
 have hw:=fB (by rw[<-hs];exact h.wid);have hr:=jc hw.1 h.ahd ha hb hT;have R:Gr c (c.alloc o):=(gR _).alloc _;have m:jb2 wr (c.alloc o):=r.below.trans ((hB.trans (R.below.mono hB.size)).mono r.size);have ak:∀g,u.ownBlock=some g->g<wr.heap.size/\w.heap.size<=g:=fun g e=>⟨(World.ownsRow.lt h.own g e).2,(World.ownsRow.lt h.own g e).1⟩;have d:∀(x:Sl),Lv (c.alloc o) x.A x.cap x.l->Far u.ownBlock x->Far v3.ownBlock x:=fun x hx hf=>by
  rcases ad with e|e
  ·rw[e];exact hf
  ·rw[e];exact Far.top hx (nR _)
 have he:g9 a b (q.drop j) S=g9 a b (q.drop (j+1)) (S++[aJ s a b S]):=by rw[hs];show (if aK s a b S=0 then _ else _)=_;rw[if_pos hT]
 have hf:gB a b (q.drop j) S=gB a b (q.drop (j+1)) (S++[aJ s a b S]):=by rw[hs];show (if aK s a b S=0 then _ else _)=_;rw[if_pos hT]
 refine ⟨an,fun x hx=> ?_,by rw[List.map_append,h.z];simp[hz],by simp[h.len],h.ahd.snoc hr.1 hr.2,hw.2,by rw[<-he];exact h.e,by rw[<-hf];exact h.f,?_⟩
 ·rcases List.mem_append.1 hx with e|e
  ·have h1:=h.each x e;have E:=h1.1.below m;exact ⟨E.grown hg h1.2,d x E h1.2⟩
  ·rw[List.mem_singleton.1 e];have E:Lv (c.alloc o) C k L:=hL.gr R;have F:Far u.ownBlock ⟨C,k,L⟩:=Far.new (n:=D.heap.size) hN (fun g e2=>nL (ak g e2).1 r.size);exact ⟨Lv.grown (s:=⟨C,k,L⟩) E hg F,d ⟨C,k,L⟩ E F⟩
 ·exact (h.bel.trans (m.mono h.bel.size)).grown hg (nT h.bel.size m.size) (fun g e=>(ak g e).2)

theorem Ag {s:Stp} {j:List Int} (h:aB s j≠0) (l:s.k≠1):inB s.a 0 ((j.length:Int)-1)=true/\inB s.b 0 ((j.length:Int)-1)=true:=by
 have g:∀ {c:Int},inB s.a 0 ((j.length:Int)-1)=true->c=0->s.b=c->inB s.b 0 ((j.length:Int)-1)=true:=fun d f m=>by simp only[inB,Bool.and_eq_true,decide_eq_true_eq] at d ⊢;omega
 rcases kinds h with k|k|k|k|k|k|k|k|k
 ·exact absurd k l
 ·have d:=(tM h k).1;rw[zh k] at h;obtain ⟨f,_⟩:=bW h;simp only[Bool.and_eq_true,decide_eq_true_eq] at f;exact ⟨d,g d rfl f.1.1.1.1.2⟩
 ·have d:=(rC h k).1;rw[zi k] at h;obtain ⟨f,_⟩:=bW h;simp only[Bool.and_eq_true,decide_eq_true_eq] at f;exact ⟨d,g d rfl (by simp_all)⟩
 ·exact ⟨(rD h k).1,(rD h k).2.1⟩
 ·exact ⟨(wT h k).1,(wT h k).2.1⟩
 ·exact ⟨(wU h k).1,(wU h k).2.1⟩
 ·have d:=(yN h k).1;rw[zk k] at h;obtain ⟨f,_⟩:=bW h;simp only[Bool.and_eq_true,decide_eq_true_eq] at f;exact ⟨d,g d rfl f.1.1.1.1.2⟩
 ·have d:=(tN h k).1;rw[xM k] at h;obtain ⟨f,_⟩:=bW h;simp only[Bool.and_eq_true,decide_eq_true_eq] at f;exact ⟨d,g d rfl f.1.1.1.1.2⟩
 ·have d:=(tO h k).1;rw[zm k] at h;obtain ⟨f,_⟩:=bW h;simp only[Bool.and_eq_true,decide_eq_true_eq] at f;exact ⟨d,g d rfl (by simp_all)⟩
theorem xp {l:List Itm} (e:am (l.map Itm.z)=0):Wd l:=WdZ.wd (jZ (by have:=(mw e).1;omega) (mw e).2)

theorem uc (q:List Stp) (QA:Option N) (cq:Nat) (a b:List Itm) (A B:Option N) (ca cb:Nat) (w:ia) (hl:q.length<=maxLen) (hq:Stps w QA q) (ha:Lv w A ca a) (hb:Lv w B cb b) (ht:fC w) :
  ib X 39 #[I QA q.length cq,I A a.length ca,I B b.length cb] w fun e w'=>∃(ss:List Sl) (C:Option N) (k:Nat),e= Y (ix #[I C ss.length k,J O (ct q (a.map Itm.z) (b.map Itm.z))])/\Sts w' C ss (eu q (a.map Itm.z) (b.map Itm.z))/\U w.heap.size w w':=by
 obtain ⟨E,hE⟩:=jb0 (ff q (a.map Itm.z) (b.map Itm.z));obtain ⟨P,hP⟩:=jb0 (ct q (a.map Itm.z) (b.map Itm.z));have a9:=rJ q QA cq a b A B ca cb w hl hq ha hb;rw[hE] at a9;have hC:Z _:=a9;have hH:=ja2 hE hP;have hV:=ja4 hq ha hb ht;rw[hP];go_enter Tryz.func39,Tryz.ntmps39;go_wp2_with fail;refine ja0 hC ?_;rintro e w1 ⟨rfl,a5⟩;have ad:=ja5 a5 (hV.out.1.below a5) (hV.out.2.1.below a5) (hV.out.2.2.1.below a5) (hV.out.2.2.2.below a5);cases h0:(E != 0);rotate_left;focus
  have m:Z (E=P/\eu q (a.map Itm.z) (b.map Itm.z)=[]):=by
   have hn:¬E=0:=(by simpa using h0);have hp:P=E:=by rw[<-hH.out.2];unfold ct;rw[if_neg (by rw[hH.out.1];exact hn)];exact hH.out.1
   refine ⟨hp.symm,?_⟩;unfold eu;rw[if_neg (by rw[hH.out.2,hp];exact hn)]
  go_wp2;go_ret2;exact ⟨[],none,0,by rw[<-m.out.1];rfl,⟨oL rfl,fun s hs=>(by cases hs),by rw[m.out.2];rfl⟩,ad.out.1⟩
 have bs:ff q (a.map Itm.z) (b.map Itm.z)=0:=by rw[hH.out.1];simpa using h0
 have hQ:Z (ff q (a.map Itm.z) (b.map Itm.z)=0/\P=g9 (a.map Itm.z) (b.map Itm.z) q []):=⟨bs,by rw[<-hH.out.2];unfold ct;rw[if_pos bs]⟩;have h8:q.length<=8:=(dO (aT bs).1).2.1;go_wp2;go_loopw [9,10] (fun u i wr=>∃(j:Nat) (ss:List Sl) (S:List (List Zit)) (ah:List Int),j<=q.length/\i= J O j/\Z (BInv w1 wr (a.map Itm.z) (b.map Itm.z) q j u ss S ah)) (fun _ i _=>q.length-(intOf i).toNat);exact ⟨0,[],[],[],nZ _,rfl,show BInv _ _ _ _ _ _ _ _ _ _ from ⟨ae.nil _ _ _ _ _,fun s hs=>(by cases hs),rfl,rfl,Ahd.nil,by rw[List.drop_zero];exact (dO (aT hQ.out.1).1).2.2,by rw[List.drop_zero],by rw[List.drop_zero],bR _ _⟩⟩;obtain ⟨j,ss,S,ah,hj,rfl,hR⟩:=hrel;obtain ⟨GA,gc,hu,cv,cc,_⟩:=hR.out.own.row jk;have bp:=ja1 cc;subst hu;by_cases bG:j<q.length
 ·have b6:(j:Int)<(q.length:Int):=by omega
  have hI:=ja1 (ad.out.2.1.below hR.out.bel);obtain ⟨qb,qo,rfl,hb,a3⟩:=hI.out.at bG;obtain ⟨s,hs⟩:=jb0 (q[j]);have cn:Z (s∈q):=by show _∈_;rw[<-hs];exact gM bG
  have ba:Z (q.drop j=s::q.drop (j+1)):=by show _=_;rw[<-hs];exact List.drop_eq_getElem_cons bG
  rw[hs] at a3;have m0:jb1 wr qb (qo+j*7) (J O s.k):=a3 0 (by omega);have m1:jb1 wr qb (qo+j*7+1) (J O s.a):=a3 1 (by omega);have m2:jb1 wr qb (qo+j*7+2) (J O s.b):=a3 2 (by omega);have m3:jb1 wr qb (qo+j*7+3) (J O s.c):=a3 3 (by omega);have m4:jb1 wr qb (qo+j*7+4) (J O s.o):=a3 4 (by omega);have m5:jb1 wr qb (qo+j*7+5) (J O s.v):=a3 5 (by omega);have m6:jb1 wr qb (qo+j*7+6) (I s.p s.l.length s.n):=a3 6 (by omega);have bh:Z (aB s ah≠0):=(fB (by rw[<-ba.out];exact hR.out.wid)).1;obtain ⟨g,a1⟩:=jb0 (wr.alloc (H #[J O s.k,J O s.a,J O s.b,J O s.c,J O s.o,J O s.v,I s.p s.l.length s.n] 132));have ap:Z (Gr wr g):=by show Gr _ _;rw[<-a1];exact (gR _).alloc _
  have D:=ja1 (hR.out.bel.trans (ap.out.below.mono hR.out.bel.size));obtain ⟨cz,hT⟩:=jb0 (aK s (a.map Itm.z) (b.map Itm.z) S);have a0:=ja1 hT;have bb:=ja1 (un bh.out hR.out.ahd (aT hQ.out.1).2.1 (aT hQ.out.1).2.2.1);have x0:jb1 g wr.heap.size 0 (J O s.k):=by rw[<-a1];exact ab (w:=wr) (gR _) rfl
  have x1:jb1 g wr.heap.size 1 (J O s.a):=by rw[<-a1];exact ab (w:=wr) (gR _) rfl
  have x2:jb1 g wr.heap.size 2 (J O s.b):=by rw[<-a1];exact ab (w:=wr) (gR _) rfl
  have x3:jb1 g wr.heap.size 3 (J O s.c):=by rw[<-a1];exact ab (w:=wr) (gR _) rfl
  have x4:jb1 g wr.heap.size 4 (J O s.o):=by rw[<-a1];exact ab (w:=wr) (gR _) rfl
  have x5:jb1 g wr.heap.size 5 (J O s.v):=by rw[<-a1];exact ab (w:=wr) (gR _) rfl
  have x6:jb1 g wr.heap.size 6 (I s.p s.l.length s.n):=by rw[<-a1];exact ab (w:=wr) (gR _) rfl
  have a8:wr.heap.size<g.heap.size:=by rw[<-a1];simp
  clear a3 hs hT;by_cases hk:s.k=1
  ·have cm:(s.k==1)=true:=beq_iff_eq.2 hk;have bC:=ja1 hk;clear hk;rcases (Af bh.out bC.out).1 with h1|h1
   ·have cl:(s.a==1)=false:=(by rw[h1];rfl);have d:Z (a.map Itm.z=gx s (a.map Itm.z) (b.map Itm.z) S/\Items g A a/\U g.heap.size g g/\Wd a):=⟨by unfold gx jy;rw[if_pos bC.out,if_pos h1],(ad.out.2.2.1.below D.out).items,bR _ _,xp (aT hQ.out.1).2.1⟩;clear h1;have r:=jW a A ca g d.out.2.2.2 d.out.2.1 (ad.out.2.2.2.2.below (D.out.trans (d.out.2.2.1.mono D.out.size)));rw[d.out.1,<-bb.out.1,<-bb.out.2,a0.out] at r;have a4:Z _:=r;clear r;cases hq:(cz != 0)
    ·have an:Z (aK s (a.map Itm.z) (b.map Itm.z) S=0):=(by show _=_;rw[a0.out];simpa using hq);have a7:=ja1 hR.out.len;go_wp2_with (first|(go_at_call 75;(refine ja0 a4 ?_);rintro e w2 ⟨L,C,k,rfl,h1,h2,h3,h4⟩;have ak:=d.out.2.2.1.trans (h3.mono d.out.2.2.1.size);have ao:Z (L.map Itm.z=aJ s (a.map Itm.z) (b.map Itm.z) S/\Lv w2 C k L/\U g.heap.size g w2/\eR g.heap.size C L):=⟨h1,h2,ak,h4.mono d.out.2.2.1.size⟩;have aL:Z (ae dW 1 59 (w2.alloc (H #[I C L.length k] 59)) w1.heap.size (I GA ss.length gc) ss/\ss.length+1<=maxLen/\(ss.length+1)*24<=140737488355328/\w1.heap.size<=(w2.alloc (H #[I C L.length k] 59)).heap.size):=⟨((hR.out.own.gr ap.out).below ak).gr ((gR _).alloc _),by have:=a7.out;unfold maxLen;omega,by have:=a7.out;omega,nT D.out.size (nT ak.size (by simp))⟩;clear h1 h2 h3 h4 ak)|(at_builtin;refine dZ _ rfl (.tmp 60) (.tmp 62) rfl w1.heap.size (I GA ss.length gc) ss ⟨C,k,L⟩ ⟨w2.heap.size,0,none⟩ 1 rfl rfl aL.out.1 (kV rfl ⟨C,k,L⟩ _) aL.out.2.1 aL.out.2.2.1 aL.out.2.2.2 ?_;intro v3 w3 R a6 F)|fail);have m:=ja1 (hR.out.step ba.out (aT hQ.out.1).2.2.2.1 (aT hQ.out.1).2.2.2.2 an.out ap.out ao.out.1 ao.out.2.1 ao.out.2.2.1 ao.out.2.2.2 R a6 F);clear R a6 F;go_roundw;exact ⟨j+1,ss++[(⟨C,k,L⟩:Sl)],S++[aJ s (a.map Itm.z) (b.map Itm.z) S],ah++[aB s ah],by omega,by go_num,m⟩;simp[intOf];omega
    ·have an:Z (P=cz/\eu q (a.map Itm.z) (b.map Itm.z)=[]):=by
      have hn:¬cz=0:=(by simpa using hq);have hp:P=cz:=by rw[hQ.out.2,<-hR.out.e,ba.out];show (if aK s (a.map Itm.z) (b.map Itm.z) S=0 then _ else _)=_;rw[if_neg (by rw[a0.out];exact hn),a0.out]
      refine ⟨hp,?_⟩;unfold eu;rw[if_neg (by rw[hH.out.2,hp];exact hn)]
     go_wp2_with (go_at_call 75;(refine ja0 a4 ?_);rintro e w2 ⟨L,C,k,rfl,h1,h2,h3,h4⟩);go_ret2;exact ⟨[],none,0,by rw[an.out.1];rfl,⟨oL rfl,fun s hs=>(by cases hs),by rw[an.out.2];rfl⟩,ad.out.1.trans ((D.out.trans ((d.out.2.2.1.trans (h3.mono d.out.2.2.1.size)).mono D.out.size)).mono ad.out.1.size)⟩
   ·have cl:(s.a==1)=true:=(by rw[h1];rfl);have d:Z (b.map Itm.z=gx s (a.map Itm.z) (b.map Itm.z) S/\Items g B b/\U g.heap.size g g/\Wd b):=⟨by unfold gx jy;rw[if_pos bC.out,if_neg (by omega)],(ad.out.2.2.2.1.below D.out).items,bR _ _,xp (aT hQ.out.1).2.2.1⟩;clear h1;have r:=jW b B cb g d.out.2.2.2 d.out.2.1 (ad.out.2.2.2.2.below (D.out.trans (d.out.2.2.1.mono D.out.size)));rw[d.out.1,<-bb.out.1,<-bb.out.2,a0.out] at r;have a4:Z _:=r;clear r;cases hq:(cz != 0)
    ·have an:Z (aK s (a.map Itm.z) (b.map Itm.z) S=0):=(by show _=_;rw[a0.out];simpa using hq);have a7:=ja1 hR.out.len;go_wp2_with (first|(go_at_call 75;(refine ja0 a4 ?_);rintro e w2 ⟨L,C,k,rfl,h1,h2,h3,h4⟩;have ak:=d.out.2.2.1.trans (h3.mono d.out.2.2.1.size);have ao:Z (L.map Itm.z=aJ s (a.map Itm.z) (b.map Itm.z) S/\Lv w2 C k L/\U g.heap.size g w2/\eR g.heap.size C L):=⟨h1,h2,ak,h4.mono d.out.2.2.1.size⟩;have aL:Z (ae dW 1 59 (w2.alloc (H #[I C L.length k] 59)) w1.heap.size (I GA ss.length gc) ss/\ss.length+1<=maxLen/\(ss.length+1)*24<=140737488355328/\w1.heap.size<=(w2.alloc (H #[I C L.length k] 59)).heap.size):=⟨((hR.out.own.gr ap.out).below ak).gr ((gR _).alloc _),by have:=a7.out;unfold maxLen;omega,by have:=a7.out;omega,nT D.out.size (nT ak.size (by simp))⟩;clear h1 h2 h3 h4 ak)|(at_builtin;refine dZ _ rfl (.tmp 60) (.tmp 62) rfl w1.heap.size (I GA ss.length gc) ss ⟨C,k,L⟩ ⟨w2.heap.size,0,none⟩ 1 rfl rfl aL.out.1 (kV rfl ⟨C,k,L⟩ _) aL.out.2.1 aL.out.2.2.1 aL.out.2.2.2 ?_;intro v3 w3 R a6 F)|fail);have m:=ja1 (hR.out.step ba.out (aT hQ.out.1).2.2.2.1 (aT hQ.out.1).2.2.2.2 an.out ap.out ao.out.1 ao.out.2.1 ao.out.2.2.1 ao.out.2.2.2 R a6 F);clear R a6 F;go_roundw;exact ⟨j+1,ss++[(⟨C,k,L⟩:Sl)],S++[aJ s (a.map Itm.z) (b.map Itm.z) S],ah++[aB s ah],by omega,by go_num,m⟩;simp[intOf];omega
    ·have an:Z (P=cz/\eu q (a.map Itm.z) (b.map Itm.z)=[]):=by
      have hn:¬cz=0:=(by simpa using hq);have hp:P=cz:=by rw[hQ.out.2,<-hR.out.e,ba.out];show (if aK s (a.map Itm.z) (b.map Itm.z) S=0 then _ else _)=_;rw[if_neg (by rw[a0.out];exact hn),a0.out]
      refine ⟨hp,?_⟩;unfold eu;rw[if_neg (by rw[hH.out.2,hp];exact hn)]
     go_wp2_with (go_at_call 75;(refine ja0 a4 ?_);rintro e w2 ⟨L,C,k,rfl,h1,h2,h3,h4⟩);go_ret2;exact ⟨[],none,0,by rw[an.out.1];rfl,⟨oL rfl,fun s hs=>(by cases hs),by rw[an.out.2];rfl⟩,ad.out.1.trans ((D.out.trans ((d.out.2.2.1.trans (h3.mono d.out.2.2.1.size)).mono D.out.size)).mono ad.out.1.size)⟩
  ·have cm:(s.k==1)=false:=beq_eq_false_iff_ne.2 hk;have bc:Sts wr GA ss S:=⟨bp.out,fun s hs=>(hR.out.each s hs).1,hR.out.z⟩;have bt:=Ag bh.out hk;obtain ⟨b3,b4,ea,wa⟩:=hR.out.ahd.at bt.1;obtain ⟨a5,b5,eb,wb⟩:=hR.out.ahd.at bt.2;obtain ⟨gb,go,na,x,hA,bd,bN,b7,cd,ce,bl⟩:=bc.at b3 b4;obtain ⟨cs,cu,nb,y,ck,_,b0,b8,cf,cj,bo⟩:=bc.at a5 b5;subst hA;cases ck;have a9:=vW bh.out hk x.l y.l x.A y.A x.cap y.cap g.drew (((hI.out.each s cn.out).1.gr ap.out).gr (gR _).drew) ((ce.gr ap.out).gr (gR _).drew) ((cj.gr ap.out).gr (gR _).drew) (by rw[bl];exact ea) (by rw[bo];exact eb) (by rw[bl];exact wa) (by rw[bo];exact wb);rw[bl,bo] at a9;have b9:cI s (bm S s.a) (bm S s.b)=gx s (a.map Itm.z) (b.map Itm.z) S:=by unfold gx;rw[if_neg hk]
   rw[b9,bN,b0] at a9;have hC:Z _:=a9;obtain ⟨xb,b1⟩:=jb0 wr.heap.size;rw[b1] at a8 x0 x1 x2 x3 x4 x5 x6;have a2:Z (∀W',U g.heap.size g W'->(fun w'=>jb1 w' xb 0 (J O s.k)/\jb1 w' xb 1 (J O (na:Int))/\jb1 w' xb 2 (J O (nb:Int))/\jb1 w' xb 3 (J O s.c)/\jb1 w' xb 4 (J O s.o)/\jb1 w' xb 5 (J O s.v)/\jb1 w' xb 6 (I s.p s.l.length s.n)/\jb1 w' gb (go+na) (I x.A x.l.length x.cap)/\jb1 w' gb (go+nb) (I y.A y.l.length y.cap)) W'):=fun W' h=>⟨(h.cell (p:=⟨xb,0,none⟩) a8).trans x0,(h.cell (p:=⟨xb,1,none⟩) a8).trans (by rw[x1,bN]),(h.cell (p:=⟨xb,2,none⟩) a8).trans (by rw[x2,b0]),(h.cell (p:=⟨xb,3,none⟩) a8).trans x3,(h.cell (p:=⟨xb,4,none⟩) a8).trans x4,(h.cell (p:=⟨xb,5,none⟩) a8).trans x5,(h.cell (p:=⟨xb,6,none⟩) a8).trans x6,(h.cell (p:=⟨gb,go+na,none⟩) (nL bd ap.out.size)).trans ((ap.out.below.cell (p:=⟨gb,go+na,none⟩) bd).trans cd),(h.cell (p:=⟨gb,go+nb,none⟩) (nL bd ap.out.size)).trans ((ap.out.below.cell (p:=⟨gb,go+nb,none⟩) bd).trans cf)⟩;have be:Z (U g.heap.size g g.drew):=(bR _ _).drew;have cp:(na:Int)<(ss.length:Int):=by omega
   have cr:(nb:Int)<(ss.length:Int):=(by omega);clear a9 b9 hk bc bt b3 b4 ea wa a5 b5 eb wb b7 cd ce bl b8 cf cj bo bN b0 bd;go_wp2;clear a1;try rw[b1]
   clear b1
   go_region_held3 (fun w'=>jb1 w' xb 0 (J O s.k)/\jb1 w' xb 1 (J O (na:Int))/\jb1 w' xb 2 (J O (nb:Int))/\jb1 w' xb 3 (J O s.c)/\jb1 w' xb 4 (J O s.o)/\jb1 w' xb 5 (J O s.v)/\jb1 w' xb 6 (I s.p s.l.length s.n)/\jb1 w' gb (go+na) (I x.A x.l.length x.cap)/\jb1 w' gb (go+nb) (I y.A y.l.length y.cap)) (first|with_reducible exact a2.out _ be.out|with_reducible exact a2.out _ bv.out|exact a2.out _ be.out|exact a2.out _ bv.out) (first
    | (go_at_call 74;(refine ja0 hC ?_);rintro e wm ⟨M,MA,mc,rfl,h1,h2,h3,h4⟩;have bv:Z (U g.heap.size g wm):=be.out.trans (h3.mono be.out.size);have d:Z (M.map Itm.z=gx s (a.map Itm.z) (b.map Itm.z) S/\Items wm MA M/\U g.heap.size g wm/\Wd M):=⟨h1,h2,bv.out,h4⟩;clear h1 h2 h3 h4))
   all_goals
    have r:=jW M MA mc wm d.out.2.2.2 d.out.2.1 (ad.out.2.2.2.2.below (D.out.trans (d.out.2.2.1.mono D.out.size)));rw[d.out.1,<-bb.out.1,<-bb.out.2,a0.out] at r;have a4:Z _:=r;clear r;cases hq:(cz != 0)
    ·have an:Z (aK s (a.map Itm.z) (b.map Itm.z) S=0):=(by show _=_;rw[a0.out];simpa using hq);have a7:=ja1 hR.out.len;go_wp2_with (first|(go_at_call 75;(refine ja0 a4 ?_);rintro e w2 ⟨L,C,k,rfl,h1,h2,h3,h4⟩;have ak:=d.out.2.2.1.trans (h3.mono d.out.2.2.1.size);have ao:Z (L.map Itm.z=aJ s (a.map Itm.z) (b.map Itm.z) S/\Lv w2 C k L/\U g.heap.size g w2/\eR g.heap.size C L):=⟨h1,h2,ak,h4.mono d.out.2.2.1.size⟩;have aL:Z (ae dW 1 59 (w2.alloc (H #[I C L.length k] 59)) w1.heap.size (I (jb4 gb go) ss.length gc) ss/\ss.length+1<=maxLen/\(ss.length+1)*24<=140737488355328/\w1.heap.size<=(w2.alloc (H #[I C L.length k] 59)).heap.size):=⟨((hR.out.own.gr ap.out).below ak).gr ((gR _).alloc _),by have:=a7.out;unfold maxLen;omega,by have:=a7.out;omega,nT D.out.size (nT ak.size (by simp))⟩;clear h1 h2 h3 h4 ak)|(at_builtin;refine dZ _ rfl (.tmp 60) (.tmp 62) rfl w1.heap.size (I (jb4 gb go) ss.length gc) ss ⟨C,k,L⟩ ⟨w2.heap.size,0,none⟩ 1 rfl rfl aL.out.1 (kV rfl ⟨C,k,L⟩ _) aL.out.2.1 aL.out.2.2.1 aL.out.2.2.2 ?_;intro v3 w3 R a6 F)|fail);have m:=ja1 (hR.out.step ba.out (aT hQ.out.1).2.2.2.1 (aT hQ.out.1).2.2.2.2 an.out ap.out ao.out.1 ao.out.2.1 ao.out.2.2.1 ao.out.2.2.2 R a6 F);clear R a6 F;go_roundw;exact ⟨j+1,ss++[(⟨C,k,L⟩:Sl)],S++[aJ s (a.map Itm.z) (b.map Itm.z) S],ah++[aB s ah],by omega,by go_num,m⟩;simp[intOf];omega
    ·have an:Z (P=cz/\eu q (a.map Itm.z) (b.map Itm.z)=[]):=by
      have hn:¬cz=0:=(by simpa using hq);have hp:P=cz:=by rw[hQ.out.2,<-hR.out.e,ba.out];show (if aK s (a.map Itm.z) (b.map Itm.z) S=0 then _ else _)=_;rw[if_neg (by rw[a0.out];exact hn),a0.out]
      refine ⟨hp,?_⟩;unfold eu;rw[if_neg (by rw[hH.out.2,hp];exact hn)]
     go_wp2_with (go_at_call 75;(refine ja0 a4 ?_);rintro e w2 ⟨L,C,k,rfl,h1,h2,h3,h4⟩);go_ret2;exact ⟨[],none,0,by rw[an.out.1];rfl,⟨oL rfl,fun s hs=>(by cases hs),by rw[an.out.2];rfl⟩,ad.out.1.trans ((D.out.trans ((d.out.2.2.1.trans (h3.mono d.out.2.2.1.size)).mono D.out.size)).mono ad.out.1.size)⟩
 ·have b6:¬(j:Int)<(q.length:Int):=by omega
  have m:Z (P=0/\Sts wr GA ss (eu q (a.map Itm.z) (b.map Itm.z))/\U w.heap.size w wr):=by
   have hd:q.drop j=[]:=List.drop_eq_nil_of_le (by omega);have he:=hR.out.e;have hf:=hR.out.f;rw[hd] at he hf;have b2:P=0:=by rw[hQ.out.2,<-he];rfl
   refine ⟨b2,⟨bp.out,fun s hs=>(hR.out.each s hs).1,?_⟩,ad.out.1.trans (hR.out.bel.mono ad.out.1.size)⟩;unfold eu;rw[if_pos (by rw[hH.out.2];exact b2),<-hf,hR.out.z];rfl
  go_wp2;go_ret2;exact ⟨ss,GA,⟨gc,by rw[m.out.1];rfl⟩,m.out.2.1,m.out.2.2⟩
end
set_option linter.unusedSimpArgs false

structure Qs where
 p:Option N
 c:Nat
 q:List Stp
def fh (x:Qs):List iv:=[I x.p x.q.length x.c]
theorem gi (x:Qs):(fh x).length=1:=rfl
theorem vg (x:Qs):∀u∈fh x,u.oneCell'=true:=by intro u c;simp[fh] at c;rw[c];rfl
def wtL (x:Qs) (Q:List Qs):List Qs:=if wtE x.q (Q.map Qs.q)=0 then Q++[x] else Q
theorem Bd (x:Qs) (Q:List Qs):(wtL x Q).map Qs.q=wtQ x.q (Q.map Qs.q):=by unfold wtL wtQ;split<;>simp
theorem yV (W:ia) (x:Qs) (T:TypeId):aC fh 1 (W.alloc (H #[I x.p x.q.length x.c] T)) (jb4 W.heap.size 0) [x]:=by
 refine oR ⟨W.heap.size,0,rfl,by simp,fun j d i hi=> ?_⟩;obtain rfl:j=0:=by simp at d;omega
 obtain rfl:i=0:=by omega
 exact ab (w:=W) (gR _) (j:=0) rfl
theorem xL {n l q:Nat} (g:((q-1:Nat):Int)=n) (f:l=q) (c:0<q) (d:q<=8):(n:Int)<=8/\wrap64 (n:Int)=(n:Int)/\(l:Int)-1=(n:Int)/\(n:Int)<(l:Int):=by unfold wrap64;omega
theorem Tryz.infoU:(Tryz.prog.info? 44).map (fun i=>(i.zero,i.size,i.bytes))=some (some (I none 0 0),1,24):=by kernel_rfl
theorem kI (w:ia) {ops:Array Oper} {d:List Oper} {o:Oper} {a:Act} {Q:Exit->Act->ia->Prop} (k:o.guard=none) (s z:Operand)
  (ho:o.op= .call { callee:= .builtin .append,args:= #[s,z],argTypes:= #[37,37] })
  (c:Nat) (v:iv) (l:List Qs) (x:Qs) (A:N) (cap:Nat) (hs:a.eval s=v) (hz:a.eval z= I (some A) 1 cap) (j:ae fh 1 44 w c v l) (hr:aC fh 1 w (some A) [x])
  (m:l.length+1<=maxLen) (hb:(l.length+1)*24<=140737488355328) (g:c<=w.heap.size)
  (h:∀f w',ae fh 1 44 w' c f (l++[x])->w.grownBy w' v.ownBlock->(f.ownBlock=v.ownBlock\/f.ownBlock=some w.heap.size)->wpList X ops Q d (a.put o.dst f) w'):wpList X ops Q (o::d) a w :=
 wpList_plain k fun _ hK=>by
  obtain ⟨i0,hi,n,r,C⟩:=info_parts Tryz.infoU
  obtain ⟨f,w',D,E,F,_,R⟩:=run_append_own_at (P:=X) w c 37 o.type 44 i0 (I none 0 0) 1 24 Tryz.underlying37 hi n r C rfl (by omega) v l.length (bu fh l) j A 1 cap (bu fh [x]) (cA gi [x]) (hr.cells gi (by omega)) (fun u hu=>ef vg u [x] hu) m hb g
  have h2:ae fh 1 44 w' c f (l++[x]):=by
   show w'.ownsRow c _ 1 f (l++[x]).length (bu fh (l++[x]))
   rw[List.length_append,cV]
   exact E
  unfold Oper.wp execOp
  simp only[ho,resolve,invoke,builtin,Sem.run_bind,Sem.run_pure,Result.andThen_ok,List.map_toArray,List.map_cons,List.map_nil,hs,hz,D]
  exact hK _ _ (h f w' h2 F R)

theorem rH {w:ia} {M:Nat} {K:Nat->Prop} {id:Int} {s t:Tab} {V:Option N} {g n:Nat} (h:Pr w M K id s t (I V n g)) {i:Int} (hi:i<0\/(n:Int)<=i) (u:n<=4) :
  ib X 20 #[kf (jb4 M 0),J O i] w fun e w'=>e= Y (ix #[I none 0 0,J O 4])/\w'=w:=by
 obtain ⟨A,ca,C,l,B,cb,D,m,d,_⟩:=h;have f:=d.cell (j:=13) rfl;have c:inB i 0 ((n:Int)-1)=false:=by unfold inB;simp;omega
 clear d;go_enter Tryz.func20,Tryz.ntmps20;go_wp2_with (go_at_call 5;(with_reducible refine (dn c _).mono ?_);rintro e k ⟨rfl,r⟩;subst k);go_ret2;exact ⟨rfl,rfl⟩
theorem tV {w:ia} {M:Nat} {K:Nat->Prop} {id:Int} {s t:Tab} {V:Option N} {cv:Nat} {Q:List Qs} (h:Pr w M K id s t (I V Q.length cv)) (hr:aC fh 1 w V Q) (h4:Q.length<=4) {j:Nat} (hj:j<Q.length) (hq:Stps w Q[j].p Q[j].q) (hl:Q[j].q.length<=maxLen) (ht:fC w) :
  ib X 20 #[kf (jb4 M 0),J O j] w fun e w'=>∃(L:List Itm) (C:Option N) (k:Nat),e= Y (ix #[I C L.length k,J O (ct Q[j].q (ofR s) (ofR t))])/\L.map Itm.z=el Q[j].q (ofR s) (ofR t)/\Lv w' C k L/\jb2 w w':=by
 have a6:Tryz.prog.follows .mixedOrders=true:=by kernel_rfl
 obtain ⟨A,ca,C,cc,B,cb,D,cd,h1,h2,h3,_⟩:=h;obtain ⟨vb,vo,rfl,a5,aL⟩:=hr.at hj;obtain ⟨x,hx⟩:=jb0 (Q[j]);have a0:jb1 w vb (vo+j) (I x.p x.q.length x.c):=by have:=aL j hj 0 (by omega);rw[hx] at this;simpa[fh] using this
 rw[hx] at hq hl ⊢;obtain ⟨E,hE⟩:=jb0 (ct x.q (ofR s) (ofR t));obtain ⟨F,hF⟩:=jb0 (eu x.q (ofR s) (ofR t));have d:=ja2 hE hF;have ah:Z (∀W,jb2 w W->ib X 40 #[.agg (T6 s A ca C cc).toArray] W fun e w'=>∃(L:List Itm) (C:Option N) (c:Nat),e= Y (I C L.length c)/\L.map Itm.z=ofR s/\Lv w' C c L/\jb2 W w'):=fun W u=>by rw[rA h2.ok];exact nP s A ca C cc W h2.ok (h2.row.below u) (h2.cel.below u)
 have ak:Z (∀W,jb2 w W->ib X 40 #[.agg (T6 t B cb D cd).toArray] W fun e w'=>∃(L:List Itm) (C:Option N) (c:Nat),e= Y (I C L.length c)/\L.map Itm.z=ofR t/\Lv w' C c L/\jb2 W w'):=fun W u=>by rw[rA h3.ok];exact nP t B cb D cd W h3.ok (h3.row.below u) (h3.cel.below u)
 have an:Z (∀W L1 L2 C1 k1 C2 k2,jb2 w W->Lv W C1 k1 L1->L1.map Itm.z=ofR s->Lv W C2 k2 L2->L2.map Itm.z=ofR t->ib X 39 #[I x.p x.q.length x.c,I C1 L1.length k1,I C2 L2.length k2] W fun e w'=>∃(ss:List Sl) (C:Option N) (k:Nat),e= Y (ix #[I C ss.length k,J O E])/\Sts w' C ss F/\jb2 W w'):=fun W L1 L2 C1 k1 C2 k2 u l1 e1 l2 e2=>by have:=uc x.q x.p x.c L1 L2 C1 C2 k1 k2 W hl (hq.below u) l1 l2 (ht.below u);rw[e1,e2,hE,hF] at this;exact this
 have hS:Z (∀W,jb2 w W->(fun w'=>jb1 w' M 13 (I (jb4 vb vo) Q.length cv)/\jb1 w' vb (vo+j) (I x.p x.q.length x.c)/\jb1 w' M 1 (J O s.c.c0)/\jb1 w' M 2 (J O s.c.c1)/\jb1 w' M 3 (J O s.c.c2)/\jb1 w' M 4 (J O s.c.c3)/\jb1 w' M 5 (I A s.c.l.length ca)/\jb1 w' M 6 (I C s.e.length cc)/\jb1 w' M 7 (J O t.c.c0)/\jb1 w' M 8 (J O t.c.c1)/\jb1 w' M 9 (J O t.c.c2)/\jb1 w' M 10 (J O t.c.c3)/\jb1 w' M 11 (I B t.c.l.length cb)/\jb1 w' M 12 (I D t.e.length cd)) W):=fun W u=>by have c:=h1.below u;exact ⟨c.cell (j:=13) rfl,(u.cell (p:=(jb5 vb (vo+j))) a5).trans a0,c.cell (j:=1) rfl,c.cell (j:=2) rfl,c.cell (j:=3) rfl,c.cell (j:=4) rfl,c.cell (j:=5) rfl,c.cell (j:=6) rfl,c.cell (j:=7) rfl,c.cell (j:=8) rfl,c.cell (j:=9) rfl,c.cell (j:=10) rfl,c.cell (j:=11) rfl,c.cell (j:=12) rfl⟩
 have a4:inB (j:Int) 0 ((Q.length:Int)-1)=true:=by unfold inB;simp;omega
 have ba:(j:Int)<(Q.length:Int):=by omega
 have a9:(0:Int)<=(j:Int):=by omega
 have ad:=ja1 ((gR w).drew.below);have a3:=h1.cell (j:=13) rfl;clear h1 h2 h3 hr hq hl ht aL hx a0 hE hF;go_enter Tryz.func20,Tryz.ntmps20;go_wp2_with (go_at_call 5;(with_reducible refine (dn a4 _).mono ?_);rintro e w2 ⟨rfl,h2⟩;subst w2)
 go_region_held3 (fun w'=>jb1 w' M 13 (I (jb4 vb vo) Q.length cv)/\jb1 w' vb (vo+j) (I x.p x.q.length x.c)/\jb1 w' M 1 (J O s.c.c0)/\jb1 w' M 2 (J O s.c.c1)/\jb1 w' M 3 (J O s.c.c2)/\jb1 w' M 4 (J O s.c.c3)/\jb1 w' M 5 (I A s.c.l.length ca)/\jb1 w' M 6 (I C s.e.length cc)/\jb1 w' M 7 (J O t.c.c0)/\jb1 w' M 8 (J O t.c.c1)/\jb1 w' M 9 (J O t.c.c2)/\jb1 w' M 10 (J O t.c.c3)/\jb1 w' M 11 (I B t.c.l.length cb)/\jb1 w' M 12 (I D t.e.length cd)) (exact hS.out _ (by first|with_reducible exact ad.out|with_reducible exact m.out.1|with_reducible exact f.out.1|with_reducible exact r.out.1)) (first
  | (go_at_call 40;(with_reducible refine cM (ah.out _ ad.out) ?_);rintro e x1 ⟨L1,C1,k1,rfl,f1,f2,f3⟩;have m:Z (jb2 w x1/\Lv x1 C1 k1 L1/\L1.map Itm.z=ofR s):=⟨ad.out.trans (f3.mono ad.out.size),f2,f1⟩;clear f1 f2 f3)
  | (go_at_call 40;(with_reducible refine cM (ak.out _ m.out.1) ?_);rintro e x2 ⟨L2,C2,k2,rfl,f1,f2,f3⟩;have f:Z (jb2 w x2/\Lv x2 C1 k1 L1/\Lv x2 C2 k2 L2/\L2.map Itm.z=ofR t):=⟨m.out.1.trans (f3.mono m.out.1.size),m.out.2.1.below f3,f2,f1⟩;clear f1 f2 f3)
  | (go_at_call 39;(with_reducible refine cM (an.out _ L1 L2 _ _ _ _ f.out.1 f.out.2.1 m.out.2.2 f.out.2.2.1 f.out.2.2.2) ?_);rintro e x3 ⟨ss,C,k,rfl,f1,f2⟩;have r:Z (jb2 w x3/\Sts x3 C ss F):=⟨f.out.1.trans (f2.mono f.out.1.size),f1⟩;clear f1 f2))
 clear hS ah ak an a3;cases h1:(E != 0)
 ·obtain rfl:E=0:=by simpa using h1
  have g:=qi d.out.1;rw[d.out.2] at g;have ap:ss.length=x.q.length:=by have:=congrArg List.length r.out.2.z;simp at this;omega
  obtain ⟨bb,bo,n,y,rfl,a7,hn,bd,bl,a1,a2⟩:=r.out.2.at (i:=((x.q.length-1:Nat):Int)) (by omega) (by rw[g.1];omega);have R:Z (y.l.map Itm.z=el x.q (ofR s) (ofR t)/\Lv x3 y.A y.cap y.l/\jb2 w x3):=⟨by unfold el;rw[d.out.2];exact a2,a1,r.out.1⟩;have ao:=(dO (aT (gQ d.out.1).1).1).2.1;obtain ⟨bc,bh,a8,be⟩:=xL hn ap g.2 ao;clear a1 a2 hn ap g ao h1;go_wp2;go_ret2;exact ⟨y.l,y.A,y.cap,by rw[d.out.1];rfl,R.out⟩
 ·have R:Z (el x.q (ofR s) (ofR t)=[]):=oy (by rw[d.out.1];simpa using h1);go_wp2;go_ret2;exact ⟨[],none,0,by rw[d.out.1];rfl,by rw[R.out];rfl,⟨⟨oL rfl,fun x hx=>(by cases hx)⟩,dC.mk (fun _=>rfl) (nZ _),nZ _⟩,r.out.1⟩
theorem rI {w:ia} {M d:Nat} {K:Nat->Prop} {id:Int} {s t:Tab} {v:iv} {Q:List Qs} (h:Pr w M K id s t v) (l:ae fh 1 44 w d v Q) (ba:M<d) (a5:d<=w.heap.size) (hK:∀g,v.ownBlock=some g->¬K g) (h4:Q.length<=4) (x:Qs) (hl:x.q.length<=maxLen) (hq:Stps w x.p x.q) :
  ib X 11 #[kf (jb4 M 0),I x.p x.q.length x.c] w fun e w'=>e= Y (J O (wtE x.q (Q.map Qs.q)))/\∃v':iv,Pr w' M K id s t v'/\ae fh 1 44 w' d v' (wtL x Q)/\(∀g,v'.ownBlock=some g->v.ownBlock=some g\/w.heap.size<=g)/\Agr (fun b=>b≠M/\v.ownBlock≠some b) w w'/\∀B,B<=M->B<=d->U B w w':=by
 have ak:Z (∀E W,wtE x.q (Q.map Qs.q)=E->¬E=0->jb2 w W->∃v':iv,Pr W M K id s t v'/\ae fh 1 44 W d v' (wtL x Q)/\(∀g,v'.ownBlock=some g->v.ownBlock=some g\/w.heap.size<=g)/\Agr (fun b=>b≠M/\v.ownBlock≠some b) w W/\∀B,B<=M->B<=d->U B w W):=fun E W e e0 k =>⟨v,h.below k,by unfold wtL;rw[e,if_neg e0];exact ae.below l k,fun g u=>oL u,Agr.of k,fun B h1 h2=>k.mono (by omega)⟩
 have ao:=ju x.q x.p x.c w hl hq;obtain ⟨E,hE⟩:=jb0 (bX x.q);rw[hE] at ao;have hC:Z _:=ao;have a0:=ja1 hE;obtain ⟨VA,cv,rfl,a8,a9,_⟩:=ae.row gi l;have hI:=ja3 h l hK;clear ao hE hl hq h l hK a8 a9;go_enter Tryz.func11,Tryz.ntmps11;go_wp2_with fail;refine ja0 hC ?_;rintro e n ⟨rfl,f1⟩;have ad:=ja1 f1;clear f1 hC;cases hn:(E != 0);rotate_left
 ·have hx:Z (wtE x.q (Q.map Qs.q)=E/\¬E=0):=by have h0:¬E=0:=(by simpa using hn);exact ⟨by unfold wtE;rw[a0.out,if_neg h0],h0⟩
  go_wp2;go_ret;exact ⟨by rw[hx.out.1];rfl,ak.out E n hx.out.1 hx.out.2 ad.out⟩
 obtain rfl:E=0:=by simpa using hn
 clear hn;have hw:Z (wtE x.q (Q.map Qs.q)=if Q.length=4 then 2 else 0):=by show _=_;unfold wtE;rw[if_pos a0.out,List.length_map]
 obtain ⟨A,ca,C,cc,B,cb,D,cd,g1,g2,g3,g4,g5⟩:=hI.out.1;have hP:=ja5 (g1.below ad.out) g2 g3 g4 g5;clear g1 g2 g3 g4 g5;have a4:=hP.out.1.cell (j:=13) rfl;by_cases ap:Q.length=4
 ·have a7:(4:Int)<=(Q.length:Int):=by omega
  go_wp2;go_ret;exact ⟨by rw[hw.out,if_pos ap];rfl,ak.out 2 n (by rw[hw.out,if_pos ap]) (by decide) ad.out⟩
 have a7:¬(4:Int)<=(Q.length:Int):=by omega
 have R:Z (ae fh 1 44 (n.alloc (H #[I x.p x.q.length x.c] 44)) d (I VA Q.length cv) Q/\aC fh 1 (n.alloc (H #[I x.p x.q.length x.c] 44)) (jb4 n.heap.size 0) [x]/\d<=(n.alloc (H #[I x.p x.q.length x.c] 44)).heap.size/\Q.length+1<=maxLen/\(Q.length+1)*24<=140737488355328/\Cls (n.alloc (H #[I x.p x.q.length x.c] 44)) M (iS id s A ca C cc t B cb D cd (I VA Q.length cv))/\jb2 w (n.alloc (H #[I x.p x.q.length x.c] 44))):=by have u:Gr n (n.alloc (H #[I x.p x.q.length x.c] 44)):=(gR _).alloc _;have m:=ad.out.trans (u.below.mono ad.out.size);exact ⟨ae.below hI.out.2.1 m,yV _ x _,nT a5 m.size,by unfold maxLen;omega,by omega,hP.out.1.gr u,m⟩
 go_wp2_with (at_builtin;refine kI _ rfl (.tmp 21) (.tmp 23) rfl d (I VA Q.length cv) Q x (jb5 n.heap.size 0) 1 rfl rfl R.out.1 R.out.2.1 R.out.2.2.2.1 R.out.2.2.2.2.1 R.out.2.2.1 ?_);intro v8 w8 f a1 a2;have h8:Z (ae fh 1 44 w8 d v8 (Q++[x])/\(n.alloc (H #[I x.p x.q.length x.c] 44)).grownBy w8 (Value.slice VA Q.length cv).ownBlock/\(v8.ownBlock=(Value.slice VA Q.length cv).ownBlock\/v8.ownBlock=some (n.alloc (H #[I x.p x.q.length x.c] 44)).heap.size)):=⟨f,a1,by simpa using a2⟩;clear a1 a2;obtain ⟨r,F,rfl,_,_,_⟩:=ae.row gi f;clear f;have ah:=R.out.2.2.2.2.2.1.keep (h8.out.2.1.block M R.out.2.2.2.2.2.1.lt (fun e=>by have:=(World.ownsRow.lt R.out.1 M e.symm).1;omega));have c8:=ah.cell (j:=13) rfl;have z8:=ah.fz 13;have a3:wtE x.q (Q.map Qs.q)=0:=by rw[hw.out,if_neg ap]
 have a6:¬d<=M:=by omega
 have hf:Z (Pr (w8.jb3 M 13 (I r (Q++[x]).length F)) M K id s t (I r (Q++[x]).length F)/\ae fh 1 44 (w8.jb3 M 13 (I r (Q++[x]).length F)) d (I r (Q++[x]).length F) (wtL x Q)/\(∀g,(Value.slice r (Q++[x]).length F).ownBlock=some g->(Value.slice VA Q.length cv).ownBlock=some g\/w.heap.size<=g)/\Agr (fun b=>b≠M/\(Value.slice VA Q.length cv).ownBlock≠some b) w (w8.jb3 M 13 (I r (Q++[x]).length F))/\∀B,B<=M->B<=d->U B w (w8.jb3 M 13 (I r (Q++[x]).length F))):=by
  have m:=R.out.2.2.2.2.2.2;have aL:Agr (fun b=>b≠M/\(Value.slice VA Q.length cv).ownBlock≠some b) w (w8.jb3 M 13 (I r (Q++[x]).length F)):=((Agr.of m).trans ⟨h8.out.2.1.size,fun g u hl=>h8.out.2.1.block g hl fun e=>u.2 e.symm⟩).trans (aS (I r (Q++[x]).length F) fun k=>k.1 rfl);have an:Agr K w (w8.jb3 M 13 (I r (Q++[x]).length F)):=aL.mono fun b m=>⟨fun e=>hP.out.2.2.2.1 (e▸m),fun e=>hI.out.2.2 b e m⟩;refine ⟨⟨A,ca,C,cc,B,cb,D,cd,ah.put 13 (I r (Q++[x]).length F),hP.out.2.1.agr an,hP.out.2.2.1.agr an,hP.out.2.2.2.1,fun b m=>nL (hP.out.2.2.2.2 b m) an.size⟩,?_,fun g u=> ?_,aL,fun B h1 h2=> ?_⟩
  ·unfold wtL;rw[a3,if_pos rfl];exact cP h8.out.1 (aS (I r (Q++[x]).length F) a6)
  ·rcases h8.out.2.2 with e|e
   ·exact oL (e▸u)
   ·rw[e] at u;injection u with u;exact oR (by rw[<-u];exact m.size)
  ·exact ((show U B w _ from m.mono (by omega)).grown h8.out.2.1 (nT (show B<=w.heap.size by omega) m.size) fun g e=>by have:=(World.ownsRow.lt R.out.1 g e).1;omega).setCell h1 _
 clear ah h8 R hP a4;rw[show (Q++[x]).length=Q.length+1 by simp] at hf;go_wp2;go_ret;exact ⟨by rw[a3];rfl,_,hf.out⟩
end Go.Proofs.YtbkjgjjpnfhkhaaGreatDoor
