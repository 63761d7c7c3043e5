import Derived.Test.YtbkjgjjpnfhkhaaGreatDoorM13
set_option maxRecDepth 100000
set_option maxHeartbeats 8000000
open Go renaming World → I, Addr → H, Value → K, Calls → M
open Go.Ending renaming returned → N
open Go.IntKind renaming i64 → J
open Go.Obj renaming cells → U
open Go.Proofs.Tryz renaming prog → Y
open Go.RowKit renaming Hid → X
open Go.Value renaming slice → O, int → Z, agg → ia
namespace Go.Proofs.YtbkjgjjpnfhkhaaGreatDoor
open Go.RowKit Go.Sort Go.Maps

theorem om {q:List Stp} {A:Option H} {ca:Nat} {w:I} {E:Int} (c:bX q=E) (d:q.length<=maxLen) (f:Stps w A q) :
  M Y 60 #[O A q.length ca] w fun e w'=>e= N (Z J E)/\jb2 w w':=by rw[<-c];exact qI q A ca w d f
theorem Bk (x y:K) (w:I):(Instr.index 64 (ia #[x,y]) (Z J 0)).run Y w= .ok x w:=by kernel_rfl
theorem Bl (x y:K) (w:I):(Instr.index 64 (ia #[x,y]) (Z J 1)).run Y w= .ok y w:=by kernel_rfl
theorem jb (a b:List Itm) (A B:Option H) (ca cb:Nat) (w:I) (ha:Lv w A ca a) (hb:Lv w B cb b) :
  M Y 98 #[O A a.length ca,O B b.length cb] w fun e w'=>e= N (Z J (gU (a.map Itm.z) (b.map Itm.z)))/\Gr w w':=by
 have ao:X (Gr w (w.alloc (U #[O A a.length ca,O B b.length cb] 64))):=(gR _).alloc _;obtain ⟨w1,an⟩:=jb0 (w.alloc (U #[O A a.length ca,O B b.length cb] 64));have s0:jb1 w1 w.heap.size 0 (O A a.length ca):=by rw[<-an];exact ab (w:=w) (gR _) rfl
 have s1:jb1 w1 w.heap.size 1 (O B b.length cb):=by rw[<-an];exact ab (w:=w) (gR _) rfl
 have a2:w.heap.size<w1.heap.size:=by rw[<-an];simp
 rw[an] at ao;obtain ⟨E2,bd⟩:=jb0 (am (a.map Itm.z));obtain ⟨E3,be⟩:=jb0 (am (b.map Itm.z));obtain ⟨E,hE⟩:=jb0 (gU (a.map Itm.z) (b.map Itm.z));have f:=ja4 hE trivial bd be;rw[hE];have C:=ja3 ao.out (ha.gr ao.out) (hb.gr ao.out);have i0:=Bk (O A a.length ca) (O B b.length cb);have i1:=Bl (O A a.length ca) (O B b.length cb);go_enter Tryz.func98,Tryz.ntmps98;go_wp2;refine wp_loop_rounds 3 ?_;rw[rounds_succ];have ba:X (∀W,Gr w1 W->M Y 116 #[O A a.length ca] W fun e w'=>e= N (Z J E2)/\Gr W w'):=fun W h=>by rw[<-f.out.2.2.1];exact uN (C.out.2.1.gr h) rfl
 have bc:X (∀W,Gr w1 W->M Y 116 #[O B b.length cb] W fun e w'=>e= N (Z J E3)/\Gr W w'):=fun W h=>by rw[<-f.out.2.2.2];exact uN (C.out.2.2.gr h) rfl
 cases h2:(E2 != 0)
 ·have R:E2=0:=by simpa using h2
  go_wp2_with (go_at_call 116;refine cM (ba.out w1 (gR _)) ?_;rintro e w2 ⟨rfl,D⟩);rw[rounds_succ];cases h3:(E3 != 0)
  ·have ap:E3=0:=(by simpa using h3);go_wp2_with (go_at_call 116;refine cM (bc.out w2 D) ?_;rintro e w3 ⟨rfl,a6⟩);rw[rounds_succ];have l:=ja1 (D.trans a6);have z0:jb1 w3 w.heap.size 0 (O A a.length ca):=(l.out.below.cell (p:=(jb5 w.heap.size 0)) a2).trans s0;have z1:jb1 w3 w.heap.size 1 (O B b.length cb):=(l.out.below.cell (p:=(jb5 w.heap.size 1)) a2).trans s1;go_wp2;refine wp_loop_rounds 3 ?_;rw[rounds_succ];go_wp2;have F:=ja3 (C.out.1.trans l.out) (C.out.2.1.gr l.out) (C.out.2.2.gr l.out);have bl:a.length<=400:=(gj (by rw[f.out.2.2.1];exact R)).1;have bo:b.length<=400:=(gj (by rw[f.out.2.2.2];exact ap)).1;have aL:X (E=if (a.map Itm.z++b.map Itm.z).all (fun x=>decide (x.1.length=4))=true then 0 else 5):=by show _=_;rw[<-f.out.1];unfold gU;rw[if_pos (by rw[f.out.2.2.1];exact R),if_pos (by rw[f.out.2.2.2];exact ap)]
   have a1:X (∀x∈a++b,¬x.r.length=4->E=5):=(fun x m hn=>by rw[aL.out,if_neg];intro h;rw[<-List.map_append] at h;have:=List.all_eq_true.1 h x.z (List.mem_map.2 ⟨x,m,rfl⟩);exact hn (of_decide_eq_true this));have a7:X ((∀x∈a,x.r.length=4)->(∀x∈b,x.r.length=4)->E=0):=fun ha hb=>by
    rw[aL.out,if_pos];rw[<-List.map_append,List.all_eq_true];intro y hy;obtain ⟨x,m,rfl⟩:=List.mem_map.1 hy;rcases List.mem_append.1 m with e|e
    ·exact decide_eq_true (ha x e)
    ·exact decide_eq_true (hb x e)
   clear z0 z1 s0 s1;go_loopw [32] (fun i wr=>∃k:Nat,k<=a.length/\i= Z J k/\X ((∀x∈a.take k,x.r.length=4)/\Gr w3 wr)) (fun i _=>a.length-(intOf i).toNat);exact ⟨0,nZ _,rfl,fun x m=>(by simp at m),gR _⟩;obtain ⟨k,hk,rfl,u⟩:=hrel;by_cases j:k<a.length
   ·have ah:(k:Int)<(a.length:Int):=(by omega);obtain ⟨bb,bh,rfl,hb,ad⟩:=(F.out.2.1.gr u.out.2).items.at j;obtain ⟨x,m⟩:=jb0 (a[k]);obtain ⟨e0,e1⟩:=ad k j;rw[m] at e0 e1;have a9:X (x∈a):=by show _∈_;rw[<-m];exact gM j
    have a8:X (a.take (k+1)=a.take k++[x]):=(by show _=_;rw[List.take_succ_eq_append_getElem j,m]);clear ad m;cases h4:((x.r.length:Int) != 4)
    ·have g:x.r.length=4:=by have:(x.r.length:Int)=4:=(by simpa using h4);omega
     have d:X ((∀y∈a.take (k+1),y.r.length=4)/\Gr w3 (wr.alloc (U #[O x.p x.r.length x.c,Z J x.n] 101))):=⟨fun y hy=>by
      rw[a8.out] at hy;rcases List.mem_append.1 hy with e|e
      ·exact u.out.1 y e
      ·rw[List.mem_singleton.1 e];exact g,u.out.2.alloc _⟩
     clear g;go_wp2;go_roundw;exact ⟨k+1,by omega,by go_num,d⟩;simp[intOf];omega
    ·have g:¬x.r.length=4:=(by have:¬(x.r.length:Int)=4:=(by simpa using h4);omega);have d:X (E=5):=a1.out x (by simp[a9.out]) g;have a5:X (Gr w (wr.alloc (U #[O x.p x.r.length x.c,Z J x.n] 101))):=F.out.1.trans (u.out.2.alloc _);clear g;go_wp2;go_ret;exact ⟨by rw[d.out];rfl,a5.out⟩
   ·have ah:¬(k:Int)<(a.length:Int):=(by omega);have a0:X (∀x∈a,x.r.length=4):=by have:=u.out.1;rw[List.take_of_length_le (by omega)] at this;exact this
    go_wp2;rw[rounds_succ];have a3:=ja1 a0;have ak:=ja2 (F.out.1.trans u.out.2) (F.out.2.2.gr u.out.2);clear a0 u F;go_wp2;generalize wr=w5 at ak ⊢;go_loopw [32] (fun i wr=>∃k:Nat,k<=b.length/\i= Z J k/\X ((∀x∈b.take k,x.r.length=4)/\Gr w5 wr)) (fun i _=>b.length-(intOf i).toNat);exact ⟨0,nZ _,rfl,fun x m=>(by simp at m),gR _⟩;obtain ⟨k,hk,rfl,u⟩:=hrel;by_cases j:k<b.length
    ·have ah:(k:Int)<(b.length:Int):=(by omega);obtain ⟨bb,bh,rfl,hb,ad⟩:=(ak.out.2.gr u.out.2).items.at j;obtain ⟨x,m⟩:=jb0 (b[k]);obtain ⟨e0,e1⟩:=ad k j;rw[m] at e0 e1;have a9:X (x∈b):=by show _∈_;rw[<-m];exact gM j
     have a8:X (b.take (k+1)=b.take k++[x]):=(by show _=_;rw[List.take_succ_eq_append_getElem j,m]);clear ad m;cases h4:((x.r.length:Int) != 4)
     ·have g:x.r.length=4:=by have:(x.r.length:Int)=4:=(by simpa using h4);omega
      have d:X ((∀y∈b.take (k+1),y.r.length=4)/\Gr w5 (wr.alloc (U #[O x.p x.r.length x.c,Z J x.n] 101))):=⟨fun y hy=>by
       rw[a8.out] at hy;rcases List.mem_append.1 hy with e|e
       ·exact u.out.1 y e
       ·rw[List.mem_singleton.1 e];exact g,u.out.2.alloc _⟩
      clear g;go_wp2;go_roundw;exact ⟨k+1,by omega,by go_num,d⟩;simp[intOf];omega
     ·have g:¬x.r.length=4:=(by have:¬(x.r.length:Int)=4:=(by simpa using h4);omega);have d:X (E=5):=a1.out x (by simp[a9.out]) g;have a5:X (Gr w (wr.alloc (U #[O x.p x.r.length x.c,Z J x.n] 101))):=ak.out.1.trans (u.out.2.alloc _);clear g;go_wp2;go_ret;exact ⟨by rw[d.out];rfl,a5.out⟩
    ·have ah:¬(k:Int)<(b.length:Int):=(by omega);have a4:X (∀x∈b,x.r.length=4):=by have:=u.out.1;rw[List.take_of_length_le (by omega)] at this;exact this
     go_wp2;rw[rounds_succ];go_wp2;go_ret;exact ⟨by rw[a7.out a3.out a4.out];rfl,ak.out.1.trans u.out.2⟩
  ·have d:X (E3=E):=(by have hn:¬am (b.map Itm.z)=0:=(by rw[f.out.2.2.2];simpa using h3);show _=_;rw[<-f.out.1];unfold gU;rw[if_pos (by rw[f.out.2.2.1];exact R),if_neg hn];exact f.out.2.2.2.symm);go_wp2_with (go_at_call 116;refine cM (bc.out w2 D) ?_;rintro e w3 ⟨rfl,a6⟩);go_ret;exact ⟨by rw[<-d.out];rfl,C.out.1.trans (D.trans a6)⟩
 ·have d:X (E2=E):=by have hn:¬am (a.map Itm.z)=0:=(by rw[f.out.2.2.1];simpa using h2);show _=_;rw[<-f.out.1];unfold gU;rw[if_neg hn];exact f.out.2.2.1.symm
  go_wp2_with (go_at_call 116;refine cM (ba.out w1 (gR _)) ?_;rintro e w2 ⟨rfl,D⟩);go_ret;exact ⟨by rw[<-d.out];rfl,C.out.1.trans D⟩

theorem qd {s:Stp} {n:List Int} {S:List (List Zit)} (h:aB s n≠0) (hS:Ahd S n) (hk:s.k=2\/s.k=3\/s.k=8\/s.k=7\/s.k=9):0<=s.a/\s.a.toNat<S.length/\∀l:List Itm,l.map Itm.z=bm S s.a->OneOk s l:=by
 have C:inB s.a 0 ((n.length:Int)-1)=true:=by
  rcases hk with k|k|k|k|k
  ·exact (tM h k).1
  ·exact (rC h k).1
  ·exact (tN h k).1
  ·exact (yN h k).1
  ·exact (tO h k).1
 obtain ⟨E,F,R,h3⟩:=hS.at C;refine ⟨E,F,fun l D=> ?_⟩;have hz:=(aQ (bm S s.a)).1 R;have j:l.length<=400:=by have:=congrArg List.length D;simp at this;omega
 have f:∀x∈l,x.z∈bm S s.a:=fun x d=>by rw[<-D];exact List.mem_map.2 ⟨x,d,rfl⟩
 have u:∀x∈l,(x.r.length:Int)=n.getD s.a.toNat 0:=fun x d=>h3 x.z (f x d);refine ⟨j,fun x d=> ?_,fun k=> ?_,fun k=> ?_,fun k=> ?_,fun k=> ?_⟩
 ·have:=bg (hz.2.1 x.z (f x d));exact ⟨this.1,this.2.1⟩
 ·obtain ⟨_,g,m,_⟩:=tM h k;exact ⟨g,fun x d=>by rw[u x d];exact m⟩
 ·obtain ⟨_,g,m,_⟩:=rC h k;exact ⟨g,fun x d c hc=>by rw[u x d];exact m c hc⟩
 ·obtain ⟨_,g,_⟩:=tN h k;exact fun x d=>by rw[u x d];exact g
 ·obtain ⟨_,g,m,_⟩:=tO h k;exact fun x d=>by rw[u x d];exact ⟨m,g⟩
theorem A6 {s:Stp} {f:List Int} {S:List (List Zit)} (h:aB s f≠0) (m:Ahd S f) (hk:s.k=4) (l r:List Itm) (n:l.map Itm.z=bm S s.a) (u:r.map Itm.z=bm S s.b):JoinOk s.c s.v l r:=by
 obtain ⟨p1,p2,p3,p4,_⟩:=rD h hk;obtain ⟨_,_,E,F⟩:=m.at p1;obtain ⟨_,_,R,b3⟩:=m.at p2;have C:=(aQ (bm S s.a)).1 E;have D:=(aQ (bm S s.b)).1 R;have g:∀x∈l,x.z∈bm S s.a:=fun x d=>by rw[<-n];exact List.mem_map.2 ⟨x,d,rfl⟩
 have j:∀x∈r,x.z∈bm S s.b:=fun x d=>by rw[<-u];exact List.mem_map.2 ⟨x,d,rfl⟩
 have wa:∀x∈l,(x.r.length:Int)=f.getD s.a.toNat 0:=fun x d=>F x.z (g x d);have wb:∀x∈r,(x.r.length:Int)=f.getD s.b.toNat 0:=fun x d=>b3 x.z (j x d);exact ⟨by have:=congrArg List.length n;simp at this;omega,by have:=congrArg List.length u;simp at this;omega,fun x d=>by rw[wa x d];exact p4,fun x d=>by rw[wb x d];exact p3,fun x d=>⟨(bg (C.2.1 x.z (g x d))).1,(bg (C.2.1 x.z (g x d))).2.1⟩,fun x d=>⟨(bg (D.2.1 x.z (j x d))).1,(bg (D.2.1 x.z (j x d))).2.1⟩⟩
theorem Bc {s:Stp} {E:List Int} {S:List (List Zit)} {a b:List Itm} {A B:Option H} {ca cb:Nat} {d:Option H} {sc:Nat} {g:List Sl} {w:I} (h:aB s E≠0) (c:Ahd S E) (r:Sts w d g S) (F:Lv w A ca a) (R:Lv w B cb b) (D:aq w s.p s.l) :
  M Y 156 #[ia (ja8 s),ia #[O A a.length ca,O B b.length cb],O d g.length sc] w fun e w'=>∃(L:List Itm) (C:Option H) (k:Nat),e= N (.tuple #[O C L.length k,Z J (aK s (a.map Itm.z) (b.map Itm.z) S)])/\L.map Itm.z=aJ s (a.map Itm.z) (b.map Itm.z) S/\Lv w' C k L/\jb2 w w'/\NwT w' k w.heap.size C L:=by
 rcases kinds h with k|k|k|k|k|k|k|k|k
 ·exact Bb s a b A B ca cb d sc g S w k (Af h k).1 F R
 ·obtain ⟨j,m,n⟩:=qd h c (oL k);exact jz s a b A B ca cb d sc g S w 2 k (oL rfl) j m r D n
 ·obtain ⟨j,m,n⟩:=qd h c (oR (oL k));exact jz s a b A B ca cb d sc g S w 3 k (oR (oL rfl)) j m r D n
 ·obtain ⟨u,f,_,_,_⟩:=rD h k;exact oM s a b A B ca cb d sc g S w (oL k) (c.at u).1 (c.at u).2.1 (c.at f).1 (c.at f).2.1 r (A6 h c) (c.at f).2.2.1
 ·obtain ⟨u,f,_,_⟩:=wT h k;exact oM s a b A B ca cb d sc g S w (oR (oL k)) (c.at u).1 (c.at u).2.1 (c.at f).1 (c.at f).2.1 r (fun e=>by omega) (c.at f).2.2.1
 ·obtain ⟨u,f,_,_⟩:=wU h k;exact oM s a b A B ca cb d sc g S w (oR (oR k)) (c.at u).1 (c.at u).2.1 (c.at f).1 (c.at f).2.1 r (fun e=>by omega) (c.at f).2.2.1
 ·obtain ⟨j,m,n⟩:=qd h c (oR (oR (oR (oL k))));exact jz s a b A B ca cb d sc g S w 7 k (oR (oR (oR (oL rfl)))) j m r D n
 ·obtain ⟨j,m,n⟩:=qd h c (oR (oR (oL k)));exact jz s a b A B ca cb d sc g S w 8 k (oR (oR (oL rfl))) j m r D n
 ·obtain ⟨j,m,n⟩:=qd h c (oR (oR (oR (oR k))));exact jz s a b A B ca cb d sc g S w 9 k (oR (oR (oR (oR rfl)))) j m r D n

theorem aC.grown {α : Type} {enc: α -> List K} {k:Nat} {w w':I} {A:Option H} {l:List α} {row:Option Nat} (h:aC enc k w A l) (d:w.grownBy w' row) (c:∀a,A=some a->l≠[]->some a.block≠row):aC enc k w' A l:=by
 rcases h with h|⟨b,off,hA,hb,hc⟩
 ·exact oL h
 ·by_cases f:l=[]
  ·exact oL f
  ·refine oR ⟨b,off,hA,nL hb d.size,fun j g i hi=> ?_⟩;rw[World.cell?_of_block (a:=(jb5 b (off+j*k+i))) (d.block b hb (c _ hA f))];exact hc j g i hi
def Far (row:Option Nat) (s:Sl):Prop:=(∀a,s.A=some a->s.l≠[]->some a.block≠row)/\∀x∈s.l,∀a,x.p=some a->x.r≠[]->some a.block≠row
theorem Lv.grown {w w':I} {s:Sl} {row:Option Nat} (h:Lv w s.A s.cap s.l) (f:w.grownBy w' row) (d:Far row s):Lv w' s.A s.cap s.l :=
 ⟨⟨h.items.row.grown f d.1,fun x c=>⟨(h.items.each x c).1.grown f (d.2 x c),(h.items.each x c).2⟩⟩,h.nilc,h.len⟩
theorem Far.top {w:I} {s:Sl} (h:Lv w s.A s.cap s.l) {n:Nat} (j:w.heap.size<=n):Far (some n) s :=
 ⟨fun a c d e=>by have:=h.items.row.lt a c d;simp at e;omega,fun x g a c f e=>by have:=(h.items.each x g).1.lt a c f;simp at e;omega⟩
theorem Far.new {s:Sl} {n:Nat} {row:Option Nat} (h:eR n s.A s.l) (d:∀g,row=some g->g<n):Far row s :=
 ⟨fun a c _ e=>by have:=h.1 a c;have:=d _ e.symm;omega,fun x f a c _ e=>by have:=h.2 x f a c;have:=d _ e.symm;omega⟩
theorem jk (s:Sl):(dW s).length=1:=rfl
theorem ve (s:Sl):∀u∈dW s,u.oneCell'=true:=by intro u c;simp[dW] at c;rw[c];rfl
theorem Tryz.infoS:(Tryz.prog.info? 59).map (fun i=>(i.zero,i.size,i.bytes))=some (some (O none 0 0),1,24):=by kernel_rfl
theorem dZ (w:I) {ops:Array Oper} {d:List Oper} {o:Oper} {a:Act} {Q:Exit->Act->I->Prop} (k:o.guard=none) (s z:Operand)
  (ho:o.op= .call { callee:= .builtin .append,args:= #[s,z],argTypes:= #[94,94] })
  (c:Nat) (v:K) (l:List Sl) (x:Sl) (A:H) (cap:Nat) (hs:a.eval s=v) (hz:a.eval z= O (some A) 1 cap) (j:ae dW 1 59 w c v l) (hr:aC dW 1 w (some A) [x])
  (m:l.length+1<=maxLen) (hb:(l.length+1)*24<=140737488355328) (g:c<=w.heap.size)
  (h:∀f w',ae dW 1 59 w' c f (l++[x])->w.grownBy w' v.ownBlock->(f.ownBlock=v.ownBlock\/f.ownBlock=some w.heap.size)->wpList Y ops Q d (a.put o.dst f) w'):wpList Y ops Q (o::d) a w :=
 wpList_plain k fun _ hK=>by
  obtain ⟨i0,hi,n,r,C⟩:=info_parts Tryz.infoS
  obtain ⟨f,w',D,E,F,_,R⟩:=run_append_own_at (P:=Y) w c 94 o.type 59 i0 (O none 0 0) 1 24 Tryz.underlying94 hi n r C rfl (by omega) v l.length (bu dW l) j A 1 cap (bu dW [x]) (cA jk [x]) (hr.cells jk (by omega)) (fun u hu=>ef ve u [x] hu) m hb g
  have h2:ae dW 1 59 w' c f (l++[x]):=by
   show w'.ownsRow c _ 1 f (l++[x]).length (bu dW (l++[x]))
   rw[List.length_append,cV]
   exact E
  unfold Oper.wp execOp
  simp only[ho,resolve,invoke,builtin,Sem.run_bind,Sem.run_pure,Result.andThen_ok,List.map_toArray,List.map_cons,List.map_nil,hs,hz,D]
  exact hK _ _ (h f w' h2 F R)

theorem Tryz.infoQ2:(Tryz.prog.info? 132).map (fun i=>(i.zero,i.size,i.bytes))=some (some (ia #[Z J 0,Z J 0,Z J 0,Z J 0,Z J 0,Z J 0,O none 0 0]),7,72):=by kernel_rfl

structure ApartS (w:I) (base:Nat) (ob:Option Nat) (x:Stp):Prop where
 row:aq w x.p x.l
 len:x.l.length<=maxLen
 nil:x.p=none->x.n=0
 own:∀a,x.p=some a->base<=a.block/\a.block<w.heap.size/\ob≠some a.block
structure OwnS (w:I) (base:Nat) (v:K) (l:List Stp):Prop where
 own:ae iW 7 132 w base v l
 each:∀x∈l,ApartS w base v.ownBlock x
theorem OwnS.nil (w:I) (c:Nat):OwnS w c (O none 0 0) []:=⟨ae.nil _ _ _ _ _,fun x d=>by cases d⟩
theorem ApartS.below {w w':I} {c:Nat} {ob:Option Nat} {x:Stp} (h:ApartS w c ob x) (q:jb2 w w'):ApartS w' c ob x :=
 ⟨h.row.below q,h.len,h.nil,fun a d=>⟨(h.own a d).1,nL (h.own a d).2.1 q.size,(h.own a d).2.2⟩⟩
theorem OwnS.below {w w':I} {c:Nat} {v:K} {l:List Stp} (h:OwnS w c v l) (q:jb2 w w'):OwnS w' c v l:=⟨h.own.below q,fun x d=>(h.each x d).below q⟩
theorem OwnS.gr {w w':I} {c:Nat} {v:K} {l:List Stp} (h:OwnS w c v l) (q:Gr w w'):OwnS w' c v l:=h.below q.below
theorem OwnS.stps {w:I} {c:Nat} {v:K} {l:List Stp} (h:OwnS w c v l):∃A cap,v= O A l.length cap/\(A=none->cap=0)/\Stps w A l:=by obtain ⟨A,cap,j,f,g,k⟩:=h.own.row jj;exact ⟨A,cap,j,f,⟨g,fun x d=>⟨(h.each x d).row,(h.each x d).len,(h.each x d).nil⟩⟩⟩
def NwQ (n:Nat) (A:Option H) (q:List Stp):Prop:=(∀a,A=some a->n<=a.block)/\∀s∈q,∀a,s.p=some a->n<=a.block
theorem OwnS.nw {w:I} {d c:Nat} {A:Option H} {l:List Stp} (h:OwnS w d (O A l.length c) l):NwQ d A l:=⟨fun a f=>(World.ownsRow.lt h.own a.block (by rw[f];rfl)).1,fun s g a f=>((h.each s g).own a f).1⟩
theorem ApartS.grown {w w':I} {c:Nat} {ob d:Option Nat} {x:Stp} (h:ApartS w c ob x) (q:w.grownBy w' ob) (l:d=ob\/d=some w.heap.size):ApartS w' c d x:=by
 refine ⟨?_,h.len,h.nil,fun a f=>⟨(h.own a f).1,nL (h.own a f).2.1 q.size,?_⟩⟩
 ·rcases h.row with k|⟨b,off,hp,hb,hc⟩
  ·exact oL k
  ·refine oR ⟨b,off,hp,nL hb q.size,fun j m i hi=> ?_⟩;have g:=(h.own _ hp).2.2;rw[World.cell?_of_block (a:=(jb5 b (off+j*1+i))) (q.block b hb fun e=>g e.symm)];exact hc j m i hi
 ·rcases l with e|e
  ·rw[e];exact (h.own a f).2.2
  ·rw[e];intro k;injection k with k;have:=(h.own a f).2.1;omega
theorem mO (w:I) (D:TypeId) (c:Nat) (v:K) (l:List Stp) (x:Stp) (A:H) (cap:Nat) (f:OwnS w c v l) (hr:aC iW 7 w (some A) [x]) (hx:ApartS w c v.ownBlock x)
  (j:l.length+1<=maxLen) (R:(l.length+1)*72<=140737488355328) (d:c<=w.heap.size) :
  ∃g w',(Builtin.append_ #[44,44] D #[v,O (some A) 1 cap]).run Y w= .ok g w'/\OwnS w' c g (l++[x])/\Below c w w'/\w.grownBy w' v.ownBlock:=by
 obtain ⟨i0,hi,m,n,r⟩:=info_parts Tryz.infoQ2;obtain ⟨g,w',E,F,h,_,C⟩:=run_append_own_at (P:=Y) w c 44 D 132 i0 (ia #[Z J 0,Z J 0,Z J 0,Z J 0,Z J 0,Z J 0,O none 0 0]) 7 72 Tryz.underlying44 hi m n r rfl (by omega) v l.length (bu iW l) f.own A 1 cap (bu iW [x]) (cA jj [x]) (hr.cells jj (by omega)) (fun u hu=>ef va u [x] hu) j R d;refine ⟨g,w',E,⟨?_,fun y hy=> ?_⟩,ae.grown_below f.own h d,h⟩
 ·show w'.ownsRow c _ 7 g (l++[x]).length (bu iW (l++[x]));rw[List.length_append,cV];exact F
 ·rcases List.mem_append.1 hy with k|k
  ·exact (f.each y k).grown h C
  ·have:y=x:=(by simpa using k);subst this;exact hx.grown h C
theorem kd (w:I) {ops:Array Oper} {d:List Oper} {o:Oper} {a:Act} {Q:Exit->Act->I->Prop} (k:o.guard=none) (s z:Operand)
  (E:o.op= .call { callee:= .builtin .append,args:= #[s,z],argTypes:= #[44,44] })
  (c:Nat) (v:K) (l:List Stp) (x:Stp) (A:H) (cap:Nat) (F:a.eval s=v) (hz:a.eval z= O (some A) 1 cap) (g:OwnS w c v l) (n:aC iW 7 w (some A) [x]) (R:ApartS w c v.ownBlock x)
  (m:l.length+1<=maxLen) (D:(l.length+1)*72<=140737488355328) (f:c<=w.heap.size)
  (h:∀j w',OwnS w' c j (l++[x])->Below c w w'->wpList Y ops Q d (a.put o.dst j) w'):wpList Y ops Q (o::d) a w :=
 wpList_plain k fun _ C=>by
  obtain ⟨j,w',n,r,u,_⟩:=mO w o.type c v l x A cap g n R m D f
  unfold Oper.wp execOp
  simp only[E,resolve,invoke,builtin,Sem.run_bind,Sem.run_pure,Result.andThen_ok,List.map_toArray,List.map_cons,List.map_nil,F,hz,n]
  exact C _ _ (h j w' r u)

end Go.Proofs.YtbkjgjjpnfhkhaaGreatDoor

namespace Go.Proofs.YtbkjgjjpnfhkhaaGreatDoor

def Small (n:Int):Prop:= -1073741824<=n/\n<=1073741824
structure Fine (s:Stp):Prop where
 a:Small s.a
 b:Small s.b
 c:Small s.c
 o:Small s.o
 v:Small s.v
 l:s.l.length<=8/\∀x∈s.l,Small x
theorem bL {n lo hi:Int} (h:inB n lo hi=true) (c: -1073741824<=lo) (d:hi<=1073741824):Small n:=by simp only[inB,Bool.and_eq_true,decide_eq_true_eq] at h;exact ⟨by omega,by omega⟩
theorem aG {n:Int} (h:decide (n=0)=true):Small n:=by
 have:n=0:=by simpa using h
 exact ⟨by omega,by omega⟩
theorem eW {l:List Int} (h:l.isEmpty=true):l.length<=8/\∀x∈l,Small x:=by
 have:l=[]:=by simpa using h
 subst this;exact ⟨by simp,fun x c=>by cases c⟩
theorem uy {s:Stp} {u:List Int} (h:aB s u≠0) (R:u.length<=8) (r:∀x∈u,0<=x/\x<=8):Fine s:=by
 have E:=lK r s.a.toNat;have F:=lK r s.b.toNat;by_cases C:1<=s.k/\s.k<=9
 ·have c:s.k=1\/s.k=2\/s.k=3\/s.k=4\/s.k=5\/s.k=6\/s.k=7\/s.k=8\/s.k=9:=by omega
  rcases c with c|c|c|c|c|c|c|c|c
  ·rw[Ak c] at h;have t:=Classical.not_not.1 (fun e=>h (if_neg e));simp only[Bool.and_eq_true] at t;obtain ⟨⟨⟨⟨⟨d,f⟩,g⟩,m⟩,j⟩,l⟩:=t;exact ⟨bL d (by omega) (by omega),aG f,aG g,aG m,aG j,eW l⟩
  ·rw[zh c] at h;have t:=Classical.not_not.1 (fun e=>h (if_neg e));simp only[Bool.and_eq_true] at t;obtain ⟨⟨⟨⟨⟨d,f⟩,g⟩,m⟩,j⟩,l⟩:=t;exact ⟨bL d (by omega) (by omega),aG f,bL l (by omega) (by omega),bL m (by omega) (by omega),bL j (by omega) (by omega),eW g⟩
  ·rw[zi c] at h;have t:=Classical.not_not.1 (fun e=>h (if_neg e));simp only[Bool.and_eq_true] at t;obtain ⟨⟨⟨⟨⟨⟨d,f⟩,g⟩,m⟩,j⟩,l⟩,n⟩:=t;exact ⟨bL d (by omega) (by omega),aG f,aG j,aG l,aG n,⟨by simp only[inB,Bool.and_eq_true,decide_eq_true_eq] at g;omega,fun x D=>bL (List.all_eq_true.1 m x D) (by omega) (by omega)⟩⟩
  ·rw[zj c] at h;have t:=Classical.not_not.1 (fun e=>h (if_neg e));simp only[Bool.and_eq_true] at t;obtain ⟨⟨⟨⟨⟨⟨d,f⟩,g⟩,m⟩,j⟩,l⟩,n⟩:=t;exact ⟨bL d (by omega) (by omega),bL f (by omega) (by omega),bL l (by omega) (by omega),aG n,bL j (by omega) (by omega),eW g⟩
  ·rw[Am c] at h;have t:=Classical.not_not.1 (fun e=>h (if_neg e));simp only[Bool.and_eq_true] at t;obtain ⟨⟨⟨⟨⟨⟨d,f⟩,g⟩,m⟩,j⟩,l⟩,n⟩:=t;exact ⟨bL d (by omega) (by omega),bL f (by omega) (by omega),aG j,aG l,aG n,eW g⟩
  ·rw[An c] at h;have t:=Classical.not_not.1 (fun e=>h (if_neg e));simp only[Bool.and_eq_true] at t;obtain ⟨⟨⟨⟨⟨⟨d,f⟩,g⟩,m⟩,j⟩,l⟩,n⟩:=t;exact ⟨bL d (by omega) (by omega),bL f (by omega) (by omega),aG j,aG l,aG n,eW g⟩
  ·rw[zk c] at h;have t:=Classical.not_not.1 (fun e=>h (if_neg e));simp only[Bool.and_eq_true] at t;obtain ⟨⟨⟨⟨⟨d,f⟩,g⟩,m⟩,j⟩,l⟩:=t;exact ⟨bL d (by omega) (by omega),aG f,aG m,aG j,aG l,eW g⟩
  ·rw[xM c] at h;have t:=Classical.not_not.1 (fun e=>h (if_neg e));simp only[Bool.and_eq_true] at t;obtain ⟨⟨⟨⟨⟨d,f⟩,g⟩,m⟩,j⟩,l⟩:=t;exact ⟨bL d (by omega) (by omega),aG f,bL m (by omega) (by omega),aG j,aG l,eW g⟩
  ·rw[zm c] at h;have t:=Classical.not_not.1 (fun e=>h (if_neg e));simp only[Bool.and_eq_true] at t;obtain ⟨⟨⟨⟨⟨d,f⟩,g⟩,m⟩,j⟩,l⟩:=t;exact ⟨bL d (by omega) (by omega),aG f,bL j (by omega) (by omega),aG l,bL m (by omega) (by omega),eW g⟩
 ·exact absurd (uE C) h

end Go.Proofs.YtbkjgjjpnfhkhaaGreatDoor

namespace Go.Proofs.YtbkjgjjpnfhkhaaGreatDoor
open Go.RowKit Go.Sort

theorem kB:∀(q:List Stp) (c:List Int),(∀x∈c,0<=x/\x<=8)->c.length+q.length<=8->(bT q c).isSome=true->∀s∈q,s.l.length<=8
 | [],_,_,_,_=>fun s g=>by cases g
 | s::t,c,h1,h2,h3=>by
  have d:(if aB s c=0 then none else bT t (c++[aB s c])).isSome=true:=h3;by_cases e:aB s c=0
  ·rw[if_pos e] at d;cases d
  ·rw[if_neg e] at d;have f:=rQ s h1
   have ih:=kB t (c++[aB s c]) (fun x j=>by
    rcases List.mem_append.1 j with k|k
    ·exact h1 x k
    ·rw[List.mem_singleton.1 k];exact f) (by simp at h2 ⊢;omega) d
   intro u h;rcases List.mem_cons.1 h with k|k
   ·subst k;simp at h2;exact (uy e (by omega) h1).l.1
   ·exact ih u k
theorem qY {q:List Stp} (h:bX q=0):q.length<=8/\∀s∈q,s.l.length<=8:=by obtain ⟨g,c,d⟩:=dO h;exact ⟨c,kB q [] (fun x f=>by cases f) (by simpa using c) d⟩
def zx (n m:Nat) (C:Option H) (q:List Stp):Prop:=(∀a,C=some a->n<=a.block/\a.block<m)/\∀s∈q,∀a,s.p=some a->n<=a.block/\a.block<m
theorem xh {W:I} {s:Stp} {C:Option H} {c:Nat}:aC iW 7 (W.alloc (U #[Z J s.k,Z J s.a,Z J s.b,Z J s.c,Z J s.o,Z J s.v,O C s.l.length c] 132)) (jb4 W.heap.size 0) [{ s with p:=C,n:=c }]:=by
 refine oR ⟨W.heap.size,0,rfl,by simp,fun j d i hi=> ?_⟩;obtain rfl:j=0:=by simp at d;omega
 rw[show 0+0*7+i=i by omega];match i,hi with
 | 0,_=>exact ab (w:=W) (gR _) rfl
 | 1,_=>exact ab (w:=W) (gR _) rfl
 | 2,_=>exact ab (w:=W) (gR _) rfl
 | 3,_=>exact ab (w:=W) (gR _) rfl
 | 4,_=>exact ab (w:=W) (gR _) rfl
 | 5,_=>exact ab (w:=W) (gR _) rfl
 | 6,_=>exact ab (w:=W) (gR _) rfl
theorem sQ {q:List Stp} {k:Nat} (h:k<q.length) {s s':Stp} (f:q[k]=s) {r:List Stp} (d:r.map bare=(q.take k).map bare) (c:bare s'=bare s):(r++[s']).map bare=(q.take (k+1)).map bare:=by rw[List.take_succ_eq_append_getElem h,List.map_append,List.map_append,d,f];simp[c]

theorem sP (q:List Stp) (A:Option H) (ca:Nat) (w:I) (hl:q.length<=8) (hs:∀s∈q,s.l.length<=8) (hq:Stps w A q) :
  M Y 61 #[O A q.length ca] w fun e w'=>∃(q':List Stp) (C:Option H) (k:Nat),e= N (O C q'.length k)/\q'.map bare=q.map bare/\Stps w' C q'/\(C=none->k=0)/\zx w.heap.size w'.heap.size C q'/\jb2 w w':=by
 have hH:=ja2 hq hs;go_enter Tryz.func61,Tryz.ntmps61;go_wp2;go_loopw [3,8] (fun u i wr=>∃(k:Nat) (r:List Stp),k<=q.length/\i= Z J k/\X (r.map bare=(q.take k).map bare/\OwnS wr w.heap.size u r/\jb2 w wr)) (fun _ i _=>q.length-(intOf i).toNat);exact ⟨0,[],nZ _,rfl,rfl,OwnS.nil _ _,bR _ _⟩;obtain ⟨k,r,hk,rfl,hR⟩:=hrel;have bd:X (r.length=k):=by have:=congrArg List.length hR.out.1;simp at this;show _=_;omega
 by_cases f:k<q.length
 ·have ba:(k:Int)<(q.length:Int):=by omega
  have hI:=ja1 (hH.out.1.below hR.out.2.2);obtain ⟨bb,R,rfl,hb,E⟩:=hI.out.at f;obtain ⟨s,hs⟩:=jb0 (q[k]);have a3:s∈q:=by rw[<-hs];exact gM f
  have bv:s.l.length<=8:=hH.out.2 s a3;have be:=ja1 (hI.out.each s a3);have bs:X (∀s',bare s'=bare s->(r++[s']).map bare=(q.take (k+1)).map bare):=fun s' h=>sQ f hs hR.out.1 h;rw[hs] at E;have m0:jb1 wr bb (R+k*7) (Z J s.k):=E 0 (by omega);have m1:jb1 wr bb (R+k*7+1) (Z J s.a):=E 1 (by omega);have m2:jb1 wr bb (R+k*7+2) (Z J s.b):=E 2 (by omega);have m3:jb1 wr bb (R+k*7+3) (Z J s.c):=E 3 (by omega);have m4:jb1 wr bb (R+k*7+4) (Z J s.o):=E 4 (by omega);have m5:jb1 wr bb (R+k*7+5) (Z J s.v):=E 5 (by omega);have m6:jb1 wr bb (R+k*7+6) (O s.p s.l.length s.n):=E 6 (by omega);obtain ⟨m,D⟩:=jb0 (wr.alloc (U (ja8 s) 132));have a1:X (Gr wr m):=by show Gr _ _;rw[<-D];exact (gR _).alloc _
  have ah:X (wr.heap.size<m.heap.size):=by show _<_;rw[<-D];simp
  have x0:jb1 m wr.heap.size 0 (Z J s.k):=by rw[<-D];exact ab (w:=wr) (gR _) rfl
  have x1:jb1 m wr.heap.size 1 (Z J s.a):=by rw[<-D];exact ab (w:=wr) (gR _) rfl
  have x2:jb1 m wr.heap.size 2 (Z J s.b):=by rw[<-D];exact ab (w:=wr) (gR _) rfl
  have x3:jb1 m wr.heap.size 3 (Z J s.c):=by rw[<-D];exact ab (w:=wr) (gR _) rfl
  have x4:jb1 m wr.heap.size 4 (Z J s.o):=by rw[<-D];exact ab (w:=wr) (gR _) rfl
  have x5:jb1 m wr.heap.size 5 (Z J s.v):=by rw[<-D];exact ab (w:=wr) (gR _) rfl
  have x6:jb1 m wr.heap.size 6 (O s.p s.l.length s.n):=by rw[<-D];exact ab (w:=wr) (gR _) rfl
  have f6:m.frozen? (jb5 wr.heap.size 6)=false:=by rw[<-D];exact ee (w:=wr) (gR _) 6
  have ap:X (aq m s.p s.l/\(s.p=none->s.n=0)/\0+s.l.length<=maxLen/\(0+s.l.length)*8<=140737488355328):=⟨be.out.1.gr a1.out,be.out.2.2,by unfold maxLen;omega,by omega⟩;clear E hs a3;have bo:X (∀d,jb2 m d->∀v,jb1 (d.jb3 wr.heap.size 6 v) wr.heap.size 0 (Z J s.k)/\jb1 (d.jb3 wr.heap.size 6 v) wr.heap.size 1 (Z J s.a)/\jb1 (d.jb3 wr.heap.size 6 v) wr.heap.size 2 (Z J s.b)/\jb1 (d.jb3 wr.heap.size 6 v) wr.heap.size 3 (Z J s.c)/\jb1 (d.jb3 wr.heap.size 6 v) wr.heap.size 4 (Z J s.o)/\jb1 (d.jb3 wr.heap.size 6 v) wr.heap.size 5 (Z J s.v)/\jb1 (d.jb3 wr.heap.size 6 v) wr.heap.size 6 v):=fun d h v=>by have hc:∀i u,jb1 m wr.heap.size i u->jb1 d wr.heap.size i u:=fun i u e=>(h.cell (p:=(jb5 wr.heap.size i)) ah.out).trans e;have ho:∀i:Nat,i<6->(d.jb3 wr.heap.size 6 v).cell? (jb5 wr.heap.size i)=d.cell? (jb5 wr.heap.size i):=fun i hi=>World.cell?_setCell_other _ _ _ _ (by intro e;injection e with _ e;omega);exact ⟨(ho 0 (by omega)).trans (hc 0 _ x0),(ho 1 (by omega)).trans (hc 1 _ x1),(ho 2 (by omega)).trans (hc 2 _ x2),(ho 3 (by omega)).trans (hc 3 _ x3),(ho 4 (by omega)).trans (hc 4 _ x4),(ho 5 (by omega)).trans (hc 5 _ x5),World.cell?_setCell_same _ _ _ (hc 6 _ x6)⟩
  have bp:X (∀d C c,jb2 m d->aq d C s.l->(C=none->c=0)->(∀a,C=some a->m.heap.size<=a.block/\a.block<d.heap.size)->∀w4,d.jb3 wr.heap.size 6 (O C s.l.length c)=w4 ->
    OwnS (w4.alloc (U #[Z J s.k,Z J s.a,Z J s.b,Z J s.c,Z J s.o,Z J s.v,O C s.l.length c] 132)) w.heap.size u3 r/\aC iW 7 (w4.alloc (U #[Z J s.k,Z J s.a,Z J s.b,Z J s.c,Z J s.o,Z J s.v,O C s.l.length c] 132)) (jb4 w4.heap.size 0) [{ s with p:=C,n:=c }]/\ApartS (w4.alloc (U #[Z J s.k,Z J s.a,Z J s.b,Z J s.c,Z J s.o,Z J s.v,O C s.l.length c] 132)) w.heap.size u3.ownBlock { s with p:=C,n:=c }/\(r.length+1<=maxLen/\(r.length+1)*72<=140737488355328)/\jb2 w (w4.alloc (U #[Z J s.k,Z J s.a,Z J s.b,Z J s.c,Z J s.o,Z J s.v,O C s.l.length c] 132))):=fun d C c F ad hC f w4 aL=>by
   subst aL
   have a6:jb2 wr (d.jb3 wr.heap.size 6 (O C s.l.length c)):=(a1.out.below.trans (F.mono a1.out.size)).setCell (nR _) _
   have a8:=a6.alloc a6.size (U #[Z J s.k,Z J s.a,Z J s.b,Z J s.c,Z J s.o,Z J s.v,O C s.l.length c] 132)
   have a2:aq (d.jb3 wr.heap.size 6 (O C s.l.length c)) C s.l:=by
    rcases ad with e|⟨b,o,hA,hb,hc⟩
    ·exact oL e
    ·refine oR ⟨b,o,hA,by simpa using hb,fun j hj i hi=> ?_⟩
     have h1:=(f _ hA).1
     have h2:=ah.out
     have h3:b≠wr.heap.size:=fun e=>by simp only at h1;omega
     rw[World.cell?_setCell_other _ _ _ _ (by intro e;injection e with e _;exact h3 e.symm)]
     exact hc j hj i hi
   have bd:=bd.out
   have bC:=hR.out.2.2.size
   have h2:=ah.out
   refine ⟨hR.out.2.1.below a8,xh,⟨a2.gr ((gR _).alloc _),by show s.l.length<=_;unfold maxLen;omega,hC,fun a ha=>⟨?_,?_,?_⟩⟩,⟨by unfold maxLen;omega,by omega⟩,hR.out.2.2.trans (a8.mono hR.out.2.2.size)⟩
   ·have h1:=(f a ha).1;omega
   ·have h1:=(f a ha).2;simp;omega
   ·intro e
    have h1:=(f a ha).1
    have h3:=(World.ownsRow.lt hR.out.2.1.own a.block e).2
    omega
  go_wp2_with (first|(at_builtin;refine aH _ rfl (.const (O none 0 0)) (.tmp 13) rfl m.heap.size (O none 0 0) [] s.l s.p s.n rfl rfl (ae.nil _ _ _ _ _) ap.out.1 ap.out.2.1 ap.out.2.2.1 ap.out.2.2.2 (nR _) ?_;intro v1 d an a0;obtain ⟨C,c,rfl,hC,ad,f⟩:=ae.row bI an;have F:jb2 m d:=bB a0;have y6:jb1 d wr.heap.size 6 (O s.p s.l.length s.n):=(F.cell (p:=(jb5 wr.heap.size 6)) ah.out).trans x6;have g6:d.frozen? (jb5 wr.heap.size 6)=false:=(F.frozen (p:=(jb5 wr.heap.size 6)) ah.out).trans f6;obtain ⟨w4,aL⟩:=jb0 (d.jb3 wr.heap.size 6 (O C s.l.length c));have bc:=bp.out d C c F (by simpa using ad) hC f w4 aL;have g:X _:=bc;obtain ⟨z0,z1,z2,z3,z4,z5,z6⟩:=bo.out d F (O C s.l.length c);rw[aL] at z0 z1 z2 z3 z4 z5 z6;clear an a0 hC ad f F bc)|(at_builtin;refine kd _ rfl (.tmp 16) (.tmp 18) rfl w.heap.size u3 r { s with p:=C,n:=c } (jb5 w4.heap.size 0) 1 rfl rfl g.out.1 g.out.2.1 g.out.2.2.1 g.out.2.2.2.1.1 g.out.2.2.2.1.2 g.out.2.2.2.2.size ?_;intro v5 w5 ao a7));have ak:X ((r++[{ s with p:=C,n:=c }]).map bare=(q.take (k+1)).map bare/\OwnS w5 w.heap.size v5 (r++[{ s with p:=C,n:=c }])/\jb2 w w5):=⟨bs.out _ rfl,ao,g.out.2.2.2.2.trans a7⟩;clear ao a7;go_roundw;exact ⟨k+1,r++[{ s with p:=C,n:=c }],by omega,by go_num,ak⟩;simp[intOf];omega
 ·have ba:¬(k:Int)<(q.length:Int):=by omega
  have a9:q.take k=q:=List.take_of_length_le (by omega);obtain ⟨C,cap,hv,hC,bh⟩:=hR.out.2.1.stps;obtain ⟨C',bt,a4,_,_,a5⟩:=hR.out.2.1.own.row jj;have ak:X (r.map bare=q.map bare/\Stps wr C r/\(C=none->cap=0)/\zx w.heap.size wr.heap.size C r/\jb2 w wr):=by
   have h1:=hR.out.1;rw[a9] at h1;have bl:C=C':=by rw[hv] at a4;injection a4
   exact ⟨h1,bh,hC,⟨fun a ha=>a5 a (by rw[<-bl];exact ha),fun x hx a ha=>⟨((hR.out.2.1.each x hx).own a ha).1,((hR.out.2.1.each x hx).own a ha).2.1⟩⟩,hR.out.2.2⟩
  subst hv;clear a9 hC bh a4 a5;go_wp2;go_ret;exact ⟨r,C,cap,rfl,ak.out⟩

def PIn {α : Type} (P:Nat->Prop) (A:Option H) (l:List α):Prop:=∀a,A=some a->l≠[]->P a.block
theorem PIn.mono {α : Type} {P Q:Nat->Prop} {A:Option H} {l:List α} (h:PIn P A l) (k:∀b,P b->Q b):PIn Q A l:=fun a c d=>k _ (h a c d)
structure Agr (P:Nat->Prop) (w w':I):Prop where
 size:w.heap.size<=w'.heap.size
 block:∀b,P b->b<w.heap.size->w'.heap[b]? = w.heap[b]?
theorem Agr.refl (P:Nat->Prop) (w:I):Agr P w w:=⟨nR _,fun _ _ _=>rfl⟩
theorem Agr.trans {P:Nat->Prop} {a b c:I} (h:Agr P a b) (k:Agr P b c):Agr P a c:=⟨nT h.size k.size,fun g d f=>(k.block g d (nL f h.size)).trans (h.block g d f)⟩
theorem Agr.of {P:Nat->Prop} {w w':I} (h:jb2 w w'):Agr P w w':=⟨h.size,fun b _ c=>h.block b c⟩
theorem Agr.mono {P Q:Nat->Prop} {w w':I} (h:Agr Q w w') (k:∀b,P b->Q b):Agr P w w':=⟨h.size,fun b c=>h.block b (k b c)⟩
theorem aC.agr {α : Type} {enc: α -> List K} {k:Nat} {P:Nat->Prop} {w w':I} {A:Option H} {l:List α} (h:aC enc k w A l) (d:PIn P A l) (q:Agr P w w'):aC enc k w' A l:=by
 rcases h with h|⟨b,off,hA,hb,hc⟩
 ·exact oL h
 ·by_cases c:l=[]
  ·exact oL c
  ·refine oR ⟨b,off,hA,nL hb q.size,fun j f i hi=> ?_⟩;rw[World.cell?_of_block (a:=(jb5 b (off+j*k+i))) (q.block b (d _ hA c) hb)];exact hc j f i hi
theorem Row.agr {P:Nat->Prop} {w w':I} {A:Option H} {l:List (Int×Int)} (h:Row w A l) (d:PIn P A l) (q:Agr P w w'):Row w' A l:=by
 rcases h with h|⟨b,off,hA,hb,hc⟩
 ·exact oL h
 ·by_cases c:l=[]
  ·exact oL c
  ·refine oR ⟨b,off,hA,nL hb q.size,fun j f=> ?_⟩;rw[World.cell?_of_block (a:=(jb5 b (off+j*2))) (q.block b (d _ hA c) hb),World.cell?_of_block (a:=(jb5 b (off+j*2+1))) (q.block b (d _ hA c) hb)];exact hc j f
structure LvP (P:Nat->Prop) (w:I) (A:Option H) (c:Nat) (l:List Itm):Prop where
 lv:Lv w A c l
 arr:PIn P A l
 rows:∀x∈l,PIn P x.p x.r
theorem LvP.agr {P:Nat->Prop} {w w':I} {A:Option H} {c:Nat} {l:List Itm} (h:LvP P w A c l) (q:Agr P w w'):LvP P w' A c l :=
 ⟨⟨⟨h.lv.items.row.agr h.arr q,fun x d=>⟨(h.lv.items.each x d).1.agr (h.rows x d) q,(h.lv.items.each x d).2⟩⟩,h.lv.nilc,h.lv.len⟩,h.arr,h.rows⟩
theorem LvP.below {P:Nat->Prop} {w w':I} {A:Option H} {c:Nat} {l:List Itm} (h:LvP P w A c l) (q:jb2 w w'):LvP P w' A c l:=h.agr (Agr.of q)
theorem LvP.mono {P Q:Nat->Prop} {w:I} {A:Option H} {c:Nat} {l:List Itm} (h:LvP P w A c l) (k:∀b,P b->Q b):LvP Q w A c l:=⟨h.lv,h.arr.mono k,fun x d=>(h.rows x d).mono k⟩
theorem LvP.none (P:Nat->Prop) (w:I):LvP P w none 0 []:=⟨⟨⟨oL rfl,fun x c=>(by cases c)⟩,dC.mk (fun _=>rfl) (nZ _),nZ _⟩,fun a d=>(by cases d),fun x c=>(by cases c)⟩
theorem LvP.new {w:I} {A:Option H} {c n:Nat} {l:List Itm} (h:Lv w A c l) (k:eR n A l):LvP (fun b=>n<=b/\b<w.heap.size) w A c l :=
 ⟨h,fun a d f=>⟨k.1 a d,h.items.row.lt a d f⟩,fun x g a d f=>⟨k.2 x g a d,(h.items.each x g).1.lt a d f⟩⟩
theorem LvP.all {w:I} {A:Option H} {c:Nat} {l:List Itm} (h:Lv w A c l):LvP (fun b=>b<w.heap.size) w A c l :=
 ⟨h,fun a d f=>h.items.row.lt a d f,fun x g a d f=>(h.items.each x g).1.lt a d f⟩
structure StP (P:Nat->Prop) (w:I) (A:Option H) (q:List Stp):Prop where
 st:Stps w A q
 arr:PIn P A q
 rows:∀s∈q,PIn P s.p s.l
theorem StP.agr {P:Nat->Prop} {w w':I} {A:Option H} {q:List Stp} (h:StP P w A q) (k:Agr P w w'):StP P w' A q :=
 ⟨⟨h.st.row.agr h.arr k,fun x c=>⟨(h.st.each x c).1.agr (h.rows x c) k,(h.st.each x c).2⟩⟩,h.arr,h.rows⟩
theorem StP.below {P:Nat->Prop} {w w':I} {A:Option H} {q:List Stp} (h:StP P w A q) (k:jb2 w w'):StP P w' A q:=h.agr (Agr.of k)
theorem StP.mono {P Q:Nat->Prop} {w:I} {A:Option H} {q:List Stp} (h:StP P w A q) (k:∀b,P b->Q b):StP Q w A q:=⟨h.st,h.arr.mono k,fun x c=>(h.rows x c).mono k⟩
theorem StP.new {w:I} {A:Option H} {n m:Nat} {q:List Stp} (h:Stps w A q) (k:zx n m A q):StP (fun b=>n<=b/\b<m) w A q :=
 ⟨h,fun a c _=>k.1 a c,fun s d a c _=>k.2 s d a c⟩
def aj (P:Nat->Prop) (m n:Nat):Nat->Prop:=fun b=>P b\/(m<=b/\b<n)
theorem aj.old {P:Nat->Prop} {m n:Nat} (b:Nat) (h:P b):aj P m n b:=oL h
theorem aj.new {P:Nat->Prop} {m n c d:Nat} (f:m<=c) (g:d<=n) (b:Nat) (h:c<=b/\b<d):aj P m n b:=oR ⟨nT f h.1,nL h.2 g⟩
theorem aj.more {P:Nat->Prop} {m n c d:Nat} (f:c<=m) (g:n<=d) (b:Nat) (h:aj P m n b):aj P c d b:=h.elim oL fun k=>oR ⟨nT f k.1,nL k.2 g⟩
theorem aj.two {P:Nat->Prop} {m n d c:Nat} (f:m<=d) (g:n<=c) (b:Nat) (h:aj (aj P m n) d c b):aj P m c b:=by
 rcases h with (h|h)|h
 ·exact oL h
 ·exact oR ⟨h.1,by omega⟩
 ·exact oR ⟨by omega,h.2⟩

theorem jB {w:I} {V:Nat} {c:Array K} {T:TypeId} {f:Nat×Nat} (h:w.heap[V]? = some (U c T f)) (j:Nat):w.cell? (jb5 V j)=c[j]? := by simp[World.cell?,h]
theorem pG {w:I} {V:Nat} {c:Array K} {T:TypeId} (h:w.heap[V]? = some (U c T (0,0))) (j:Nat):w.frozen? (jb5 V j)=false:=by simp[World.frozen?,h]
def Blk (w:I) (V:Nat) (T:TypeId) (n:Nat):Prop:=∃cur,w.heap[V]? = some (U cur T (0,0))/\cur.size=n
theorem Blk.lt {w:I} {V n:Nat} {T:TypeId} (h:Blk w V T n):V<w.heap.size:=by obtain ⟨c,d,_⟩:=h;exact (Array.getElem?_eq_some_iff.1 d).1
theorem Blk.fz {w:I} {V n:Nat} {T:TypeId} (h:Blk w V T n) (j:Nat):w.frozen? (jb5 V j)=false:=by obtain ⟨c,d,_⟩:=h;exact pG d j
theorem Blk.some {w:I} {V n:Nat} {T:TypeId} (h:Blk w V T n) {j:Nat} (f:j<n):∃v,w.cell? ⟨V,j,none⟩=some v:=by obtain ⟨c,d,g⟩:=h;rw[jB d];exact ⟨c[j]'(by omega),Array.getElem?_eq_getElem (by omega)⟩
theorem Blk.below {w w':I} {V n:Nat} {T:TypeId} (h:Blk w V T n) (k:jb2 w w'):Blk w' V T n:=by obtain ⟨c,d,f⟩:=h;exact ⟨c,(k.block V (Array.getElem?_eq_some_iff.1 d).1).trans d,f⟩
structure Wr (V lo hi:Nat) (w w':I):Prop where
 os:w'.os=w.os
 tape:w'.tape=w.tape
 output:w'.output=w.output
 size:w.heap.size<=w'.heap.size
 oth:∀g,g<w.heap.size->g≠V->w'.heap[g]? = w.heap[g]?
 blk:∀(cur:Array K) (T:TypeId),w.heap[V]? = some (U cur T (0,0))->∃cur':Array K,w'.heap[V]? = some (U cur' T (0,0))/\cur'.size=cur.size/\∀j,(j<lo\/hi<=j)->cur'[j]? = cur[j]?
theorem Wr.refl (V lo hi:Nat) (w:I):Wr V lo hi w w:=⟨rfl,rfl,rfl,nR _,fun _ _ _=>rfl,fun c _ h=>⟨c,h,rfl,fun _ _=>rfl⟩⟩
theorem Wr.trans {V lo hi:Nat} {a b c:I} (h:Wr V lo hi a b) (k:Wr V lo hi b c):Wr V lo hi a c :=
 ⟨k.os.trans h.os,k.tape.trans h.tape,k.output.trans h.output,nT h.size k.size,fun g f m=>(k.oth g (nL f h.size) m).trans (h.oth g f m),fun d ad E=>by
  obtain ⟨n,u,C,D⟩:=h.blk d ad E
  obtain ⟨r,F,R,k3⟩:=k.blk n ad u
  exact ⟨r,F,R.trans C,fun j l=>(k3 j l).trans (D j l)⟩⟩
theorem Wr.of {V lo hi:Nat} {w w':I} (h:jb2 w w') (_hV:V<w.heap.size):Wr V lo hi w w' :=
 ⟨h.os,h.tape,h.output,h.size,fun g hg _=>h.block g hg,fun cur _ hc=>⟨cur,(h.block V (Array.getElem?_eq_some_iff.1 hc).1).trans hc,rfl,fun _ _=>rfl⟩⟩
theorem Wr.mono {V lo hi d c:Nat} {w w':I} (h:Wr V lo hi w w') (r:d<=lo) (u:hi<=c):Wr V d c w w' :=
 ⟨h.os,h.tape,h.output,h.size,h.oth,fun f D k=>by
  obtain ⟨g,l,m,n⟩:=h.blk f D k
  exact ⟨g,l,m,fun j C=>n j (by omega)⟩⟩
theorem Wr.set {V lo hi j:Nat} (w:I) (v:K) (k:lo<=j) (l:j<hi):Wr V lo hi w (w.jb3 V j v):=by
 refine ⟨rfl,rfl,rfl,by simp,fun g _ h=>Below.heap_setCell _ _ _ _ h,fun c m d=>⟨c.setIfInBounds j v,?_,by simp,fun i f=> ?_⟩⟩
 ·show (w.heap.modify V _)[V]? = _;rw[Array.getElem?_modify,if_pos rfl,d];rfl
 ·rw[Array.getElem?_setIfInBounds,if_neg (by omega)]
theorem Wr.grown {V lo hi:Nat} {w w':I} (h:Wr V lo hi w w'):w.grownBy w' (some V):=⟨h.os,h.tape,h.output,h.size,fun g c d=>h.oth g c fun e=>d (by rw[e])⟩
theorem Wr.agr {V lo hi:Nat} {w w':I} {P:Nat->Prop} (h:Wr V lo hi w w') (c:¬P V):Agr P w w':=⟨h.size,fun b d f=>h.oth b f fun e=>c (e▸d)⟩
theorem Wr.cell {V lo hi n:Nat} {w w':I} {T:TypeId} (h:Wr V lo hi w w') (f:Blk w V T n) {j:Nat} (g:j<lo\/hi<=j):w'.cell? (jb5 V j)=w.cell? (jb5 V j):=by obtain ⟨c,d,_⟩:=f;obtain ⟨m,k,_,l⟩:=h.blk c T d;rw[jB k,jB d];exact l j g
theorem Wr.block {V lo hi n:Nat} {w w':I} {T:TypeId} (h:Wr V lo hi w w') (f:Blk w V T n):Blk w' V T n:=by obtain ⟨c,g,j⟩:=f;obtain ⟨d,k,l,_⟩:=h.blk c T g;exact ⟨d,k,l.trans j⟩
theorem cU {w:I} {V i j:Nat} {v:K} (h:i≠j):(w.jb3 V i v).cell? (jb5 V j)=w.cell? (jb5 V j):=World.cell?_setCell_other _ _ _ _ (by intro e;injection e with _ e;exact h e)
end Go.Proofs.YtbkjgjjpnfhkhaaGreatDoor
