import Derived.Test.YtbkjgjjpnfhkhaaGreatDoorM17
set_option maxRecDepth 100000
set_option maxHeartbeats 8000000
open Go renaming Addr → J, World → Z, Calls → ib, Value → ik
open Go.Ending renaming returned → ia
open Go.IntKind renaming i64 → S
open Go.Obj renaming cells → H
open Go.Proofs.Tryz renaming prog → U
open Go.RowKit renaming Hid → K
open Go.Value renaming slice → I, int → O, agg → N, tuple → iv
namespace Go.Proofs.YtbkjgjjpnfhkhaaGreatDoor
open Go.RowKit Go.Sort

def leD (x y:Int×Int):Prop:=bj y x=false
theorem fJ (x y:Int×Int):leD x y↔x.1<y.1\/(x.1=y.1/\x.2<=y.2):=by unfold leD;rw[lf];omega
theorem lU (x:Int×Int):leD x x:=by rw[fJ];omega
theorem iH {x y z:Int×Int} (h:leD x y) (k:leD y z):leD x z:=by rw[fJ] at *;omega
theorem pS {x y:Int×Int} (h:leD x y) (k:leD y x):x=y:=by rw[fJ] at *;exact Prod.ext (by omega) (by omega)
theorem tm (x y:Int×Int):leD x y\/leD y x:=by rw[fJ,fJ];omega

theorem ja (l:List (Int×Int)):(srt l).Pairwise leD:=by
 unfold srt
 have h:=List.pairwise_mergeSort (le:=fun x y:Int×Int=> !ltOf eM y x) (by
  intro a b c f g;simp only[ltD,Bool.not_eq_true'] at *;exact iH (x:=a) (y:=b) (z:=c) f g) (by
  intro a b;simp only[ltD,Bool.or_eq_true,Bool.not_eq_true'];exact tm a b) l
 refine h.imp ?_;intro a b d;simp only[ltD,Bool.not_eq_true'] at d;exact d
theorem qv (l:List (Int×Int)):(srt l).Perm l:=List.mergeSort_perm l _
theorem uj {l m:List (Int×Int)} (h:l.Pairwise leD) (k:m.Pairwise leD) (p:l.Perm m):l=m :=
 List.Perm.eq_of_pairwise (fun _ _ _ _ c d=>pS c d) h k p
def jl (c:Ctx) (p:Option (Int×Int)):List (Int×Int)->Ctx
 | []=>c
 | x::r=>jl (step c p x) (some x) r

theorem rg (l:List (Int×Int)):∀(c:Ctx) (p:Option (Int×Int)) (x:Int×Int),jl c p (l++[x])=step (jl c p l) (l.getLast?.or p) x:=by
 induction l with
 | nil=>intro c p x;rfl
 | cons y l ih =>
  intro c p x
  show jl (step c p y) (some y) (l++[x])=_
  rw[ih]
  show _=step (jl (step c p y) (some y) l) ((y::l).getLast?.or p) x
  congr 1
  cases h:l.getLast? with
  | none =>
   obtain rfl:l=[]:=by simpa using h
   rfl
  | some z=>simp[List.getLast?_cons,h]

theorem pE (c:Ctx) (l:List (Int×Int)):∀k,k<=l.length->aA c l k=jl c none (l.take k):=by
 intro k;induction k with
 | zero=>intro _;rfl
 | succ k ih =>
  intro n;have d:k<l.length:=by omega
  rw[List.take_succ_eq_append_getElem d,rg,<-ih (by omega)];show step (aA c l k) _ _=_;have g:l.getD k (0,0)=l[k]:=by simp[d]
  have h:(if k=0 then none else some (l.getD (k-1) (0,0)))=(l.take k).getLast?.or none:=by
   cases k with
   | zero=>rfl
   | succ m =>
    have f:m<l.length:=(by omega);have j:(l.take (m+1)).getLast? = some l[m]:=by rw[List.take_succ_eq_append_getElem f];exact List.getLast?_concat
    rw[j];simp[f]
  rw[g,h]
theorem rh (c:Ctx) (l:List (Int×Int)):aA c l l.length=jl c none l:=by rw[pE c l l.length (Nat.le_refl _),List.take_length]

def bx (c:Ctx) (x:Int×Int):Ctx:=if ax c x=true then c else if x.2=clk c x.1+1 then setClk c x.1 x.2 else { c with l:=c.l++[x] }

structure Mid (c:Ctx) (p:Option (Int×Int)) (r:List (Int×Int)):Prop where
 above:∀y∈c.l,clk c y.1+1<y.2
 node:∀y∈c.l,0<=y.1/\y.1<4
 last:∀y∈c.l,∃q,p=some q/\leD y q
 has:∀q,p=some q->ax c q=true
 rest:∀q,p=some q->∀x∈r,leD q x

theorem cg (c:Ctx) (x:Int×Int):ax c x=true↔x∈c.l\/(0<=x.1/\x.1<=3/\1<=x.2/\x.2<=clk c x.1):=by simp[ax,inB,and_assoc]

theorem lX {c:Ctx} {p:Option (Int×Int)} {x:Int×Int} {r:List (Int×Int)} (h:Mid c p (x::r)) (hx:ai x=true) (hs:∀y∈r,leD x y):bx c x=step c p x/\Mid (step c p x) (some x) r:=by
 have g:=dr hx;have j:∀y∈c.l,leD y x:=fun y d=>by obtain ⟨q,f,ak⟩:=h.last y d;exact iH ak (h.rest q f x (mS ..))
 by_cases D:x.2<=clk c x.1
 ·have m:ax c x=true:=(cg c x).2 (oR ⟨g.1,by omega,g.2.2.1,D⟩);have u:bx c x=c:=by simp[bx,m]
  have C:step c p x=c:=by simp[step,D]
  rw[u,C];exact ⟨rfl,h.above,h.node,fun y d=>⟨x,rfl,j y d⟩,fun q f=>by cases f;exact m,fun q f y d=>by cases f;exact hs y d⟩
 ·by_cases E:x.2=clk c x.1+1
  ·have k:x ∉ c.l:=(fun n=>by have:=h.above x n;omega);have m:¬ax c x=true:=by
    rw[cg];rintro (n|n)
    ·exact k n
    ·omega
   have u:bx c x=setClk c x.1 x.2:=(by unfold bx;rw[if_neg m,if_pos E]);have C:step c p x=setClk c x.1 x.2:=by unfold step;rw[if_neg D,if_pos E]
   rw[u,C];refine ⟨rfl,?_,?_,?_,?_,fun q f y d=>by cases f;exact hs y d⟩
   ·intro y d;rw[dX] at d;have ad:=h.node y d;rw[dI c x.1 x.2 y.1 g.1 g.2.1 ad.1 ad.2];have R:=h.above y d;split
    ·rename_i hyx;have hl:=(fJ y x).1 (j y d);rw[hyx] at R;omega
    ·exact R
   ·intro y d;rw[dX] at d;exact h.node y d
   ·intro y d;rw[dX] at d;exact ⟨x,rfl,j y d⟩
   ·intro q f;cases f;refine (cg _ _).2 (oR ⟨g.1,by omega,g.2.2.1,?_⟩);rw[dI c x.1 x.2 x.1 g.1 g.2.1 g.1 g.2.1,if_pos rfl];exact Int.le_refl _
  ·by_cases h3:p=some x
   ·have m:ax c x=true:=h.has x h3;have u:bx c x=c:=by simp[bx,m]
    have C:step c p x=c:=(by unfold step;rw[if_neg D,if_neg E,if_pos h3]);rw[u,C];exact ⟨rfl,h.above,h.node,fun y d=>⟨x,rfl,j y d⟩,fun q f=>by cases f;exact m,fun q f y d=>by cases f;exact hs y d⟩
   ·have k:x ∉ c.l:=(fun n=>by obtain ⟨q,f,ah⟩:=h.last x n;have:=pS ah (h.rest q f x (mS ..));exact h3 (by rw[f,this]));have m:¬ax c x=true:=by
     rw[cg];rintro (n|n)
     ·exact k n
     ·omega
    have u:bx c x={ c with l:=c.l++[x] }:=(by unfold bx;rw[if_neg m,if_neg E]);have C:step c p x={ c with l:=c.l++[x] }:=by unfold step;rw[if_neg D,if_neg E,if_neg h3]
    rw[u,C];have F:∀a,clk { c with l:=c.l++[x] } a=clk c a:=fun _=>rfl;refine ⟨rfl,?_,?_,?_,?_,fun q f y d=>by cases f;exact hs y d⟩
    ·intro y d;rw[F];rcases List.mem_append.1 d with d|d
     ·exact h.above y d
     ·obtain rfl:y=x:=(by simpa using d);omega
    ·intro y d;rcases List.mem_append.1 d with d|d
     ·exact h.node y d
     ·obtain rfl:y=x:=(by simpa using d);exact ⟨g.1,g.2.1⟩
    ·intro y d;rcases List.mem_append.1 d with d|d
     ·exact ⟨x,rfl,j y d⟩
     ·obtain rfl:y=x:=(by simpa using d);exact ⟨y,rfl,lU y⟩
    ·intro q f;cases f;exact (cg _ _).2 (oL (List.mem_append.2 (oR (by simp))))

theorem pD (l:List (Int×Int)):∀(c:Ctx) (p:Option (Int×Int)),Mid c p l->l.Pairwise leD->(∀x∈l,ai x=true)->l.foldl bx c=jl c p l:=by
 induction l with
 | nil=>intro c p _ _ _;rfl
 | cons x l ih =>
  intro c p h j g
  have f:=List.pairwise_cons.1 j
  have d:=lX h (g x (mS ..)) f.1
  show l.foldl bx (bx c x)=jl (step c p x) (some x) l
  rw[d.1]
  exact ih _ _ d.2 f.2 (fun y k=>g y (mC _ k))

theorem nC {c:Ctx} (d:c.l=[]) (l:List (Int×Int)):Mid c none l where
 above y hy:=by rw[d] at hy;cases hy
 node y hy:=by rw[d] at hy;cases hy
 last y hy:=by rw[d] at hy;cases hy
 has q hq:=by cases hq
 rest q hq:=by cases hq

theorem ii {c:Ctx} (d:c.l=[]) {l:List (Int×Int)} (f:∀x∈l,ai x=true):eh c l=(srt l).foldl bx c:=by unfold eh;rw[rh];exact (pD (srt l) c none (nC d _) (ja l) (fun x g=>f x (jx g))).symm


theorem lE {c:Ctx} (h:aU c=0):aW c=true:=by
 unfold aU at h;cases d:aW c
 ·simp[d] at h
 ·rfl

def cX (c:Ctx) (n:Int):(Int×Int)×Int:=if aU c=0 then (if inB n 0 3=true then (dh c n,dJ c n) else ((0,0),1)) else ((0,0),aU c)

theorem ww (c:Ctx) (A:Option J) (cap:Nat) (n:Int) (w:Z) (hl:c.l.length<=maxLen) (hr:Row w A c.l) :
  ib U 79 #[N (ja7 c A cap),O S n] w fun e w'=>e= ia (iv #[N #[O S (cX c n).1.1,O S (cX c n).1.2],O S (cX c n).2])/\Gr w w':=by
 have F:=fj c A cap ((w.alloc (H (ja7 c A cap) 32)).alloc (H #[O S 0,O S 0] 89)) hl (hr.gr (((gR _).alloc _).alloc _));have r:K _:=F;unfold maxLen at hl;go_enter Tryz.func79,Tryz.ntmps79;go_wp2_with fail;refine ja0 r ?_;rintro e w1 ⟨rfl,d⟩;have r0:=jf d (j:=0) rfl;have r1:=jf d (j:=1) rfl;have ap:=lj d 0;have aL:=lj d 1;by_cases he:aU c=0
 ·have u:=ja1 he;rw[he];cases f:inB n 0 3
  ·have D:K (cX c n=((0,0),1)):=(by show cX c n=_;simp[cX,u.out,f]);go_wp2_with (go_at_call 106;refine (gn f _).mono ?_;rintro e w' ⟨rfl,rfl⟩);rw[D.out];exact bodyPost_ret (v:= iv #[N #[O S 0,O S 0],O S 1]) (by simp[results,Tryz.results79,go_sem,r0,r1]) rfl ⟨rfl,(((br (br d)).setCell (by simp) _).setCell (by simp) _)⟩
  ·have hn:0<=n/\n<4:=(by simp[inB] at f;omega);have D:K (cX c n=(dh c n,dJ c n)):=by show cX c n=_;simp[cX,u.out,f]
   have kc:=ab (dK d) (dM (c:=c) hn.1 hn.2);have k4:=ab (dK d) (j:=4) rfl;have a0:=bF (lE u.out) n hn.1 hn.2;go_wp2_with (go_at_call 106;refine (gn f _).mono ?_;rintro e w' ⟨rfl,rfl⟩);go_loopw [7,27] (fun m i wr=>∃k:Nat,k<=c.l.length/\i= O S k/\m= O S (eA c n (c.l.take k))/\Gr ((w.alloc (H (ja7 c A cap) 32)).alloc (H #[O S 0,O S 0] 89)) wr) (fun _ i _=>c.l.length-(intOf i).toNat);exact ⟨0,by omega,rfl,rfl,d⟩;obtain ⟨k,hk,rfl,rfl,d⟩:=hrel;have r0:=jf d (j:=0) rfl;have r1:=jf d (j:=1) rfl;have ap:=lj d 0;have aL:=lj d 1;have an:=oN c n (c.l.take k);by_cases g:k<c.l.length
   ·have ad:(k:Int)<(c.l.length:Int):=(by omega);obtain ⟨b,a2,rfl,hb,R⟩:=(hr.gr (br (br d))).at g;obtain ⟨x,y,hx⟩:∃x y,c.l[k]=(x,y):=⟨_,_,rfl⟩;have e0:=(R k g).1;have e1:=(R k g).2;rw[hx] at e0 e1;have ah:=ja1 (nY c n k g hx);by_cases C:x=n
    ·subst C;go_wp2;go_roundw;exact ⟨k+1,by omega,by go_num,by rw[ah.out,if_pos rfl],d.alloc _⟩;simp[intOf];omega
    ·have a1:(x==n)=false:=(by simpa using C);have ao:=ja1 C;go_wp2;go_roundw;exact ⟨k+1,by omega,by go_num,by rw[ah.out,if_neg ao.out],d.alloc _⟩;simp[intOf];omega
   ·have ad:¬(k:Int)<(c.l.length:Int):=(by omega);have ak:c.l.take k=c.l:=List.take_of_length_le (by omega);rw[ak] at an ⊢;by_cases h:1099511627776<=eA c n c.l
    ·have E:K (dh c n=(0,0)/\dJ c n=2):=(by show _/\_;simp[dh,dJ,h]);go_wp2;rw[D.out,E.out.1,E.out.2];exact bodyPost_ret (v:= iv #[N #[O S 0,O S 0],O S 2]) (by simp[results,Tryz.results79,go_sem,r0,r1]) rfl ⟨rfl,(((br (br d)).setCell (by simp) _).setCell (by simp) _)⟩
    ·have E:K (dh c n=(n,eA c n c.l+1)/\dJ c n=0):=(by show _/\_;simp[dh,dJ,h]);go_wp2;rw[D.out,E.out.1,E.out.2];exact bodyPost_ret (v:= iv #[N #[O S n,O S (eA c n c.l+1)],O S 0]) (by simp[results,Tryz.results79,go_sem,r0,r1]) rfl ⟨rfl,(((br (br d)).setCell (by simp) _).setCell (by simp) _)⟩
 ·have D:K (cX c n=((0,0),aU c)):=by show cX c n=_;simp[cX,he]
  go_wp2;rw[D.out];exact bodyPost_ret (v:= iv #[N #[O S 0,O S 0],O S (aU c)]) (by simp[results,Tryz.results79,go_sem,r0,r1]) rfl ⟨rfl,(((br (br d)).setCell (by simp) _).setCell (by simp) _)⟩

def eH (a b:Ctx):Int:=if aU a=0 then aU b else aU a

theorem mG (a b:Ctx) (A B:Option J) (ca cb:Nat) (w:Z) (j:a.l.length<=maxLen) (m:b.l.length<=maxLen) (u:Row w A a.l) (C:Row w B b.l) :
  ib U 89 #[N (ja7 a A ca),N (ja7 b B cb)] w fun e w'=>e= ia (O S (eH a b))/\Gr w w':=by
 have c:Gr w ((w.alloc (H (ja7 a A ca) 32)).alloc (H (ja7 b B cb) 32)):=((gR w).alloc _).alloc _;have k:CtxAt ((w.alloc (H (ja7 a A ca) 32)).alloc (H (ja7 b B cb) 32)) (w.heap.size+1) b B cb:=CtxAt.new 32 (C.gr ((gR _).alloc _)) (by simp);go_enter Tryz.func89,Tryz.ntmps89;go_wp2_with fail;refine (fj a A ca _ j (u.gr c)).mono ?_;rintro e w1 ⟨rfl,d⟩;by_cases g:aU a=0
 ·have h:K (eH a b=aU b):=by show eH a b=_;simp[eH,g]
  have n:(aU a != 0)=false:=by simpa using g
  obtain ⟨D,E,F,R,k4,_,f⟩:=k.gr d;go_wp2_with fail;refine (fj b B cb _ m f).mono ?_;rintro e w2 ⟨rfl,r⟩;go_wp2;go_ret;rw[h.out];exact ⟨rfl,(c.trans d).trans r⟩
 ·have h:K (eH a b=aU a):=by show eH a b=_;simp[eH,g]
  have n:(aU a != 0)=true:=by simpa using g
  go_wp2;go_ret;rw[h.out];exact ⟨rfl,c.trans d⟩

theorem kJ {a b:Ctx} (h:eH a b=0):aU a=0/\aU b=0:=by
 unfold eH at h;by_cases c:aU a=0
 ·rw[if_pos c] at h;exact ⟨c,h⟩
 ·rw[if_neg c] at h;exact absurd h c
theorem aY {c:Ctx} (h:aU c=0):aW c=true/\c.l.length<=400/\∀k,k<c.l.length->fD c k=true:=by
 have f:=lE h;unfold aU at h;rw[f] at h;by_cases g:400<c.l.length
 ·simp[g] at h
 ·refine ⟨f,by omega,?_⟩;cases d:(List.range c.l.length).all (fD c)
  ·simp[g,d] at h
  ·intro k j;rw[List.all_eq_true] at d;exact d k (by simpa using j)
theorem fr {c:Ctx} (h:aU c=0):∀x∈c.l,ai x=true:=by
 intro x f;obtain ⟨j,d,rfl⟩:=List.getElem_of_mem f;have:=(aY h).2.2 j d;cases j with
 | zero=>rw[dR d rfl] at this;simp at this;exact this.1
 | succ m=>rw[cS d rfl rfl] at this;simp at this;exact this.1.1

structure TbP (P:Nat->Prop) (w:Z) (t:Tab) (A:Option J) (ca:Nat) (D:Option J) (cd:Nat):Prop where
 row:Row w A t.c.l
 cel:av w D t.e
 pr:PIn P A t.c.l
 pc:PIn P D t.e
 nr:A=none->ca=0
 nc:D=none->cd=0
 ok:ay t=0
theorem TbP.agr {P:Nat->Prop} {w w':Z} {t:Tab} {A:Option J} {ca:Nat} {D:Option J} {cd:Nat} (h:TbP P w t A ca D cd) (q:Agr P w w'):TbP P w' t A ca D cd:=⟨h.row.agr h.pr q,h.cel.agr h.pc q,h.pr,h.pc,h.nr,h.nc,h.ok⟩
theorem TbP.below {P:Nat->Prop} {w w':Z} {t:Tab} {A:Option J} {ca:Nat} {D:Option J} {cd:Nat} (h:TbP P w t A ca D cd) (q:jb2 w w'):TbP P w' t A ca D cd:=h.agr (Agr.of q)
theorem TbP.mono {P Q:Nat->Prop} {w:Z} {t:Tab} {A:Option J} {ca:Nat} {D:Option J} {cd:Nat} (h:TbP P w t A ca D cd) (k:∀b,P b->Q b):TbP Q w t A ca D cd:=⟨h.row,h.cel,h.pr.mono k,h.pc.mono k,h.nr,h.nc,h.ok⟩
theorem TbP.len {P:Nat->Prop} {w:Z} {t:Tab} {A:Option J} {ca:Nat} {D:Option J} {cd:Nat} (h:TbP P w t A ca D cd):t.c.l.length<=maxLen/\t.e.length<=maxLen:=by have d:=(aY (af h.ok).1).2.1;have f:=(af h.ok).2.1;unfold maxLen;omega

theorem Agr.set {P:Nat->Prop} {w:Z} {V j:Nat} (v:ik) (h:¬P V):Agr P w (w.jb3 V j v):=(Wr.set (lo:=j) (hi:=j+1) w v (nR _) (by omega)).agr h
theorem jq {W:Z} {A B:Option J} {c d:Nat} {l r:List Itm} (h:Lv W A c l) (j:Lv W B d r) {m:List Zit} (hm:aZ (l.map Itm.z) (r.map Itm.z)=m) :
  ib U 62 #[I A l.length c,I B r.length d] W fun e w'=>∃(L:List Itm) (C:Option J) (k:Nat),e= ia (I C L.length k)/\L.map Itm.z=m/\LvP (fun b=>W.heap.size<=b/\b<w'.heap.size) w' C k L/\jb2 W w':=by obtain ⟨E,hE⟩:=jb0 (bi (l.map Itm.z) (r.map Itm.z));have f:=oS h j rfl rfl;rw[hm,hE] at f;have R:K _:=f;go_enter Tryz.func62,Tryz.ntmps62;go_wp2_with fail;refine ja0 R ?_;rintro e w1 ⟨L,C,k,rfl,n,u,D,F⟩;have g:=ja3 n (LvP.new u F.new) D;go_wp2;go_ret;exact ⟨L,C,k,rfl,g.out⟩
theorem s7 (a b c d e f g h i j k l:ik) (w:Z):(Instr.index 36 (N #[a,b,c,d,e,f,g,h,i,j,k,l]) (O S 0)).run U w= .ok (N #[a,b,c,d,e,f]) w:=by kernel_rfl
theorem s8 (a b c d e f g h i j k l:ik) (w:Z):(Instr.index 36 (N #[a,b,c,d,e,f,g,h,i,j,k,l]) (O S 1)).run U w= .ok (N #[g,h,i,j,k,l]) w:=by kernel_rfl
theorem AD (x y:ik) (w:Z):(Instr.index 67 (N #[x,y]) (O S 0)).run U w= .ok x w:=by kernel_rfl
theorem AE (x y:ik) (w:Z):(Instr.index 67 (N #[x,y]) (O S 1)).run U w= .ok y w:=by kernel_rfl

theorem sD (c:Z) (T:TypeId) {d:Z} {n:Nat} (j:(c.alloc (H #[I none 0 0,I none 0 0] T)).alloc (H #[I none 0 0,I none 0 0] T)=d) (h:c.heap.size=n):Cls d n [I none 0 0,I none 0 0]/\Cls d (n+1) [I none 0 0,I none 0 0]:=by subst h;subst j;have g:=Cls.new c #[I none 0 0,I none 0 0] T;have f:=Cls.new (c.alloc (H #[I none 0 0,I none 0 0] T)) #[I none 0 0,I none 0 0] T;rw[show (c.alloc (H #[I none 0 0,I none 0 0] T)).heap.size=c.heap.size+1 by simp] at f;exact ⟨g.gr ((gR _).alloc _),f⟩
theorem qA {L:List Itm} {t:Tab} (h:L.map Itm.z=ofR t) (e:ay t=0):L.length<=maxLen:=by have c:=congrArg List.length h;rw[List.length_map] at c;have d:=(TS.of e).len;unfold maxLen;omega
theorem j7 {P:Nat->Prop} (s t:Tab) (A B C D:Option J) (ca cb cc cd:Nat) (w:Z) (hs:TbP P w s A ca C cc) (ht:TbP P w t B cb D cd) :
  ib U 30 #[N (T2 s A ca C cc t B cb D cd).toArray] w fun e w'=>∃(L M:List Itm) (X Y:Option J) (k m:Nat),e= ia (N #[I X L.length k,I Y M.length m])/\L.map Itm.z=ofR s/\M.map Itm.z=ofR t/\LvP (fun b=>w.heap.size<=b/\b<w'.heap.size) w' X k L/\LvP (fun b=>w.heap.size<=b/\b<w'.heap.size) w' Y m M/\jb2 w w':=by
 have bb:=s7 (O S s.c.c0) (O S s.c.c1) (O S s.c.c2) (O S s.c.c3) (I A s.c.l.length ca) (I C s.e.length cc) (O S t.c.c0) (O S t.c.c1) (O S t.c.c2) (O S t.c.c3) (I B t.c.l.length cb) (I D t.e.length cd);have bc:=s8 (O S s.c.c0) (O S s.c.c1) (O S s.c.c2) (O S s.c.c3) (I A s.c.l.length ca) (I C s.e.length cc) (O S t.c.c0) (O S t.c.c1) (O S t.c.c2) (O S t.c.c3) (I B t.c.l.length cb) (I D t.e.length cd);have d:=ja2 hs ht;go_enter Tryz.func30,Tryz.ntmps30;go_wp2;obtain ⟨wa,a3⟩:=jb0 (w.alloc (H #[O S s.c.c0,O S s.c.c1,O S s.c.c2,O S s.c.c3,I A s.c.l.length ca,I C s.e.length cc,O S t.c.c0,O S t.c.c1,O S t.c.c2,O S t.c.c3,I B t.c.l.length cb,I D t.e.length cd] 36));rw[a3];have ba:Gr w wa:=by rw[<-a3];exact (gR w).alloc _
 have a9:wa.heap.size=w.heap.size+1:=by rw[<-a3];simp
 obtain ⟨r,ak⟩:=jb0 ((wa.alloc (H #[I none 0 0,I none 0 0] 67)).alloc (H #[I none 0 0,I none 0 0] 67));rw[ak];have a4:=sD wa 67 ak a9;have a1:Gr w r:=by rw[<-ak];exact (ba.alloc _).alloc _
 have ah:r.heap.size=w.heap.size+1+1+1:=by rw[<-ak];simp[a9]
 have u:=wH s A ca C cc (r.alloc (H #[O S s.c.c0,O S s.c.c1,O S s.c.c2,O S s.c.c3,I A s.c.l.length ca,I C s.e.length cc] 35)) d.out.1.len.1 d.out.1.len.2 (d.out.1.row.gr (a1.alloc _)) (d.out.1.cel.gr (a1.alloc _));rw[d.out.1.ok] at u;have hO:K _:=u;have hH:=ja4 a1 a4.1 a4.2 ah;refine wp_loop_rounds 3 ?_;rw[rounds_succ];go_wp2_with fail;refine ja0 hO ?_;rintro e w3 ⟨L,X,k,rfl,l1,l2,l3,l4,l5⟩;have a0:jb2 r w3:=((gR r).alloc _).below.trans (l4.mono (by simp));have an:=hH.out.2.2.1.below a0;have p0:=an.cell (j:=0) rfl;have z0:=an.fz 0;have a2:L.length<=maxLen:=qA l1 d.out.1.ok;have a5:K (LvP (fun b=>r.heap.size<=b/\b<w3.heap.size) w3 X k L/\L.map Itm.z=ofR s):=⟨(LvP.new ⟨l2,l3,a2⟩ l5).mono fun b g=>⟨nT (by simp) g.1,g.2⟩,l1⟩;have ad:=ja3 (hH.out.2.1.below a0) an a0;go_wp2;obtain ⟨F,n⟩:=jb0 (w3.setCell (jb5 (w.heap.size+1+1) 0) (I X L.length k));rw[n];have a7:F.heap.size=w3.heap.size:=by rw[<-n];simp
 have h4:K (Cls F (w.heap.size+1) [I none 0 0,I none 0 0]/\Cls F (w.heap.size+1+1) [I X L.length k,I none 0 0]/\LvP (fun b=>r.heap.size<=b/\b<F.heap.size) F X k L/\jb2 w F/\r.heap.size<=F.heap.size):=by
  have ah:=hH.out.2.2.2;have g:=hH.out.1.below.trans (ad.out.2.2.mono hH.out.1.size);refine ⟨?_,?_,?_,?_,?_⟩
  ·rw[<-n];exact ad.out.1.oth (by omega) _
  ·rw[<-n];exact ad.out.2.1.put 0 _
  ·rw[a7,<-n];exact a5.out.1.agr (Agr.set _ fun h=>by omega)
  ·rw[<-n];exact g.setCell (by show _<=w.heap.size+1+1;omega) _
  ·rw[a7];exact ad.out.2.2.size
 rw[rounds_succ];have u:=wH t B cb D cd (F.alloc (H #[O S t.c.c0,O S t.c.c1,O S t.c.c2,O S t.c.c3,I B t.c.l.length cb,I D t.e.length cd] 35)) d.out.2.len.1 d.out.2.len.2 ((d.out.2.row.below h4.out.2.2.2.1).gr ((gR _).alloc _)) ((d.out.2.cel.below h4.out.2.2.2.1).gr ((gR _).alloc _));rw[d.out.2.ok] at u;have hO:K _:=u;go_wp2_with fail;refine ja0 hO ?_;rintro e w5 ⟨M,Y,m,rfl,l1,l2,l3,l4,l5⟩;have E:jb2 F w5:=((gR F).alloc _).below.trans (l4.mono (by simp));have ao:=h4.out.2.1.below E;have p0:=ao.cell (j:=1) rfl;have z0:=ao.fz 1;have a2:M.length<=maxLen:=qA l1 d.out.2.ok;have ap:K (LvP (fun b=>r.heap.size<=b/\b<w5.heap.size) w5 X k L/\LvP (fun b=>r.heap.size<=b/\b<w5.heap.size) w5 Y m M/\M.map Itm.z=ofR t):=⟨(h4.out.2.2.1.below E).mono fun b g=>⟨g.1,nL g.2 E.size⟩,(LvP.new ⟨l2,l3,a2⟩ l5).mono fun b g=>⟨nT h4.out.2.2.2.2 (nT (by simp) g.1),g.2⟩,l1⟩;have aL:=ja3 (h4.out.1.below E) ao (h4.out.2.2.2.1.trans (E.mono h4.out.2.2.2.1.size));go_wp2;obtain ⟨w6,f⟩:=jb0 (w5.setCell (jb5 (w.heap.size+1+1) 1) (I Y M.length m));rw[f];have a8:w6.heap.size=w5.heap.size:=by rw[<-f];simp
 have R:K (Cls w6 (w.heap.size+1) [I none 0 0,I none 0 0]/\Cls w6 (w.heap.size+1+1) [I X L.length k,I Y M.length m]/\LvP (fun b=>r.heap.size<=b/\b<w6.heap.size) w6 X k L/\LvP (fun b=>r.heap.size<=b/\b<w6.heap.size) w6 Y m M/\jb2 w w6):=by
  have ah:=hH.out.2.2.2;refine ⟨?_,?_,?_,?_,?_⟩
  ·rw[<-f];exact aL.out.1.oth (by omega) _
  ·rw[<-f];exact aL.out.2.1.put 1 _
  ·rw[a8,<-f];exact ap.out.1.agr (Agr.set _ fun h=>by omega)
  ·rw[a8,<-f];exact ap.out.2.1.agr (Agr.set _ fun h=>by omega)
  ·rw[<-f];exact aL.out.2.2.setCell (by show _<=w.heap.size+1+1;omega) _
 rw[rounds_succ];have q0:=R.out.2.1.cell (j:=0) rfl;have q1:=R.out.2.1.cell (j:=1) rfl;have r0:=R.out.1.cell (j:=0) rfl;have r1:=R.out.1.cell (j:=1) rfl;have z0:=R.out.1.fz 0;have z1:=R.out.1.fz 1;go_wp2;have ah:=hH.out.2.2.2;have a6:w.heap.size<=w.heap.size+1:=by omega
 refine bodyPost_ret (v:= N #[I X L.length k,I Y M.length m]) (by simp[results,Tryz.results30,go_sem,r0,r1]) rfl ⟨L,M,X,Y,k,m,rfl,a5.out.2,ap.out.2.2,?_,?_,(R.out.2.2.2.2.setCell a6 _).setCell a6 _⟩
 ·exact ((R.out.2.2.1.agr (Agr.set _ fun h=>by omega)).agr (Agr.set _ fun h=>by omega)).mono fun b g=>⟨by omega,by simpa using g.2⟩
 ·exact ((R.out.2.2.2.1.agr (Agr.set _ fun h=>by omega)).agr (Agr.set _ fun h=>by omega)).mono fun b g=>⟨by omega,by simpa using g.2⟩
theorem pZ {W:Z} {A:Option J} {c:Nat} {l:List Itm} (h:Lv W A c l) (d:TS (l.map Itm.z)) :
  ib U 92 #[I A l.length c] W fun e w'=>∃(L:List Itm) (C:Option J) (k:Nat),e= ia (iv #[I C L.length k,O S 0])/\L.map Itm.z=i7 (l.map Itm.z)/\Lv w' C k L/\jb2 W w':=by have:=AQ h rfl;rw[d.ok] at this;exact this
theorem lA (a b c d:List Itm) (A B C D:Option J) (ca cb cc cd:Nat) (w:Z) (ha:Lv w A ca a) (l:Lv w B cb b) (hc:Lv w C cc c) (hd:Lv w D cd d) (ta:TS (a.map Itm.z)) (tb:TS (b.map Itm.z)) (tc:TS (c.map Itm.z)) (td:TS (d.map Itm.z)) :
  ib U 50 #[N #[I A a.length ca,I B b.length cb],N #[I C c.length cc,I D d.length cd]] w fun e w'=>∃(L M:List Itm) (X Y:Option J) (k m:Nat),e= ia (N #[I X L.length k,I Y M.length m])/\L.map Itm.z=bD (a.map Itm.z) (c.map Itm.z)/\M.map Itm.z=bD (b.map Itm.z) (d.map Itm.z)/\LvP (fun b=>w.heap.size<=b/\b<w'.heap.size) w' X k L/\LvP (fun b=>w.heap.size<=b/\b<w'.heap.size) w' Y m M/\jb2 w w':=by
 have f:K (Lv w A ca a/\Lv w B cb b/\Lv w C cc c/\Lv w D cd d/\TS (a.map Itm.z)/\TS (b.map Itm.z)/\TS (c.map Itm.z)/\TS (d.map Itm.z)):=⟨ha,l,hc,hd,ta,tb,tc,td⟩;go_enter Tryz.func50,Tryz.ntmps50;go_wp2;obtain ⟨wa,ak⟩:=jb0 ((w.alloc (H #[I A a.length ca,I B b.length cb] 67)).alloc (H #[I C c.length cc,I D d.length cd] 67));rw[ak];have ba:Gr w wa:=by rw[<-ak];exact ((gR w).alloc _).alloc _
 have a8:wa.heap.size=w.heap.size+1+1:=by rw[<-ak];simp
 have hN:Cls wa w.heap.size [I A a.length ca,I B b.length cb]:=by rw[<-ak];exact (Cls.new w _ _).gr ((gR _).alloc _)
 have hO:Cls wa (w.heap.size+1) [I C c.length cc,I D d.length cd]:=by have:=Cls.new (w.alloc (H #[I A a.length ca,I B b.length cb] 67)) #[I C c.length cc,I D d.length cd] 67;rw[ak,show (w.alloc (H #[I A a.length ca,I B b.length cb] 67)).heap.size=w.heap.size+1 by simp] at this;exact this
 obtain ⟨R,ao⟩:=jb0 ((wa.alloc (H #[I none 0 0,I none 0 0] 67)).alloc (H #[I none 0 0,I none 0 0] 67));rw[ao];have a1:=sD wa 67 ao a8;have ah:Gr wa R:=by rw[<-ao];exact ((gR _).alloc _).alloc _
 have a9:Gr w R:=ba.trans ah;have an:R.heap.size=w.heap.size+1+1+1+1:=by rw[<-ao];simp[a8]
 have r:=ja6 a9 (hN.gr ah) (hO.gr ah) a1.1 a1.2 an;have q0:=r.out.2.1.cell (j:=0) rfl;have q1:=r.out.2.2.1.cell (j:=0) rfl;refine wp_loop_rounds 3 ?_;rw[rounds_succ];have n:=pZ (f.out.2.2.1.gr r.out.1) f.out.2.2.2.2.2.2.1;have hC:K _:=n;go_wp2_with fail;refine ja0 hC ?_;rintro e w2 ⟨bb,TA,tk,rfl,t1,t2,t3⟩;have u:=ja3 t2 t1 t3;have q0:=(r.out.2.1.below u.out.2.2).cell (j:=0) rfl;have n:=jq ((f.out.1.gr r.out.1).below u.out.2.2) u.out.1 (m:=bD (a.map Itm.z) (c.map Itm.z)) (by rw[u.out.2.1];exact (mT f.out.2.2.2.2.1 f.out.2.2.2.2.2.2.1).2);have hC:K _:=n;go_wp2_with fail;refine ja0 hC ?_;rintro e w3 ⟨L,X,k,rfl,l1,l2,l3⟩;have a4:jb2 R w3:=u.out.2.2.trans (l3.mono u.out.2.2.size);have a2:=r.out.2.2.2.2.1.below a4;have p0:=a2.cell (j:=0) rfl;have z0:=a2.fz 0;have a3:K (LvP (fun b=>R.heap.size<=b/\b<w3.heap.size) w3 X k L/\L.map Itm.z=bD (a.map Itm.z) (c.map Itm.z)):=⟨l2.mono fun b l=>⟨nT u.out.2.2.size l.1,l.2⟩,l1⟩;have F:=ja1 a4;go_wp2;obtain ⟨w4,g⟩:=jb0 (w3.setCell (jb5 (w.heap.size+1+1+1) 0) (I X L.length k));rw[g];have a6:w4.heap.size=w3.heap.size:=by rw[<-g];simp
 have h4:K (Cls w4 w.heap.size [I A a.length ca,I B b.length cb]/\Cls w4 (w.heap.size+1) [I C c.length cc,I D d.length cd]/\Cls w4 (w.heap.size+1+1) [I none 0 0,I none 0 0]/\Cls w4 (w.heap.size+1+1+1) [I X L.length k,I none 0 0]/\LvP (fun b=>R.heap.size<=b/\b<w4.heap.size) w4 X k L/\jb2 w w4/\R.heap.size<=w4.heap.size):=by
  have an:=r.out.2.2.2.2.2;have l:=r.out.1.below.trans (F.out.mono r.out.1.size);refine ⟨?_,?_,?_,?_,?_,?_,?_⟩
  ·rw[<-g];exact (r.out.2.1.below F.out).oth (by omega) _
  ·rw[<-g];exact (r.out.2.2.1.below F.out).oth (by omega) _
  ·rw[<-g];exact (r.out.2.2.2.1.below F.out).oth (by omega) _
  ·rw[<-g];exact (r.out.2.2.2.2.1.below F.out).put 0 _
  ·rw[a6,<-g];exact a3.out.1.agr (Agr.set _ fun h=>by omega)
  ·rw[<-g];exact l.setCell (by show _<=w.heap.size+1+1+1;omega) _
  ·rw[a6];exact F.out.size
 rw[rounds_succ];have q0:=h4.out.1.cell (j:=1) rfl;have q1:=h4.out.2.1.cell (j:=1) rfl;have n:=pZ (f.out.2.2.2.1.below h4.out.2.2.2.2.2.1) f.out.2.2.2.2.2.2.2;have hC:K _:=n;go_wp2_with fail;refine ja0 hC ?_;rintro e w5 ⟨bc,UA,uk,rfl,t1,t2,t3⟩;have u:=ja3 t2 t1 t3;have q0:=(h4.out.1.below u.out.2.2).cell (j:=1) rfl;have n:=jq ((f.out.2.1.below h4.out.2.2.2.2.2.1).below u.out.2.2) u.out.1 (m:=bD (b.map Itm.z) (d.map Itm.z)) (by rw[u.out.2.1];exact (mT f.out.2.2.2.2.2.1 f.out.2.2.2.2.2.2.2).2);have hC:K _:=n;go_wp2_with fail;refine ja0 hC ?_;rintro e w6 ⟨M,Y,m,rfl,l1,l2,l3⟩;have ad:jb2 w4 w6:=u.out.2.2.trans (l3.mono u.out.2.2.size);have ap:=h4.out.2.2.2.1.below ad;have p0:=ap.cell (j:=1) rfl;have z0:=ap.fz 1;have aL:K (LvP (fun b=>R.heap.size<=b/\b<w6.heap.size) w6 X k L/\LvP (fun b=>R.heap.size<=b/\b<w6.heap.size) w6 Y m M/\M.map Itm.z=bD (b.map Itm.z) (d.map Itm.z)):=⟨(h4.out.2.2.2.2.1.below ad).mono fun b l=>⟨l.1,nL l.2 ad.size⟩,l2.mono fun b l=>⟨nT h4.out.2.2.2.2.2.2 (nT u.out.2.2.size l.1),l.2⟩,l1⟩;have a0:=ja3 (h4.out.2.2.1.below ad) ap (h4.out.2.2.2.2.2.1.trans (ad.mono h4.out.2.2.2.2.2.1.size));go_wp2;obtain ⟨w7,E⟩:=jb0 (w6.setCell (jb5 (w.heap.size+1+1+1) 1) (I Y M.length m));rw[E];have a7:w7.heap.size=w6.heap.size:=by rw[<-E];simp
 have h7:K (Cls w7 (w.heap.size+1+1) [I none 0 0,I none 0 0]/\Cls w7 (w.heap.size+1+1+1) [I X L.length k,I Y M.length m]/\LvP (fun b=>R.heap.size<=b/\b<w7.heap.size) w7 X k L/\LvP (fun b=>R.heap.size<=b/\b<w7.heap.size) w7 Y m M/\jb2 w w7):=by
  have an:=r.out.2.2.2.2.2;refine ⟨?_,?_,?_,?_,?_⟩
  ·rw[<-E];exact a0.out.1.oth (by omega) _
  ·rw[<-E];exact a0.out.2.1.put 1 _
  ·rw[a7,<-E];exact aL.out.1.agr (Agr.set _ fun h=>by omega)
  ·rw[a7,<-E];exact aL.out.2.1.agr (Agr.set _ fun h=>by omega)
  ·rw[<-E];exact a0.out.2.2.setCell (by show _<=w.heap.size+1+1+1;omega) _
 rw[rounds_succ];have q0:=h7.out.2.1.cell (j:=0) rfl;have q1:=h7.out.2.1.cell (j:=1) rfl;have r0:=h7.out.1.cell (j:=0) rfl;have r1:=h7.out.1.cell (j:=1) rfl;have z0:=h7.out.1.fz 0;have z1:=h7.out.1.fz 1;go_wp2;have an:=r.out.2.2.2.2.2;have a5:w.heap.size<=w.heap.size+1+1:=by omega
 refine bodyPost_ret (v:= N #[I X L.length k,I Y M.length m]) (by simp[results,Tryz.results50,go_sem,r0,r1]) rfl ⟨L,M,X,Y,k,m,rfl,a3.out.2,aL.out.2.2,?_,?_,(h7.out.2.2.2.2.setCell a5 _).setCell a5 _⟩
 ·exact ((h7.out.2.2.1.agr (Agr.set _ fun h=>by omega)).agr (Agr.set _ fun h=>by omega)).mono fun b l=>⟨by omega,by simpa using l.2⟩
 ·exact ((h7.out.2.2.2.1.agr (Agr.set _ fun h=>by omega)).agr (Agr.set _ fun h=>by omega)).mono fun b l=>⟨by omega,by simpa using l.2⟩
abbrev aS:=@Agr.set

theorem Vo.mono {w:Z} {V o:Nat} {P P':Nat->Prop} {q:List Stp} {QA:Option J} {cq:Nat} {a:List Itm} {A:Option J} {ca:Nat} {b:List Itm} {B:Option J} {cb:Nat} (h:Vo w V o P q QA cq a A ca b B cb) (k:∀b,P b->P' b):Vo w V o P' q QA cq a A ca b B cb :=
 ⟨h.lt,h.fz,h.c0,h.c1,h.c2,h.st.mono k,h.len,h.la.mono k,h.lb.mono k⟩
theorem Vo.set {w:Z} {V o:Nat} {P:Nat->Prop} {q:List Stp} {QA:Option J} {cq:Nat} {a:List Itm} {A:Option J} {ca:Nat} {b:List Itm} {B:Option J} {cb:Nat} (h:Vo w V o P q QA cq a A ca b B cb) (d:¬P V) {j:Nat} (f:o+3<=j) (v:ik):Vo (w.jb3 V j v) V o P q QA cq a A ca b B cb :=
 have c:Agr P w (w.jb3 V j v):=aS v d
 ⟨by simpa using h.lt,fun j=>by simpa using h.fz j,by rw[cU (by omega)];exact h.c0,by rw[cU (by omega)];exact h.c1,by rw[cU (by omega)];exact h.c2,h.st.agr c,h.len,h.la.agr c,h.lb.agr c⟩
structure Vm (w:Z) (V o:Nat) (P:Nat->Prop) (q:List Stp) (QA:Option J) (cq:Nat) (a:List Itm) (A:Option J) (ca:Nat) (b:List Itm) (B:Option J) (cb:Nat) (x:List Itm) (X:Option J) (cx:Nat) (y:List Itm) (Y:Option J) (cy:Nat) (e:Int):Prop where
 vo:Vo w V o P q QA cq a A ca b B cb
 c3:w.cell? ⟨V,o+3,none⟩=some (I X x.length cx)
 c4:w.cell? ⟨V,o+4,none⟩=some (I Y y.length cy)
 c5:w.cell? ⟨V,o+5,none⟩=some (O S e)
 lx:LvP P w X cx x
 ly:LvP P w Y cy y
section
variable {w w':Z} {V o:Nat} {P P':Nat->Prop} {q:List Stp} {QA:Option J} {cq:Nat} {a:List Itm} {A:Option J} {ca:Nat} {b:List Itm} {B:Option J} {cb:Nat} {x:List Itm} {X:Option J} {cx:Nat} {y:List Itm} {Y:Option J} {cy:Nat} {e:Int}
theorem Vm.below (h:Vm w V o P q QA cq a A ca b B cb x X cx y Y cy e) (k:jb2 w w'):Vm w' V o P q QA cq a A ca b B cb x X cx y Y cy e :=
 ⟨h.vo.below k,(k.cell (p:=(jb5 V (o+3))) h.vo.lt).trans h.c3,(k.cell (p:=(jb5 V (o+4))) h.vo.lt).trans h.c4,(k.cell (p:=(jb5 V (o+5))) h.vo.lt).trans h.c5,h.lx.below k,h.ly.below k⟩
theorem Vm.mono (h:Vm w V o P q QA cq a A ca b B cb x X cx y Y cy e) (k:∀b,P b->P' b):Vm w V o P' q QA cq a A ca b B cb x X cx y Y cy e :=
 ⟨h.vo.mono k,h.c3,h.c4,h.c5,h.lx.mono k,h.ly.mono k⟩
theorem Vm.set3 (h:Vm w V o P q QA cq a A ca b B cb x X cx y Y cy e) (f:¬P V) {g:List Itm} {d:Option J} {c:Nat} (j:LvP P w d c g):Vm (w.jb3 V (o+3) (I d g.length c)) V o P q QA cq a A ca b B cb g d c y Y cy e :=
 ⟨h.vo.set f (by omega) _,World.cell?_setCell_same _ _ _ h.c3,by rw[cU (by omega)];exact h.c4,by rw[cU (by omega)];exact h.c5,j.agr (aS _ f),h.ly.agr (aS _ f)⟩
theorem Vm.set4 (h:Vm w V o P q QA cq a A ca b B cb x X cx y Y cy e) (f:¬P V) {g:List Itm} {d:Option J} {c:Nat} (j:LvP P w d c g):Vm (w.jb3 V (o+4) (I d g.length c)) V o P q QA cq a A ca b B cb x X cx g d c e :=
 ⟨h.vo.set f (by omega) _,by rw[cU (by omega)];exact h.c3,World.cell?_setCell_same _ _ _ h.c4,by rw[cU (by omega)];exact h.c5,h.lx.agr (aS _ f),j.agr (aS _ f)⟩
theorem Vm.set5 (h:Vm w V o P q QA cq a A ca b B cb x X cx y Y cy e) (c:¬P V) (d:Int):Vm (w.jb3 V (o+5) (O S d)) V o P q QA cq a A ca b B cb x X cx y Y cy d :=
 ⟨h.vo.set c (by omega) _,by rw[cU (by omega)];exact h.c3,by rw[cU (by omega)];exact h.c4,World.cell?_setCell_same _ _ _ h.c5,h.lx.agr (aS _ c),h.ly.agr (aS _ c)⟩
end
def VwM (w:Z) (V o:Nat) (P:Nat->Prop) (q:List Stp) (k l m n:List Zit) (e:Int):Prop :=
 ∃(q':List Stp) (QA:Option J) (cq:Nat) (a:List Itm) (A:Option J) (ca:Nat) (b:List Itm) (B:Option J) (cb:Nat) (x:List Itm) (X:Option J) (cx:Nat) (y:List Itm) (Y:Option J) (cy:Nat),
  Vm w V o P q' QA cq a A ca b B cb x X cx y Y cy e/\q'.map bare=q.map bare/\a.map Itm.z=k/\b.map Itm.z=l/\x.map Itm.z=m/\y.map Itm.z=n
theorem VwM.below {w w':Z} {V o:Nat} {P:Nat->Prop} {q:List Stp} {k l m n:List Zit} {e:Int} (h:VwM w V o P q k l m n e) (g:jb2 w w'):VwM w' V o P q k l m n e:=by obtain ⟨f,QA,cq,a,A,ca,b,B,cb,x,X,cx,y,Y,cy,c,d⟩:=h;exact ⟨f,QA,cq,a,A,ca,b,B,cb,x,X,cx,y,Y,cy,c.below g,d⟩
theorem VwM.mono {w:Z} {V o:Nat} {P P':Nat->Prop} {q:List Stp} {k l m n:List Zit} {e:Int} (h:VwM w V o P q k l m n e) (g:∀b,P b->P' b):VwM w V o P' q k l m n e:=by obtain ⟨f,QA,cq,a,A,ca,b,B,cb,x,X,cx,y,Y,cy,c,d⟩:=h;exact ⟨f,QA,cq,a,A,ca,b,B,cb,x,X,cx,y,Y,cy,c.mono g,d⟩
theorem VwM.keep {w w':Z} {V o:Nat} {P:Nat->Prop} {q:List Stp} {k l m n:List Zit} {e:Int} (h:VwM w V o P q k l m n e) (f:Agr P w w') (u:V<w'.heap.size) (r:∀j,w'.frozen? (jb5 V j)=false) (d:∀j,o<=j->j<o+6->w'.cell? (jb5 V j)=w.cell? (jb5 V j)):VwM w' V o P q k l m n e:=by obtain ⟨C,QA,cq,a,A,ca,b,B,cb,x,X,cx,y,Y,cy,c,g⟩:=h;exact ⟨C,QA,cq,a,A,ca,b,B,cb,x,X,cx,y,Y,cy,⟨⟨u,r,(d o (by omega) (by omega)).trans c.vo.c0,(d (o+1) (by omega) (by omega)).trans c.vo.c1,(d (o+2) (by omega) (by omega)).trans c.vo.c2,c.vo.st.agr f,c.vo.len,c.vo.la.agr f,c.vo.lb.agr f⟩,(d (o+3) (by omega) (by omega)).trans c.c3,(d (o+4) (by omega) (by omega)).trans c.c4,(d (o+5) (by omega) (by omega)).trans c.c5,c.lx.agr f,c.ly.agr f⟩,g⟩
def VwN (w:Z) (V o:Nat) (P:Nat->Prop) (q:List Stp) (z y:List Zit):Prop :=
 ∃k l,VwM w V o P q k l (bD z k) (bD y l) (ct q z y)/\TS k/\TS l/\(ct q z y=0->k=z/\l=y)
theorem VwN.mono {w:Z} {V o:Nat} {P P':Nat->Prop} {q:List Stp} {z y:List Zit} (h:VwN w V o P q z y) (g:∀b,P b->P' b):VwN w V o P' q z y:=by obtain ⟨k,l,c,d⟩:=h;exact ⟨k,l,c.mono g,d⟩
theorem VwN.keep {w w':Z} {V o:Nat} {P:Nat->Prop} {q:List Stp} {z y:List Zit} (h:VwN w V o P q z y) (f:Agr P w w') (n:V<w'.heap.size) (m:∀j,w'.frozen? (jb5 V j)=false) (g:∀j,o<=j->j<o+6->w'.cell? (jb5 V j)=w.cell? (jb5 V j)):VwN w' V o P q z y:=by obtain ⟨k,l,c,d⟩:=h;exact ⟨k,l,c.keep f n m g,d⟩
end Go.Proofs.YtbkjgjjpnfhkhaaGreatDoor
