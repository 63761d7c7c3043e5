import Derived.Test.YtjmmpnmgpgaagaaGreatDoorM20
set_option maxRecDepth 100000
set_option maxHeartbeats 8000000
open Go renaming Addr → o, World → ic, Calls → kb
open Go.Ending renaming returned → ix
open Go.IntKind renaming i64 → J
open Go.Obj renaming cells → ia
open Go.RowKit renaming Below → H, Hid → ib
open Go.Value renaming slice → I, int → Z, agg → ka, tuple → kc, pointer → kf
namespace Go.Proofs.YtjmmpnmgpgaagaaGreatDoor
open Go.RowKit Go.Sort

theorem wS {q:Int} {K:List (Int×Int)}:∀ {n:Int} {d:Int×Int},d∈K->d.1=q->gU q K n<=d.2-1:=by
 induction K with
 | nil=>intro n d h;cases h
 | cons x K ih =>
  intro n d h e
  rw[fS]
  rcases List.mem_cons.1 h with rfl|h
  ·have f:=px q K (g8 q n d)
   have g:g8 q n d<=d.2-1:=by rw[gT,if_pos e];omega
   omega
  ·exact ih h e
theorem wR {q:Int} {K:List (Int×Int)}:∀ {n:Int},gU q K n=n\/∃d∈K,d.1=q/\gU q K n=d.2-1:=by
 induction K with
 | nil=>intro n;exact oL rfl
 | cons x K ih =>
  intro n
  rw[fS]
  rcases ih (n:=g8 q n x) with h|⟨d,hd,h1,f⟩
  ·rw[h,gT]
   by_cases e:x.1=q
   ·rw[if_pos e]
    by_cases f:n<=x.2-1
    ·exact oL (by omega)
    ·exact oR ⟨x,by simp,e,by omega⟩
   ·rw[if_neg e];exact oL rfl
  ·exact oR ⟨d,by simp[hd],h1,f⟩

theorem ui (b:Ctx) (node top:Int):∀(n:Nat) (l:List (Int×Int)) (s:Int),l.Pairwise (fun x y=>br x y=true)->(∀x∈l,x.1<node\/(x.1=node/\x.2<s)) ->
  (ch b node top n l s).Pairwise (fun x y=>br x y=true):=by
 intro n
 induction n with
 | zero=>intro l s h _;exact h
 | succ n ih =>
  intro l s h g
  simp only[ch]
  by_cases u:s<=top/\l.length<=400
  ·rw[if_pos u]
   by_cases C:ai b (node,s)=true
   ·rw[if_pos C]
    exact ih l (s+1) h fun x f=>by rcases g x f with k|k<;>omega
   ·rw[if_neg C]
    refine ih _ (s+1) ?_ ?_
    ·rw[List.pairwise_append]
     refine ⟨h,by simp,?_⟩
     intro x f y E
     have r:y=(node,s):=by simpa using E
     subst r
     rw[kx]
     rcases g x f with k|k
     ·exact oL k
     ·exact oR k
    ·intro x f
     rcases List.mem_append.1 f with f|f
     ·rcases g x f with k|k<;>omega
     ·have j:x=(node,s):=by simpa using f
      subst j
      exact oR ⟨rfl,by show s<s+1;omega⟩
  ·rw[if_neg u];exact h
theorem ul (b:Ctx) (node:Int) (j:List (Int×Int)):∀(l:List (Int×Int)),j.Pairwise (fun x y=>br x y=true)->l.Pairwise (fun x y=>br x y=true)->(∀x∈l,∀y∈j,y.1=node->br x y=true) ->
  (cz b node j l).Pairwise (fun x y=>br x y=true):=by
 induction j with
 | nil=>intro l _ h _;exact h
 | cons d j ih =>
  intro l F E r
  show (cz b node j (if d.1=node/\ai b d=false then l++[d] else l)).Pairwise _
  have g:=List.pairwise_cons.1 F
  by_cases n:d.1=node/\ai b d=false
  ·rw[if_pos n]
   refine ih _ g.2 ?_ ?_
   ·rw[List.pairwise_append]
    refine ⟨E,by simp,?_⟩
    intro x f y k
    have C:y=d:=by simpa using k
    subst C
    exact r x f y (by simp) n.1
   ·intro x f y k e
    rcases List.mem_append.1 f with f|f
    ·exact r x f y (by simp[k]) e
    ·have u:x=d:=by simpa using f
     subst u
     exact g.1 y k
  ·rw[if_neg n]
   exact ih _ g.2 E fun x f y k e=>r x f y (by simp[k]) e
theorem qL {a b:Ctx} {node:Int} (f:0<=node) (g:node<4) (j:0<=clk b node) {l:List (Int×Int)} {x:Int×Int} (h:x∈ed a b node l):x∈l\/(x.1=node/\ai a x=true/\ai b x=false):=by
 unfold ed at h
 rcases (pP b node a.l _ x).1 h with h|h
 ·rcases m7 b node _ _ _ _ x h with h|⟨h1,h2,h3,h5⟩
  ·exact oL h
  ·refine oR ⟨h1,(aG a x).2 (oR ⟨by omega,by omega,by omega,by rw[h1];exact h3⟩),h5⟩
 ·exact oR ⟨h.2.1,(aG a x).2 (oL h.1),h.2.2⟩
theorem kK {a b:Ctx} (g:∀q:Int,0<=q->q<4->0<=clk b q):∀k,k<=4->∀x∈bm a b k,(0<=x.1/\x.1<(k:Int))/\ai a x=true/\ai b x=false:=by
 intro k
 induction k with
 | zero=>intro _ x f;cases f
 | succ k ih =>
  intro j x f
  rcases qL (by omega) (by omega) (g k (by omega) (by omega)) (show x∈ed a b k (bm a b k) from f) with h|h
  ·have:=ih (by omega) x h
   exact ⟨⟨this.1.1,by have:=this.1.2;omega⟩,this.2⟩
  ·exact ⟨⟨by rw[h.1];omega,by rw[h.1];omega⟩,h.2⟩
theorem um {a b:Ctx} (n:Can a) (u:∀q:Int,0<=q->q<4->0<=clk b q):∀k,k<=4->(bm a b k).Pairwise (fun x y=>br x y=true):=by
 intro k
 induction k with
 | zero=>intro _;exact List.Pairwise.nil
 | succ k ih =>
  intro E
  have j:=ih (by omega)
  have r:=kK (a:=a) u k (by omega)
  show (ed a b k (bm a b k)).Pairwise _
  unfold ed
  refine ul b k a.l _ n.rise (ui b k _ _ _ _ j fun x f=>oL (r x f).1.2) ?_
  intro x f y C e
  have g:=n.above y C
  rw[e] at g
  rw[kx]
  rcases m7 b k _ _ _ _ x f with h|h
  ·exact oL (by rw[e];exact (r x h).1.2)
  ·exact oR ⟨by rw[h.1,e],by omega⟩

theorem CD {c:Ctx} {K:List (Int×Int)} (hK:∀x∈K,am x=true) (h:woE c K=0):aN c=0/\aN (woC c K)=0/\∀x,ai (woC c K) x=true↔ai c x=true/\x ∉ K:=by
 have hc:aN c=0:=by
  by_cases F:aN c=0
  ·exact F
  ·unfold woE at h;rw[if_pos F] at h;exact h
 have hm:gB c (bX c K)=0:=by
  unfold woE at h;rw[hc] at h;simpa using h
 have hl:(bm c (bX c K) 4).length<=400:=by
  unfold gB at hm
  by_cases r:400<(bm c (bX c K) 4).length
  ·rw[if_pos r] at hm;cases hm
  ·omega
 have hL:iz c (bX c K)=bm c (bX c K) 4:=by unfold iz;rw[if_neg (by omega)]
 have f:=cX hc
 have u:woC c K=⟨(bX c K).c0,(bX c K).c1,(bX c K).c2,(bX c K).c3,bm c (bX c K) 4⟩:=by unfold woC;rw[if_pos h,hL]
 have ah:=vD f.ck hK
 have hn:∀q:Int,0<=q->q<4->0<=clk (bX c K) q:=fun q h0 r=>(cE ah q h0 r).1
 have E:∀q:Int,clk (woC c K) q=clk (bX c K) q:=fun q=>by rw[u];rfl
 have R:∀q:Int,0<=q->q<4->clk (bX c K) q=gU q K (clk c q):=fun q h0 r=>yR hK h0 r
 have g:=kK (a:=c) hn 4 (nR _)
 have ad:∀x,ai (bX c K) x=false->x ∉ K/\(0<=x.1->x.1<4->1<=x.2->clk (bX c K) x.1<x.2):=by
  intro x C
  unfold ai at C
  rw[ud,Bool.or_eq_false_iff] at C
  refine ⟨by simpa using C.1,fun h0 r F=> ?_⟩
  have h2:=C.2
  by_cases h3:clk (bX c K) x.1<x.2
  ·exact h3
  ·have:(inB x.1 0 3 && decide (1<=x.2) && decide (x.2<=clk (bX c K) x.1))=true:=by
    simp[inB];omega
   rw[this] at h2;cases h2
 have hC:Can (woC c K):=by
  refine ⟨?_,?_,?_,?_⟩
  ·rw[u];exact ah
  ·intro y hy
   rw[u] at hy
   exact lw f (g y hy).2.1
  ·intro y hy
   rw[E]
   rw[u] at hy
   have L:=g y hy
   have j:=pH f L.2.1
   have hg:=ad y L.2.2
   have ao:=hg.2 j.1 j.2.1 j.2.2
   have hd:=R y.1 j.1 j.2.1
   by_cases he:y.2=clk (bX c K) y.1+1
   ·exfalso
    rcases wR (q:=y.1) (K:=K) (n:=clk c y.1) with k|⟨d,hd1,hd2,hd3⟩
    ·rw[hd,k] at he
     rcases (aG c y).1 L.2.1 with m|m
     ·have:=f.above y m
      omega
     ·have:=m.2.2.2
      omega
    ·rw[hd,hd3] at he
     refine hg.1 ?_
     have:y=d:=Prod.ext hd2.symm (by omega)
     rw[this];exact hd1
   ·omega
  ·rw[u];exact um f hn 4 (nR _)
 refine ⟨hc,jV hC (by rw[u];exact hl),fun x=> ?_⟩
 rw[aG]
 constructor
 ·rintro (k|k)
  ·rw[u] at k
   have L:=g x k
   exact ⟨L.2.1,(ad x L.2.2).1⟩
  ·rw[E] at k
   have r:x.1<4:=by omega
   have hd:=R x.1 k.1 r
   have an:=px x.1 K (clk c x.1)
   refine ⟨(aG c x).2 (oR ⟨k.1,k.2.1,k.2.2.1,by omega⟩),fun C=> ?_⟩
   have:=wS (n:=clk c x.1) C rfl
   omega
 ·rintro ⟨F,h2⟩
  have j:=pH f F
  by_cases C:x.2<=clk (bX c K) x.1
  ·exact oR ⟨j.1,by omega,j.2.2,by rw[E];exact C⟩
  ·refine oL ?_
   rw[u]
   refine xr j.1 F ?_ 4 hl (by omega)
   rw[BD (by omega),s6]
   simpa using h2

set_option linter.unusedSimpArgs false

theorem pn {w1 f:ic} {B n r u:Nat} {D E:List Itm} {g j:Option o} {a b:List Zit} (hB:Cls f B [I none 0 0,I none 0 0]) (g3:LvP (fun b=>n<=b/\b<f.heap.size) f g r D) (g4:LvP (fun b=>n<=b/\b<f.heap.size) f j u E) (hn:B<n) (C:w1.heap.size<=B) (F:H w1.heap.size w1 f) (e1:D.map Itm.z=a) (e2:E.map Itm.z=b) :
  ∃(L M:List Itm) (X Y:Option o) (k m:Nat),Cls ((f.setCell ⟨B,0,none⟩ (I g D.length r)).setCell ⟨B,1,none⟩ (I j E.length u)) B [I X L.length k,I Y M.length m]/\L.map Itm.z=a/\M.map Itm.z=b/\LvP (fun b=>w1.heap.size<=b/\b<((f.setCell ⟨B,0,none⟩ (I g D.length r)).setCell ⟨B,1,none⟩ (I j E.length u)).heap.size) ((f.setCell ⟨B,0,none⟩ (I g D.length r)).setCell ⟨B,1,none⟩ (I j E.length u)) X k L/\LvP (fun b=>w1.heap.size<=b/\b<((f.setCell ⟨B,0,none⟩ (I g D.length r)).setCell ⟨B,1,none⟩ (I j E.length u)).heap.size) ((f.setCell ⟨B,0,none⟩ (I g D.length r)).setCell ⟨B,1,none⟩ (I j E.length u)) Y m M/\w1.heap.size<=B/\H w1.heap.size w1 ((f.setCell ⟨B,0,none⟩ (I g D.length r)).setCell ⟨B,1,none⟩ (I j E.length u)):=by
 have R:((f.setCell ⟨B,0,none⟩ (I g D.length r)).setCell ⟨B,1,none⟩ (I j E.length u)).heap.size=f.heap.size:=by simp
 refine ⟨D,E,g,j,r,u,(hB.put 0 _).put 1 _,e1,e2,?_,?_,C,(F.setCell C _).setCell C _⟩
 ·rw[R];exact ((g3.agr (aS _ fun h=>by omega)).agr (aS _ fun h=>by omega)).mono fun b F=>⟨by omega,F.2⟩
 ·rw[R];exact ((g4.agr (aS _ fun h=>by omega)).agr (aS _ fun h=>by omega)).mono fun b F=>⟨by omega,F.2⟩
theorem yH {w1 f:ic} {n j r:Nat} {D E:List Itm} {g h:Option o} {a b:List Zit} {T:TypeId} (g3:LvP (fun b=>n<=b/\b<f.heap.size) f g j D) (g4:LvP (fun b=>n<=b/\b<f.heap.size) f h r E) (h1:w1.heap.size<=n) (u:H w1.heap.size w1 f) (F:D.map Itm.z=a) (R:E.map Itm.z=b) :
  ∃(L M:List Itm) (X Y:Option o) (k m:Nat),Cls (f.alloc (ia #[I g D.length j,I h E.length r] T)) f.heap.size [I X L.length k,I Y M.length m]/\L.map Itm.z=a/\M.map Itm.z=b/\LvP (fun b=>w1.heap.size<=b/\b<(f.alloc (ia #[I g D.length j,I h E.length r] T)).heap.size) (f.alloc (ia #[I g D.length j,I h E.length r] T)) X k L/\LvP (fun b=>w1.heap.size<=b/\b<(f.alloc (ia #[I g D.length j,I h E.length r] T)).heap.size) (f.alloc (ia #[I g D.length j,I h E.length r] T)) Y m M/\w1.heap.size<=f.heap.size/\H w1.heap.size w1 (f.alloc (ia #[I g D.length j,I h E.length r] T)):=by
 have C:=((gR f).alloc (ia #[I g D.length j,I h E.length r] T)).below
 have hs:(f.alloc (ia #[I g D.length j,I h E.length r] T)).heap.size=f.heap.size+1:=by simp
 exact ⟨D,E,g,h,j,r,Cls.new f _ T,F,R,(g3.below C).mono fun b u=>⟨by omega,by omega⟩,(g4.below C).mono fun b u=>⟨by omega,by omega⟩,u.size,u.alloc u.size _⟩

theorem jR {w:ic} {N O m0:Nat} {P:Nat->Prop} {id:Int} {s t n r:Tab} {qs:List (List Stp)} (h:Nd w N O P id s t qs) (bh:N<m0) (bl:m0<=w.heap.size) {A' B' C' D':Option o} {a0 a1 a2 a3:Nat} (bn:TbP (af P m0 w.heap.size) w n A' a0 C' a2) (bo:TbP (af P m0 w.heap.size) w r B' a1 D' a3) :
  kb Tryz.prog 130 #[kf (some ⟨N,O,none⟩),ka (T2 n A' a0 C' a2 r B' a1 D' a3).toArray] w fun e w'=>e= ix (kc #[])/\Nd w' N O (af P m0 w'.heap.size) id n r qs/\Wr N (O+1) (O+37) w w':=by
 have dz:Tryz.prog.follows .mixedOrders=true:=by kernel_rfl
 obtain ⟨A,ca,C,cc,cs,ck⟩:=h.ts
 obtain ⟨B,cb,D,cd,cu,cl⟩:=h.tt
 obtain ⟨w1,bp⟩:∃W,w.alloc (ia #[Z J n.c.c0,Z J n.c.c1,Z J n.c.c2,Z J n.c.c3,I A' n.c.l.length a0,I C' n.e.length a2,Z J r.c.c0,Z J r.c.c1,Z J r.c.c2,Z J r.c.c3,I B' r.c.l.length a1,I D' r.e.length a3] 57)=W:=⟨_,rfl⟩
 have ap:Gr w w1:=by rw[<-bp];exact (gR w).alloc _
 have an:ib (Cls w1 w.heap.size (T2 n A' a0 C' a2 r B' a1 D' a3)):=by show Cls _ _ _;rw[<-bp];exact Cls.new w _ _
 have f:=ja1 (nL h.blk.lt ap.size)
 have bc:=h.blk.lt
 have g:ib (TbC w1 N (O+1) s A ca C cc/\TbC w1 N (O+7) t B cb D cd):=⟨cs.keep fun j _ _=>ap.below.cell (p:=⟨N,j,none⟩) bc,cu.keep fun j _ _=>ap.below.cell (p:=⟨N,j,none⟩) bc⟩
 have bs:ib (∀W,H w1.heap.size w1 W->kb Tryz.prog 136 #[ka (T2 n A' a0 C' a2 r B' a1 D' a3).toArray] W fun e w'=>∃(L M:List Itm) (X Y:Option o) (k m:Nat),e= ix (ka #[I X L.length k,I Y M.length m])/\L.map Itm.z=ofR n/\M.map Itm.z=ofR r/\LvP (fun b=>W.heap.size<=b/\b<w'.heap.size) w' X k L/\LvP (fun b=>W.heap.size<=b/\b<w'.heap.size) w' Y m M/\H W.heap.size W w'):=fun W u=>kj n r A' B' C' D' a0 a1 a2 a3 W ((bn.below ap.below).below u) ((bo.below ap.below).below u)
 have bt:ib (∀W,H w1.heap.size w1 W->kb Tryz.prog 136 #[ka (T2 s A ca C cc t B cb D cd).toArray] W fun e w'=>∃(L M:List Itm) (X Y:Option o) (k m:Nat),e= ix (ka #[I X L.length k,I Y M.length m])/\L.map Itm.z=ofR s/\M.map Itm.z=ofR t/\LvP (fun b=>W.heap.size<=b/\b<w'.heap.size) w' X k L/\LvP (fun b=>W.heap.size<=b/\b<w'.heap.size) w' Y m M/\H W.heap.size W w'):=fun W u=>kj s t A B C D ca cb cc cd W ((ck.below ap.below).below u) ((cl.below ap.below).below u)
 have hH:ib (Nd w N O P id s t qs/\TbP (af P m0 w.heap.size) w n A' a0 C' a2/\TbP (af P m0 w.heap.size) w r B' a1 D' a3/\N<m0/\m0<=w.heap.size/\Gr w w1/\w1.heap.size=w.heap.size+1):=⟨h,bn,bo,bh,bl,ap,by rw[<-bp];simp⟩
 have a6:=ja4 (TS.of ck.ok) (TS.of cl.ok) (TS.of bn.ok) (TS.of bo.ok)
 clear h bh bl bn bo ck cl cs cu ap bc
 go_enter Tryz.func130,Tryz.ntmps130
 go_upto_region 1 with fail
 clear bp
 go_cut [4] from 6 (fun v4 wx=>∃Bm:Nat,v4= kf (some ⟨Bm,0,none⟩)/\ib (∃(L M:List Itm) (X Y:Option o) (k m:Nat),Cls wx Bm [I X L.length k,I Y M.length m]/\L.map Itm.z=bf (ofR n) (ofR s)/\M.map Itm.z=bf (ofR r) (ofR t)/\LvP (fun b=>w1.heap.size<=b/\b<wx.heap.size) wx X k L/\LvP (fun b=>w1.heap.size<=b/\b<wx.heap.size) wx Y m M/\w1.heap.size<=Bm/\H w1.heap.size w1 wx))
 case first =>
  have eb:N<w1.heap.size:=f.out
  have ba:=ja1 ((gR w1).drew.below)
  have be:ib (H w1.heap.size w1 (w1.alloc (ia #[I none 0 0,I none 0 0] 63)).drew):=((gR w1).alloc _).drew.below
  have bb:ib (∀W,H w1.heap.size w1 W->(fun w'=>w'.cell? ⟨w.heap.size,0,none⟩=some (Z J n.c.c0)/\w'.cell? ⟨w.heap.size,1,none⟩=some (Z J n.c.c1)/\w'.cell? ⟨w.heap.size,2,none⟩=some (Z J n.c.c2)/\w'.cell? ⟨w.heap.size,3,none⟩=some (Z J n.c.c3)/\w'.cell? ⟨w.heap.size,4,none⟩=some (I A' n.c.l.length a0)/\w'.cell? ⟨w.heap.size,5,none⟩=some (I C' n.e.length a2)/\w'.cell? ⟨w.heap.size,6,none⟩=some (Z J r.c.c0)/\w'.cell? ⟨w.heap.size,7,none⟩=some (Z J r.c.c1)/\w'.cell? ⟨w.heap.size,8,none⟩=some (Z J r.c.c2)/\w'.cell? ⟨w.heap.size,9,none⟩=some (Z J r.c.c3)/\w'.cell? ⟨w.heap.size,10,none⟩=some (I B' r.c.l.length a1)/\w'.cell? ⟨w.heap.size,11,none⟩=some (I D' r.e.length a3)/\w'.cell? ⟨N,O+1,none⟩=some (Z J s.c.c0)/\w'.cell? ⟨N,O+2,none⟩=some (Z J s.c.c1)/\w'.cell? ⟨N,O+3,none⟩=some (Z J s.c.c2)/\w'.cell? ⟨N,O+4,none⟩=some (Z J s.c.c3)/\w'.cell? ⟨N,O+5,none⟩=some (I A s.c.l.length ca)/\w'.cell? ⟨N,O+6,none⟩=some (I C s.e.length cc)/\w'.cell? ⟨N,O+7,none⟩=some (Z J t.c.c0)/\w'.cell? ⟨N,O+8,none⟩=some (Z J t.c.c1)/\w'.cell? ⟨N,O+9,none⟩=some (Z J t.c.c2)/\w'.cell? ⟨N,O+10,none⟩=some (Z J t.c.c3)/\w'.cell? ⟨N,O+11,none⟩=some (I B t.c.l.length cb)/\w'.cell? ⟨N,O+12,none⟩=some (I D t.e.length cd)) W):=fun W u=>⟨(an.out.below u).cell (j:=0) rfl,(an.out.below u).cell (j:=1) rfl,(an.out.below u).cell (j:=2) rfl,(an.out.below u).cell (j:=3) rfl,(an.out.below u).cell (j:=4) rfl,(an.out.below u).cell (j:=5) rfl,(an.out.below u).cell (j:=6) rfl,(an.out.below u).cell (j:=7) rfl,(an.out.below u).cell (j:=8) rfl,(an.out.below u).cell (j:=9) rfl,(an.out.below u).cell (j:=10) rfl,(an.out.below u).cell (j:=11) rfl,(u.cell (p:=⟨N,O+1,none⟩) f.out).trans g.out.1.k0,(u.cell (p:=⟨N,O+2,none⟩) f.out).trans g.out.1.k1,(u.cell (p:=⟨N,O+3,none⟩) f.out).trans g.out.1.k2,(u.cell (p:=⟨N,O+4,none⟩) f.out).trans g.out.1.k3,(u.cell (p:=⟨N,O+5,none⟩) f.out).trans g.out.1.k4,(u.cell (p:=⟨N,O+6,none⟩) f.out).trans g.out.1.k5,(u.cell (p:=⟨N,O+7,none⟩) f.out).trans g.out.2.k0,(u.cell (p:=⟨N,O+8,none⟩) f.out).trans g.out.2.k1,(u.cell (p:=⟨N,O+9,none⟩) f.out).trans g.out.2.k2,(u.cell (p:=⟨N,O+10,none⟩) f.out).trans g.out.2.k3,(u.cell (p:=⟨N,O+11,none⟩) f.out).trans g.out.2.k4,(u.cell (p:=⟨N,O+12,none⟩) f.out).trans g.out.2.k5⟩
  refine wp_region_noPanic ?_
  refine wp_region_held_drew (S:=(fun w'=>w'.cell? ⟨w.heap.size,0,none⟩=some (Z J n.c.c0)/\w'.cell? ⟨w.heap.size,1,none⟩=some (Z J n.c.c1)/\w'.cell? ⟨w.heap.size,2,none⟩=some (Z J n.c.c2)/\w'.cell? ⟨w.heap.size,3,none⟩=some (Z J n.c.c3)/\w'.cell? ⟨w.heap.size,4,none⟩=some (I A' n.c.l.length a0)/\w'.cell? ⟨w.heap.size,5,none⟩=some (I C' n.e.length a2)/\w'.cell? ⟨w.heap.size,6,none⟩=some (Z J r.c.c0)/\w'.cell? ⟨w.heap.size,7,none⟩=some (Z J r.c.c1)/\w'.cell? ⟨w.heap.size,8,none⟩=some (Z J r.c.c2)/\w'.cell? ⟨w.heap.size,9,none⟩=some (Z J r.c.c3)/\w'.cell? ⟨w.heap.size,10,none⟩=some (I B' r.c.l.length a1)/\w'.cell? ⟨w.heap.size,11,none⟩=some (I D' r.e.length a3)/\w'.cell? ⟨N,O+1,none⟩=some (Z J s.c.c0)/\w'.cell? ⟨N,O+2,none⟩=some (Z J s.c.c1)/\w'.cell? ⟨N,O+3,none⟩=some (Z J s.c.c2)/\w'.cell? ⟨N,O+4,none⟩=some (Z J s.c.c3)/\w'.cell? ⟨N,O+5,none⟩=some (I A s.c.l.length ca)/\w'.cell? ⟨N,O+6,none⟩=some (I C s.e.length cc)/\w'.cell? ⟨N,O+7,none⟩=some (Z J t.c.c0)/\w'.cell? ⟨N,O+8,none⟩=some (Z J t.c.c1)/\w'.cell? ⟨N,O+9,none⟩=some (Z J t.c.c2)/\w'.cell? ⟨N,O+10,none⟩=some (Z J t.c.c3)/\w'.cell? ⟨N,O+11,none⟩=some (I B t.c.l.length cb)/\w'.cell? ⟨N,O+12,none⟩=some (I D t.e.length cd))) (by kernel_rfl) (bb.out _ ba.out) (fun hHeld=> ?_)
  show wpAnyH _ _ _ _ _ 10 _ _ _
  repeat' first
   | with_reducible exact AllReadyH.nil
   | (
    (with_reducible refine isW ?_);refine wpAnyH_done (by decide +kernel) ?_ _
    refine NoPanic.normal ?_
    go_wp2_with fail
    go_meet
    case rel=>exact ⟨_,rfl,(by first|exact yH ce.out cf.out (by have h1:=R.out.1.size;first|exact h1|(simp;omega)) ao.out.1 ao.out.2.1 ao.out.2.2|exact pn a5.out ce.out cf.out (by have h1:=bd.out.lt;exact h1) a4.out ao.out.1 ao.out.2.1 ao.out.2.2|exact pn a5.out ce.out cf.out (by simp) a4.out ao.out.1 ao.out.2.1 ao.out.2.2)⟩)
   | (
    (with_reducible refine isW ?_);first
     | refine tkk 0 [2,3,4,5] (by assumption) (v:= ?_) (by simp only[zA,z0',zS];rfl) (by decide +kernel) ?_ ?_
    rotate_left
    ·(refine oL ⟨by rfl,?_⟩;intro w bG;(try dsimp only at bG);go_simp<;>with_reducible rfl)
    try simp only[Act.put,yA,aB,yS]
    repeat (refine tk (v:= ?_) (by simp only[zA,z0',zS];rfl) (by kernel_rfl) ?_ ?_;rotate_left;· (refine oL ⟨by rfl,?_⟩;intro w bG;(try dsimp only at bG);go_simp<;>with_reducible rfl);try simp only[Act.put,yA,aB,yS])
    refine tk0 ?_)
   | ((with_reducible refine isW ?_);first
     | refine wpAnyH_ready (rs:=[1,8]) (by decide +kernel) (by simp) ?_
     | refine wpAnyH_ready (rs:=[6,8]) (by decide +kernel) (by simp) ?_
     | refine wpAnyH_ready (rs:=[7,8]) (by decide +kernel) (by simp) ?_
     | refine wpAnyH_ready (rs:=[8]) (by decide +kernel) (by simp) ?_
     | refine wpAnyH_ready (rs:=[9]) (by decide +kernel) (by simp) ?_
     | refine wpAnyH_ready (rs:=[7]) (by decide +kernel) (by simp) ?_
     | refine wpAnyH_ready (rs:=[6]) (by decide +kernel) (by simp) ?_
     | refine wpAnyH_ready (rs:=[1]) (by decide +kernel) (by simp) ?_)
   | ((with_reducible refine isR ?_);refine rdc (by simp only[zA,z0',zS];rfl) ?_ fun en hK=> ?_)
   | (
    go_simp
    first
     | ((go_at_call 136;(with_reducible refine cM (bs.out _ (by first|exact ba.out|exact be.out)) ?_);rintro e w2 ⟨L,M,X,Y,k,m,rfl,f1,f2,f3,f4,f5⟩;have F:ib (H w1.heap.size w1 w2/\Lv w2 X k L/\Lv w2 Y m M/\L.map Itm.z=ofR n/\M.map Itm.z=ofR r):=⟨(by first|exact ba.out.trans (f5.mono ba.out.size)|exact be.out.trans (f5.mono be.out.size)),f3.lv,f4.lv,f1,f2⟩;(first|(have c8:ib (Cls w2 w1.heap.size [I none 0 0,I none 0 0]):=((Cls.new w1 #[I none 0 0,I none 0 0] 63).gr (gR _).drew).below f5)|skip);clear f1 f2 f3 f4 f5);first|(go_wp2_with fail)|skip)
     | ((go_at_call 136;(with_reducible refine cM (bt.out _ (by first|exact F.out.1|exact F.out.1.alloc F.out.1.size _)) ?_);rintro e w3 ⟨L',M',X',Y',k',m',rfl,f1,f2,f3,f4,f5⟩;have a7:H w2.heap.size w2 w3:=(by first|exact f5|exact ((gR w2).alloc _).below.trans (f5.mono (by simp)));have R:ib (H w1.heap.size w1 w3/\Lv w3 X k L/\Lv w3 Y m M/\Lv w3 X' k' L'/\Lv w3 Y' m' M'/\L'.map Itm.z=ofR s/\M'.map Itm.z=ofR t):=⟨F.out.1.trans (a7.mono F.out.1.size),F.out.2.1.below a7,F.out.2.2.1.below a7,f3.lv,f4.lv,f1,f2⟩;(first|(have bd:ib (Cls w3 w1.heap.size [I none 0 0,I none 0 0]):=c8.out.below a7)|(have bd:ib (Cls w3 w2.heap.size [I none 0 0,I none 0 0]):=(Cls.new w2 #[I none 0 0,I none 0 0] 63).below f5)|skip);clear f1 f2 f3 f4 f5 a7;have c9:ib (∀W,H w3.heap.size w3 W->kb Tryz.prog 165 #[ka #[I X L.length k,I Y M.length m],ka #[I X' L'.length k',I Y' M'.length m']] W fun e w'=>∃(D E:List Itm) (X Y:Option o) (k m:Nat),e= ix (ka #[I X D.length k,I Y E.length m])/\D.map Itm.z=bf (ofR n) (ofR s)/\E.map Itm.z=bf (ofR r) (ofR t)/\LvP (fun b=>W.heap.size<=b/\b<w'.heap.size) w' X k D/\LvP (fun b=>W.heap.size<=b/\b<w'.heap.size) w' Y m E/\H W.heap.size W w'):=(fun W u=>by (have:=mT L M L' M' X Y X' Y' k m k' m' W (R.out.2.1.below u) (R.out.2.2.1.below u) (R.out.2.2.2.1.below u) (R.out.2.2.2.2.1.below u) (by rw[F.out.2.2.2.1];exact a6.out.2.2.1) (by rw[F.out.2.2.2.2];exact a6.out.2.2.2) (by rw[R.out.2.2.2.2.2.1];exact a6.out.1) (by rw[R.out.2.2.2.2.2.2];exact a6.out.2.1));rwa [F.out.2.2.2.1,F.out.2.2.2.2,R.out.2.2.2.2.2.1,R.out.2.2.2.2.2.2] at this));first|(go_wp2_with fail)|skip)
     | ((go_at_call 165;(with_reducible refine cM (c9.out _ (by first|exact bR _ _|exact ((gR w3).alloc _).below)) ?_);rintro e w4 ⟨D,E,X2,Y2,k2,m2,rfl,f1,f2,f3,f4,f5⟩;have a9:H w3.heap.size w3 w4:=(by first|exact f5|exact ((gR w3).alloc _).below.trans (f5.mono (by simp)));have ao:ib (H w1.heap.size w1 w4/\D.map Itm.z=bf (ofR n) (ofR s)/\E.map Itm.z=bf (ofR r) (ofR t)):=⟨R.out.1.trans (a9.mono R.out.1.size),f1,f2⟩;have ce:ib _:=f3;have cf:ib _:=f4;(first|(have a5:ib (Cls w4 w1.heap.size [I none 0 0,I none 0 0]):=bd.out.below a9;have a4:ib (w1.heap.size<=w1.heap.size):=nR _)|(have a5:ib (Cls w4 w2.heap.size [I none 0 0,I none 0 0]):=bd.out.below a9;have a4:ib (w1.heap.size<=w2.heap.size):=F.out.1.size)|(have a5:ib (Cls w4 w3.heap.size [I none 0 0,I none 0 0]):=(Cls.new w3 #[I none 0 0,I none 0 0] 63).below f5;have a4:ib (w1.heap.size<=w3.heap.size):=R.out.1.size)|skip);clear f1 f2 f3 f4 f5 a9;(first|(have q0:=a5.out.cell (j:=0) rfl;have q1:=a5.out.cell (j:=1) rfl;have z0:=a5.out.fz 0;have z1:=a5.out.fz 1)|skip));first|(go_wp2_with fail)|skip)
     | skip
    refine hK.out _ _ ?_ (fun hHeld=> ?_)
    ·(try dsimp only);exact bb.out _ (by first|exact ba.out|exact be.out|exact ao.out.1|exact ao.out.1.alloc ao.out.1.size _|exact (ao.out.1.setCell a4.out _).setCell a4.out _|exact R.out.1|exact R.out.1.alloc R.out.1.size _|exact F.out.1|exact F.out.1.alloc F.out.1.size _)
    clear hK en
    try simp only[Act.put,yA,aB,yS])
 case rest =>
  obtain ⟨Bm,rfl,hR⟩:=hcut
  obtain ⟨L,M,X,Y,k,m,cp,e1,e2,l1,l2,cA,ah⟩:=hR.out
  clear hR bs bt
  have ap:=hH.out.2.2.2.2.2.1
  have bN:H w.heap.size w wc:=ap.below.trans (ah.mono ap.size)
  have ad:Nd wc N O P id s t qs:=hH.out.1.below bN
  have a8:N<w.heap.size:=hH.out.1.blk.lt
  obtain ⟨b0,b1,b2,b3,b4,b5,b6,b7,b8,b9,c5,c6⟩:=iv (an.out.below ah)
  have n1:=(ah.cell (p:=⟨N,O+1,none⟩) f.out).trans g.out.1.k0
  have n2:=(ah.cell (p:=⟨N,O+2,none⟩) f.out).trans g.out.1.k1
  have n3:=(ah.cell (p:=⟨N,O+3,none⟩) f.out).trans g.out.1.k2
  have n4:=(ah.cell (p:=⟨N,O+4,none⟩) f.out).trans g.out.1.k3
  have n5:=(ah.cell (p:=⟨N,O+5,none⟩) f.out).trans g.out.1.k4
  have n6:=(ah.cell (p:=⟨N,O+6,none⟩) f.out).trans g.out.1.k5
  have n7:=(ah.cell (p:=⟨N,O+7,none⟩) f.out).trans g.out.2.k0
  have n8:=(ah.cell (p:=⟨N,O+8,none⟩) f.out).trans g.out.2.k1
  have n9:=(ah.cell (p:=⟨N,O+9,none⟩) f.out).trans g.out.2.k2
  have dG:=(ah.cell (p:=⟨N,O+10,none⟩) f.out).trans g.out.2.k3
  have d0:=(ah.cell (p:=⟨N,O+11,none⟩) f.out).trans g.out.2.k4
  have d4:=(ah.cell (p:=⟨N,O+12,none⟩) f.out).trans g.out.2.k5
  have z1:=ad.blk.fz (O+1)
  have z2:=ad.blk.fz (O+2)
  have z3:=ad.blk.fz (O+3)
  have z4:=ad.blk.fz (O+4)
  have z5:=ad.blk.fz (O+5)
  have z6:=ad.blk.fz (O+6)
  have z7:=ad.blk.fz (O+7)
  have z8:=ad.blk.fz (O+8)
  have z9:=ad.blk.fz (O+9)
  have d5:=ad.blk.fz (O+10)
  have d6:=ad.blk.fz (O+11)
  have ea:=ad.blk.fz (O+12)
  have c7:=ad.cnt
  have hR:ib (Nd wc N O P id s t qs/\H w.heap.size w wc/\Cls wc Bm [I X L.length k,I Y M.length m]/\L.map Itm.z=bf (ofR n) (ofR s)/\M.map Itm.z=bf (ofR r) (ofR t)/\LvP (fun b=>w1.heap.size<=b/\b<wc.heap.size) wc X k L/\LvP (fun b=>w1.heap.size<=b/\b<wc.heap.size) wc Y m M/\w1.heap.size<=Bm/\N<w.heap.size):=⟨ad,bN,cp,e1,e2,l1,l2,cA,a8⟩
  clear cp e1 e2 l1 l2 cA ah ap bN ad a8
  go_wp2
  obtain ⟨w5,cn⟩:∃W,((((((((((((wc.setCell ⟨N,O+1,none⟩ (Z J n.c.c0)).setCell ⟨N,O+2,none⟩ (Z J n.c.c1)).setCell ⟨N,O+3,none⟩ (Z J n.c.c2)).setCell ⟨N,O+4,none⟩ (Z J n.c.c3)).setCell ⟨N,O+5,none⟩ (I A' n.c.l.length a0)).setCell ⟨N,O+6,none⟩ (I C' n.e.length a2)).setCell ⟨N,O+7,none⟩ (Z J r.c.c0)).setCell ⟨N,O+8,none⟩ (Z J r.c.c1)).setCell ⟨N,O+9,none⟩ (Z J r.c.c2)).setCell ⟨N,O+10,none⟩ (Z J r.c.c3)).setCell ⟨N,O+11,none⟩ (I B' r.c.l.length a1)).setCell ⟨N,O+12,none⟩ (I D' r.e.length a3))=W:=⟨_,rfl⟩
  rw[cn]
  have h5:ib (Nm w5 N O (af P m0 w5.heap.size) id n r qs 0 (ofR s) (ofR t)/\Wr N (O+1) (O+37) w w5/\Cls w5 Bm [I X L.length k,I Y M.length m]/\LvP (fun b=>w1.heap.size<=b/\b<wc.heap.size) w5 X k L/\LvP (fun b=>w1.heap.size<=b/\b<wc.heap.size) w5 Y m M):=by
   have bC:fE N wc (O+1) [Z J n.c.c0,Z J n.c.c1,Z J n.c.c2,Z J n.c.c3,I A' n.c.l.length a0,I C' n.e.length a2,Z J r.c.c0,Z J r.c.c1,Z J r.c.c2,Z J r.c.c3,I B' r.c.l.length a1,I D' r.e.length a3]=w5:=cn
   have ej:w5.heap.size=wc.heap.size:=by rw[<-bC];exact fY _ _ _ _
   have cj:=hR.out.2.1.size
   have bh:=hH.out.2.2.2.1
   have bl:=hH.out.2.2.2.2.1
   have ds:=hH.out.2.2.2.2.2.2
   have a8:=hR.out.2.2.2.2.2.2.2.2
   have dk:¬af P m0 w5.heap.size N:=da hH.out.1.out bh
   have hL:=Nd.laid (P':=af P m0 w5.heap.size) hR.out.1 (fun b hb=>af.old b hb) dk (fun b hb=>by
    rcases hb with hb|hb
    ·have:=hR.out.1.up b hb;omega
    ·have:=hb.2;omega) ((hH.out.2.1.below hR.out.2.1).mono (af.more (nR _) (by omega))) ((hH.out.2.2.1.below hR.out.2.1).mono (af.more (nR _) (by omega))) bC
   have hQ:¬(w1.heap.size<=N/\N<wc.heap.size):=fun h=>by omega
   exact ⟨hL.1,(Wr.of hR.out.2.1 a8).trans (hL.2.mono (by omega) (by omega)),hR.out.2.2.1.keep (hL.2.oth Bm hR.out.2.2.1.lt (by have:=hR.out.2.2.2.2.2.2.2.1;omega)),hR.out.2.2.2.2.2.1.agr (hL.2.agr hQ),hR.out.2.2.2.2.2.2.1.agr (hL.2.agr hQ)⟩
  clear cn b0 b1 b2 b3 b4 b5 b6 b7 b8 b9 c5 c6 n1 n2 n3 n4 n5 n6 n7 n8 n9 dG d0 d4 z1 z2 z3 z4 z5 z6 z7 z8 z9 d5 d6 ea c7
  go_loopw [22] (fun i wr=>∃j:Nat,j<=qs.length/\i= Z J j/\ib (Nm wr N O (af P m0 wr.heap.size) id n r qs j (ofR s) (ofR t)/\Wr N (O+1) (O+37) w wr/\Cls wr Bm [I X L.length k,I Y M.length m]/\LvP (fun b=>w1.heap.size<=b/\b<wc.heap.size) wr X k L/\LvP (fun b=>w1.heap.size<=b/\b<wc.heap.size) wr Y m M)) (fun i _=>qs.length-(intOf i).toNat)
  case atStart=>exact ⟨0,nZ _,rfl,h5⟩
  case round =>
   obtain ⟨j,hj,rfl,hI⟩:=hrel
   by_cases cB:j<qs.length
   ·have dp:(j:Int)<(qs.length:Int):=by omega
    have c4:=hI.out.1.le
    have eg:(j:Int)<4:=by omega
    have q0:=hI.out.2.2.1.cell (j:=0) rfl
    have q1:=hI.out.2.2.1.cell (j:=1) rfl
    obtain ⟨vk,vl,cm,tk,tl,_⟩:=hI.out.1.vs j cB
    rw[if_neg (Nat.lt_irrefl _),if_neg (Nat.lt_irrefl _)] at cm
    have a8:N<w.heap.size:=hR.out.2.2.2.2.2.2.2.2
    have cr:ib (∀W,Gr wr W->kb Tryz.prog 135 #[kf (some ⟨N,O+13+j*6,none⟩),ka #[I X L.length k,I Y M.length m]] W fun e w'=>e= ix (kc #[])/\VwN w' N (O+13+j*6) (af (af P m0 wr.heap.size) W.heap.size w'.heap.size) qs[j] (ofR n) (ofR r)/\Wr N (O+13+j*6) (O+13+j*6+6) W w'):=fun W hg=>by obtain ⟨T0,n0,dl,_⟩:=hI.out.1.blk;exact tf (dl.below hg.below) hI.out.1.out (fun h=>by have:=h.1;have:=hH.out.2.2.2.2.2.1.size;omega) (cm.below hg.below) tk tl a6.out.1 a6.out.2.1 a6.out.2.2.1 a6.out.2.2.2 (hI.out.2.2.2.1.below hg.below) (hI.out.2.2.2.2.below hg.below) hR.out.2.2.2.1 hR.out.2.2.2.2.1
    clear cm tk tl a8 c4
    go_wp2
    go_region_with (go_at_call 135;refine cM (cr.out _ (gR wr).drew) ?_;rintro e w6 ⟨rfl,f1,f2⟩;have hF:ib (VwN w6 N (O+13+j*6) (af (af P m0 wr.heap.size) wr.drew.heap.size w6.heap.size) qs[j] (ofR n) (ofR r)/\Wr N (O+13+j*6) (O+13+j*6+6) wr w6):=⟨f1,(Wr.of (gR wr).drew.below hI.out.1.blk.lt).trans f2⟩;clear f1 f2)
    have cv:ib (Nm w6 N O (af P m0 w6.heap.size) id n r qs (j+1) (ofR s) (ofR t)/\Wr N (O+1) (O+37) w w6/\Cls w6 Bm [I X L.length k,I Y M.length m]/\LvP (fun b=>w1.heap.size<=b/\b<wc.heap.size) w6 X k L/\LvP (fun b=>w1.heap.size<=b/\b<wc.heap.size) w6 Y m M):=by
     have u:=hF.out.2
     have cj:=u.size
     have em:=hI.out.2.1.size
     have bl:=hH.out.2.2.2.2.1
     have a8:=hR.out.2.2.2.2.2.2.2.2
     have ds:=hH.out.2.2.2.2.2.1.size
     have c4:=hI.out.1.le
     have hQ:¬(w1.heap.size<=N/\N<wc.heap.size):=fun h=>by omega
     refine ⟨hI.out.1.turned cB (af.more (nR _) cj) (da hH.out.1.out hH.out.2.2.2.1) (fun b hb=> ?_) (hF.out.1.mono fun b hb=>af.two (show m0<=wr.heap.size by omega) cj b hb) u,hI.out.2.1.trans (u.mono (by omega) (by omega)),hI.out.2.2.1.keep (u.oth Bm hI.out.2.2.1.lt (by have:=hR.out.2.2.2.2.2.2.2.1;omega)),hI.out.2.2.2.1.agr (u.agr hQ),hI.out.2.2.2.2.agr (u.agr hQ)⟩
     rcases hb with hb|hb
     ·have:=hH.out.1.up b hb;omega
     ·exact hb.2
    clear hF hI cr q0 q1
    go_wp2
    go_roundw
    case rel=>exact ⟨j+1,by omega,by go_num,cv⟩
    case measure=>simp[intOf];omega
   ·have dp:¬(j:Int)<(qs.length:Int):=by omega
    go_wp2
    go_end0
    exact ⟨rfl,hI.out.1.done (by omega),hI.out.2.1⟩

def edE (t:Tab) (id k key col v:Int):Int:=if k=1 then dL t id key col v else if k=2 then ff t key else 1
def edT (t:Tab) (id k key col v:Int):Tab:=if k=1 then dc t id key col v else if k=2 then ⟨cO t key,[]⟩ else ⟨⟨0,0,0,0,[]⟩,[]⟩
structure TbW (n:Nat) (w:ic) (t:Tab) (A:Option o) (ca:Nat) (D:Option o) (cd:Nat):Prop where
 row:Row w A t.c.l
 cel:bF w D t.e
 nr:A=none->ca=0
 nc:D=none->cd=0
 newr:∀a,A=some a->n<=a.block
 newc:∀a,D=some a->n<=a.block
theorem TbW.below {n:Nat} {w w':ic} {t:Tab} {A:Option o} {ca:Nat} {D:Option o} {f:Nat} (h:TbW n w t A ca D f) (k:H w.heap.size w w'):TbW n w' t A ca D f:=⟨h.row.below k,h.cel.below k,h.nr,h.nc,h.newr,h.newc⟩
theorem TbW.mono {n m:Nat} {w:ic} {t:Tab} {A:Option o} {ca:Nat} {D:Option o} {g:Nat} (h:TbW n w t A ca D g) (k:m<=n):TbW m w t A ca D g:=⟨h.row,h.cel,h.nr,h.nc,fun a f=>nT k (h.newr a f),fun a f=>nT k (h.newc a f)⟩
theorem TbW.agr {n:Nat} {w w':ic} {t:Tab} {A:Option o} {ca:Nat} {D:Option o} {g:Nat} (h:TbW n w t A ca D g) (k:Agr (fun b=>n<=b) w w'):TbW n w' t A ca D g:=⟨h.row.agr (fun a f _=>h.newr a f) k,h.cel.agr (fun a f _=>h.newc a f) k,h.nr,h.nc,h.newr,h.newc⟩
theorem TbW.p {n:Nat} {w:ic} {t:Tab} {A:Option o} {ca:Nat} {D:Option o} {j:Nat} (h:TbW n w t A ca D j) (e:aw t=0):TbP (fun b=>n<=b/\b<w.heap.size) w t A ca D j :=
 ⟨h.row,h.cel,fun a f g=>⟨h.newr a f,h.row.lt a f g⟩,fun a f g=>⟨h.newc a f,h.cel.lt a f g⟩,h.nr,h.nc,e⟩
theorem kR {P:Nat->Prop} {w:ic} {B:Nat} (h:¬P B) (u0 u1 u2 u3 u4 u5:Value):Agr P w ((((((w.setCell ⟨B,0,none⟩ u0).setCell ⟨B,1,none⟩ u1).setCell ⟨B,2,none⟩ u2).setCell ⟨B,3,none⟩ u3).setCell ⟨B,4,none⟩ u4).setCell ⟨B,5,none⟩ u5) :=
 (((((aS _ h).trans (aS _ h)).trans (aS _ h)).trans (aS _ h)).trans (aS _ h)).trans (aS _ h)

theorem mU (t:Tab) (A:Option o) (ca:Nat) (D:Option o) (cd:Nat) (id k x2 j r L:Int) (w:ic) (hl:t.c.l.length<=maxLen) (a9:t.e.length<=maxLen) (hr:Row w A t.c.l) (hd:bF w D t.e) :
  kb Tryz.prog 131 #[ka (T6 t A ca D cd).toArray,Z J id,ka #[Z J k,Z J x2,Z J j,Z J r,Z J L]] w fun e w'=>∃(u:Tab) (C:Option o) (cp:Nat) (F:Option o) (cf:Nat),e= ix (kc #[ka (T6 u C cp F cf).toArray,Z J (edE t id k j r L)])/\u=edT t id k j r L/\TbW w.heap.size w' u C cp F cf/\H w.heap.size w w':=by
 obtain ⟨w1,g⟩:∃W,((w.alloc (ia #[Z J t.c.c0,Z J t.c.c1,Z J t.c.c2,Z J t.c.c3,I A t.c.l.length ca,I D t.e.length cd] 56)).alloc (ia #[Z J k,Z J x2,Z J j,Z J r,Z J L] 95)).alloc (ia #[Z J 0,Z J 0,Z J 0,Z J 0,I none 0 0,I none 0 0] 56)=W:=⟨_,rfl⟩
 have an:Gr w w1:=by rw[<-g];exact (((gR w).alloc _).alloc _).alloc _
 have ah:w1.heap.size=w.heap.size+1+1+1:=by rw[<-g];simp
 have a6:Cls w1 w.heap.size (T6 t A ca D cd):=by rw[<-g];exact (Cls.new w _ _).gr (((gR _).alloc _).alloc _)
 have a7:Cls w1 (w.heap.size+1) [Z J k,Z J x2,Z J j,Z J r,Z J L]:=by
  rw[<-g]
  have:=(Cls.new (w.alloc (ia #[Z J t.c.c0,Z J t.c.c1,Z J t.c.c2,Z J t.c.c3,I A t.c.l.length ca,I D t.e.length cd] 56)) #[Z J k,Z J x2,Z J j,Z J r,Z J L] 95).gr ((gR _).alloc (ia #[Z J 0,Z J 0,Z J 0,Z J 0,I none 0 0,I none 0 0] 56))
  rwa [show (w.alloc (ia #[Z J t.c.c0,Z J t.c.c1,Z J t.c.c2,Z J t.c.c3,I A t.c.l.length ca,I D t.e.length cd] 56)).heap.size=w.heap.size+1 by simp] at this
 have a8:Cls w1 (w.heap.size+1+1) Z6:=by
  rw[<-g]
  have:=Cls.new ((w.alloc (ia #[Z J t.c.c0,Z J t.c.c1,Z J t.c.c2,Z J t.c.c3,I A t.c.l.length ca,I D t.e.length cd] 56)).alloc (ia #[Z J k,Z J x2,Z J j,Z J r,Z J L] 95)) #[Z J 0,Z J 0,Z J 0,Z J 0,I none 0 0,I none 0 0] 56
  rwa [show ((w.alloc (ia #[Z J t.c.c0,Z J t.c.c1,Z J t.c.c2,Z J t.c.c3,I A t.c.l.length ca,I D t.e.length cd] 56)).alloc (ia #[Z J k,Z J x2,Z J j,Z J r,Z J L] 95)).heap.size=w.heap.size+1+1 by simp] at this
 obtain ⟨a0,a1,a2,a3,a4,a5⟩:=iJ a6
 obtain ⟨b0,b1,b2,b3,b4⟩:=yK a7
 have R:=ja3 an ah a8
 have hP:=ja4 (hr.gr an) (hd.gr an) hl a9
 clear an ah a6 a7 a8 hr hd hl a9
 go_enter Tryz.func131,Tryz.ntmps131
 by_cases h1:k=1
 ·subst h1
  have n:=BU t A ca D cd id j r L w1 hP.out.2.2.1 hP.out.2.2.2 hP.out.1 hP.out.2.1
  obtain ⟨u,hu⟩:∃u,dc t id j r L=u:=⟨_,rfl⟩
  obtain ⟨E,hE⟩:∃E,dL t id j r L=E:=⟨_,rfl⟩
  rw[hu,hE] at n
  have hC:ib _:=n
  have ad:=ja2 hu hE
  clear n hu hE
  go_wp2_with fail
  refine ja0 hC ?_
  rintro e w2 ⟨C,cp,F,cf,rfl,f1,f2,f3,f4,f5,f6,f7⟩
  have hF:ib (TbW w1.heap.size w2 u C cp F cf/\H w1.heap.size w1 w2):=⟨⟨f1,f2,f3,f4,f5,f6⟩,f7⟩
  have f:=ja1 (R.out.2.2.below f7)
  clear f1 f2 f3 f4 f5 f6 f7 hC
  obtain ⟨p0,p1,p2,p3,p4,p5⟩:=iJ f.out
  obtain ⟨z0,z1,z2,z3,z4,z5⟩:=rO f.out
  clear g
  go_wp2
  have ah:=R.out.2.1
  have ap:H w.heap.size w w2:=R.out.1.below.trans (hF.out.2.mono R.out.1.size)
  refine bodyPost_ret (v:= kc #[ka (T6 u C cp F cf).toArray,Z J E]) (by simp[results,Tryz.results131,go_sem,p0,p1,p2,p3,p4,p5]) rfl ⟨u,C,cp,F,cf,by unfold edE;rw[if_pos rfl,ad.out.2],by unfold edT;rw[if_pos rfl,ad.out.1],?_,ak ap (by omega) _ _ _ _ _ _⟩
  exact (hF.out.1.agr (kR (fun h=>by omega) _ _ _ _ _ _)).mono (by omega)
 ·by_cases h2:k=2
  ·subst h2
   have n:=Bi t A ca D cd j w1 hP.out.2.2.1 hP.out.2.2.2 hP.out.1 hP.out.2.1
   obtain ⟨u,hu⟩:∃u,cO t j=u:=⟨_,rfl⟩
   obtain ⟨E,hE⟩:∃E,ff t j=E:=⟨_,rfl⟩
   rw[hu,hE] at n
   have hC:ib _:=n
   have ad:=ja2 hu hE
   clear n hu hE h1
   go_wp2_with fail
   refine ja0 hC ?_
   rintro e w2 ⟨C,cp,rfl,f1,f2,f3,f4⟩
   have hF:ib (TbW w1.heap.size w2 ⟨u,[]⟩ C cp none 0/\H w1.heap.size w1 w2):=⟨⟨f1,oL rfl,f2,fun _=>rfl,f3,(fun a h=>by cases h)⟩,f4⟩
   have f:=ja1 (R.out.2.2.below f4)
   clear f1 f2 f3 f4 hC
   obtain ⟨p0,p1,p2,p3,p4,p5⟩:=iJ f.out
   obtain ⟨z0,z1,z2,z3,z4,z5⟩:=rO f.out
   clear g
   go_wp2
   have ah:=R.out.2.1
   have ap:H w.heap.size w w2:=R.out.1.below.trans (hF.out.2.mono R.out.1.size)
   refine bodyPost_ret (v:= kc #[ka #[Z J u.c0,Z J u.c1,Z J u.c2,Z J u.c3,I C u.l.length cp,I none 0 0],Z J E]) (by simp[results,Tryz.results131,go_sem,p0,p1,p2,p3,p4,p5]) rfl ⟨⟨u,[]⟩,C,cp,none,0,by unfold edE;rw[if_neg (by decide),if_pos rfl,ad.out.2];rfl,by unfold edT;rw[if_neg (by decide),if_pos rfl,ad.out.1],?_,ak ap (by omega) _ _ _ _ _ _⟩
   exact (hF.out.1.agr (kR (fun h=>by omega) _ _ _ _ _ _)).mono (by omega)
  ·have ba:(k==1)=false:=by simpa using h1
   have bb:(k==2)=false:=by simpa using h2
   have f:=ja1 R.out.2.2
   have ao:ib (edE t id k j r L=1/\edT t id k j r L=⟨⟨0,0,0,0,[]⟩,[]⟩):=⟨by unfold edE;rw[if_neg h1,if_neg h2],by unfold edT;rw[if_neg h1,if_neg h2]⟩
   obtain ⟨p0,p1,p2,p3,p4,p5⟩:=iJ f.out
   obtain ⟨z0,z1,z2,z3,z4,z5⟩:=rO f.out
   clear h1 h2
   go_wp2
   clear g
   have ah:=R.out.2.1
   refine bodyPost_ret (v:= kc #[ka #[Z J 0,Z J 0,Z J 0,Z J 0,I none 0 0,I none 0 0],Z J 1]) (by simp[results,Tryz.results131,go_sem,p0,p1,p2,p3,p4,p5]) rfl ⟨⟨⟨0,0,0,0,[]⟩,[]⟩,none,0,none,0,by rw[ao.out.1];rfl,ao.out.2.symm,⟨oL rfl,oL rfl,fun _=>rfl,fun _=>rfl,(fun a h=>by cases h),(fun a h=>by cases h)⟩,ak R.out.1.below (by omega) _ _ _ _ _ _⟩

def doE (t:Tab) (id k key col v:Int):Int:=if edE t id k key col v=0 then au t (edT t id k key col v) else edE t id k key col v
def doT (t:Tab) (id k key col v:Int):Tab:=if doE t id k key col v=0 then ag t (edT t id k key col v) else t
def ndE (s t:Tab) (id k x2 key col v:Int):Int:=if x2=0 then doE s id k key col v else if x2=1 then doE t id k key col v else 1
def ndS (s:Tab) (id k x2 key col v:Int):Tab:=if x2=0 then doT s id k key col v else s
def ndT (t:Tab) (id k x2 key col v:Int):Tab:=if x2=1 then doT t id k key col v else t
theorem vi (t:Tab) (id k key col v:Int):(edT t id k key col v).c.l.length<=maxLen/\(edT t id k key col v).e.length<=maxLen:=by
 unfold edT
 by_cases f:k=1
 ·rw[if_pos f];exact xP t id key col v
 ·rw[if_neg f]
  by_cases g:k=2
  ·rw[if_pos g];exact ⟨wH t key,nZ _⟩
  ·rw[if_neg g];exact ⟨nZ _,nZ _⟩
def DoR (w1 wx:ic) (m:Nat) (Bm:Nat) (r:Tab) (id k x3 x4 x5:Int):Prop:=∃(u:Tab) (E:Option o) (ce:Nat) (F:Option o) (cf:Nat),u=edT r id k x3 x4 x5/\Cls wx Bm (T6 u E ce F cf)/\TbW m wx u E ce F cf/\H w1.heap.size w1 wx/\w1.heap.size<=Bm
theorem rI {w1 f:ic} {r:Tab} {id k n C L:Int} {u:Tab} {E:Option o} {g:Nat} {F:Option o} {j:Nat} (hu:u=edT r id k n C L) (R:Cls f w1.heap.size Z6) (hT:TbW (w1.heap.size+1) f u E g F j) (hb:H w1.heap.size w1 f) :
  DoR w1 ((((((f.setCell ⟨w1.heap.size,0,none⟩ (Z J u.c.c0)).setCell ⟨w1.heap.size,1,none⟩ (Z J u.c.c1)).setCell ⟨w1.heap.size,2,none⟩ (Z J u.c.c2)).setCell ⟨w1.heap.size,3,none⟩ (Z J u.c.c3)).setCell ⟨w1.heap.size,4,none⟩ (I E u.c.l.length g)).setCell ⟨w1.heap.size,5,none⟩ (I F u.e.length j)) w1.heap.size w1.heap.size r id k n C L :=
 ⟨u,E,g,F,j,hu,(((((R.put 0 _).put 1 _).put 2 _).put 3 _).put 4 _).put 5 _,(hT.agr (kR (fun h=>by omega) _ _ _ _ _ _)).mono (by omega),ak hb (nR _) _ _ _ _ _ _,nR _⟩
theorem vg {w1 f:ic} {r:Tab} {id k n C L:Int} {u:Tab} {E:Option o} {g:Nat} {F:Option o} {h:Nat} {T:TypeId} (hu:u=edT r id k n C L) (R:TbW w1.heap.size f u E g F h) (j:H w1.heap.size w1 f) :
  DoR w1 (f.alloc (ia #[Z J u.c.c0,Z J u.c.c1,Z J u.c.c2,Z J u.c.c3,I E u.c.l.length g,I F u.e.length h] T)) w1.heap.size f.heap.size r id k n C L :=
 ⟨u,E,g,F,h,hu,Cls.new f _ T,R.below ((gR f).alloc _).below,j.alloc j.size _,j.size⟩

theorem xn {a b:Tab} (g:au a b=0) (d:Int×Int):ai (ag a b).c d=true↔ai a.c d=true\/ai b.c d=true:=by
 obtain ⟨_,_,_,h,_⟩:=bQ g
 have f:=et h
 rw[aP g]
 show ai (aK a.c b.c) d=true↔_
 rw[f.2.2.2.1]
 exact eS f.1 f.2.1 d
def upd (x:Nat->Tab) (i:Nat) (t:Tab):Nat->Tab:=fun j=>if j=i then t else x j
theorem cJ (x:Nat->Tab) (i:Nat) (t:Tab):upd x i t i=t:=if_pos rfl
theorem fh (x:Nat->Tab) {i j:Nat} (t:Tab) (h:j≠i):upd x i t j=x j:=if_neg h
structure Lane (U:List Cel) (x:Nat->Tab) (ps:List Tab):Prop where
 uni:Uni U
 sub:∀i,Sub U (x i)
 own:∀i:Nat,i<4->∀y∈U,y.1.1=(i:Int)->ai (x i).c y.1=true
 pk:∀p∈ps,Sub U p
section
variable {U:List Cel} {x:Nat->Tab} {ps:List Tab}
theorem Lane.take (h:Lane U x ps) (i:Nat) {p:Tab} (u:Sub U p):au (x i) p=0/\Lane U (upd x i (ag (x i) p)) ps:=by
 obtain ⟨g,k,n,_⟩:=Sub.merge h.uni (h.sub i) u
 refine ⟨g,h.uni,fun j=> ?_,fun j r y C e=> ?_,h.pk⟩
 ·by_cases e:j=i
  ·subst e
   rw[cJ]
   exact k
  ·rw[fh x _ e]
   exact h.sub j
 ·have f:=h.own j r y C e
  by_cases e:j=i
  ·subst e
   rw[cJ]
   exact (n _).2 (oL f)
  ·rw[fh x _ e]
   exact f
theorem Lane.send (h:Lane U x ps) {p:Tab} (f:Sub U p):Lane U x (ps++[p]) :=
 ⟨h.uni,h.sub,h.own,fun q g=>by
  rcases List.mem_append.1 g with k|k
  ·exact h.pk q k
  ·rw[List.mem_singleton.1 k];exact f⟩
theorem Sub.since {t:Tab} {c:Ctx} (h:Sub U t) (g:bE t c=0):Sub U (bU t c):=by
 have j:=h.ok
 have hs:woE t.c (ar (cD c) t.e)=0:=by
  unfold bE at g
  rw[j] at g
  by_cases u:aN c=0
  ·rw[u] at g;simpa using g
  ·rw[if_neg (by simp),if_pos u] at g;exact absurd g u
 have C:=dP j (cD c)
 obtain ⟨_,F,E⟩:=CD C.2 hs
 have L:bU t c=⟨woC t.c (ar (cD c) t.e),gC c t.e⟩:=by unfold bU;rw[if_pos g]
 rw[L]
 have f:∀y∈gC c t.e,y∈t.e/\cD c y=false:=fun y n=>by
  have:=List.mem_filter.1 n
  exact ⟨this.1,by simpa using this.2⟩
 refine ⟨?_,fun y n=>h.cel y (f y n).1,fun d C=>h.ctx d ((E d).1 C).1⟩
 refine kC F (nT (List.length_filter_le _ _) (aj j).2.1) (List.Pairwise.filter _ (eo j)) fun y n=> ?_
 obtain ⟨k,r⟩:=f y n
 refine ⟨(E _).2 ⟨bV j k,fun R=> ?_⟩,eO j k⟩
 rw[(gz j k).1 R] at r
 cases r
theorem Lane.edit (h:Lane U x ps) {i:Nat} (hi:i<4) (hl:U.length+1<=400) (k key col v:Int):∃F,Lane F (upd x i (doT (x i) i k key col v)) ps/\F.length<=U.length+1/\∀y∈U,y∈F:=by
 have same:doT (x i) i k key col v=x i->∃F,Lane F (upd x i (doT (x i) i k key col v)) ps/\F.length<=U.length+1/\∀y∈U,y∈F:=fun e=>by
  have hu:upd x i (doT (x i) i k key col v)=x:=by
   funext j
   by_cases n:j=i
   ·subst n;rw[cJ,e]
   ·rw[fh x _ n]
  rw[hu]
  exact ⟨U,h,by omega,fun y f=>f⟩
 by_cases R:doE (x i) i k key col v=0
 ·have hT:doT (x i) i k key col v=ag (x i) (edT (x i) i k key col v):=by unfold doT;rw[if_pos R]
  have r:edE (x i) i k key col v=0/\au (x i) (edT (x i) i k key col v)=0:=by
   unfold doE at R
   by_cases e:edE (x i) i k key col v=0
   ·rw[if_pos e] at R;exact ⟨e,R⟩
   ·rw[if_neg e] at R;exact absurd R e
  rw[hT]
  by_cases k1:k=1
  ·have e1:edE (x i) i k key col v=dL (x i) i key col v:=by unfold edE;rw[if_pos k1]
   have L:edT (x i) i k key col v=dc (x i) i key col v:=by unfold edT;rw[if_pos k1]
   rw[e1,L] at r
   rw[L]
   obtain ⟨N,_,hN,ad,u,g⟩:=BT r.1 r.2
   have C:∀y∈U,y.1≠N:=fun y f e=>by
    have:=h.own i hi y f (by rw[e];exact hN)
    rw[e,ad] at this
    cases this
   refine ⟨U++[(N,key,col,v)],⟨⟨?_,by simpa using hl⟩,fun j=> ?_,fun j hj y f e=> ?_,fun p hp=>(h.pk p hp).mono fun y f=>List.mem_append_left _ f⟩,by simp,fun y f=>List.mem_append_left _ f⟩
   ·rw[List.map_append,List.nodup_append]
    refine ⟨h.uni.nd,by simp,fun a ha b hb e=> ?_⟩
    obtain ⟨y,f,L⟩:=List.mem_map.1 ha
    have ah:b=N:=by simpa using hb
    exact C y f (L.trans (e.trans ah))
   ·by_cases n:j=i
    ·subst n
     rw[cJ]
     refine ⟨dv r.2,fun y f=> ?_,fun d hd=> ?_⟩
     ·rcases (u y).1 f with f|f
      ·exact List.mem_append_left _ ((h.sub j).cel y f.1)
      ·rw[f];exact List.mem_append_right _ (List.mem_singleton.2 rfl)
     ·rcases (g d).1 hd with hd|hd
      ·obtain ⟨y,f,e⟩:=(h.sub j).ctx d hd
       exact ⟨y,List.mem_append_left _ f,e⟩
      ·exact ⟨(N,key,col,v),List.mem_append_right _ (List.mem_singleton.2 rfl),hd.symm⟩
    ·rw[fh x _ n]
     exact (h.sub j).mono fun y f=>List.mem_append_left _ f
   ·rcases List.mem_append.1 f with f|f
    ·have E:=h.own j hj y f e
     by_cases n:j=i
     ·subst n
      rw[cJ]
      exact (g _).2 (oL E)
     ·rw[fh x _ n]
      exact E
    ·rw[List.mem_singleton.1 f] at e ⊢
     have n:j=i:=by
      have e':N.1=(j:Int):=e
      rw[hN] at e'
      omega
     subst n
     rw[cJ]
     exact (g _).2 (oR rfl)
  ·by_cases k2:k=2
   ·have e1:edE (x i) i k key col v=ff (x i) key:=by unfold edE;rw[if_neg k1,if_pos k2]
    have L:edT (x i) i k key col v=⟨cO (x i) key,[]⟩:=by unfold edT;rw[if_neg k1,if_pos k2]
    rw[e1,L] at r
    rw[L]
    obtain ⟨_,_,_,u⟩:=pw r.1
    have g:∀d,ai (ag (x i) ⟨cO (x i) key,[]⟩).c d=true↔ai (x i).c d=true:=fun d=>by
     rw[xn r.2]
     exact ⟨fun E=>E.elim id fun E=>Bj r.1 d E,oL⟩
    refine ⟨U,⟨h.uni,fun j=> ?_,fun j hj y f e=> ?_,h.pk⟩,by omega,fun y f=>f⟩
    ·by_cases n:j=i
     ·subst n
      rw[cJ]
      exact ⟨dv r.2,fun y f=>(h.sub j).cel y ((u y).1 f).1,fun d hd=>(h.sub j).ctx d ((g d).1 hd)⟩
     ·rw[fh x _ n]
      exact h.sub j
    ·have E:=h.own j hj y f e
     by_cases n:j=i
     ·subst n
      rw[cJ]
      exact (g _).2 E
     ·rw[fh x _ n]
      exact E
   ·have e1:edE (x i) i k key col v=1:=by unfold edE;rw[if_neg k1,if_neg k2]
    rw[e1] at r
    cases r.1
 ·exact same (by unfold doT;rw[if_neg R])
end
def jO (x:Nat->Tab) (p:Nat×Nat):Nat->Tab:=upd x p.2 (ag (x p.2) (x p.1))
def ge:List (Nat×Nat)->(Nat->Tab)->Nat->Tab
 | [],x=>x
 | p::l,x=>ge l (jO x p)
section
variable {U:List Cel} {x:Nat->Tab} {ps:List Tab}
theorem Lane.tell (h:Lane U x ps) (p:Nat×Nat):au (x p.2) (x p.1)=0/\Lane U (jO x p) ps:=h.take p.2 (h.sub p.1)
theorem Lane.tells:∀(l:List (Nat×Nat)) {x:Nat->Tab},Lane U x ps->Lane U (ge l x) ps
 | [],_,h=>h
 | p::l,_,h=>Lane.tells l (h.tell p).2
theorem qj (h:Lane U x ps) (p:Nat×Nat) (j:Nat):Bel (x j) (jO x p j):=by
 unfold jO
 by_cases e:j=p.2
 ·subst e
  rw[cJ]
  exact Bel.left h.uni (h.sub _) (h.sub _)
 ·rw[fh x _ e]
  exact Bel.refl (h.sub j)
theorem kn:∀(l:List (Nat×Nat)) {x:Nat->Tab},Lane U x ps->∀j,Bel (x j) (ge l x j)
 | [],_,h,j=>Bel.refl (h.sub j)
 | p::l,_,h,j=>Bel.trans h.uni (h.sub j) ((h.tell p).2.sub j) ((Lane.tells l (h.tell p).2).sub j) (qj h p j) (kn l (h.tell p).2 j)
theorem mh:∀(l:List (Nat×Nat)) {x:Nat->Tab},Lane U x ps->∀i j,(i,j)∈l->Bel (x i) (ge l x j)
 | [],_,_,_,_,hm=>by cases hm
 | p::l,x,h,i,j,hm=>by
  have f:=(h.tell p).2
  rcases List.mem_cons.1 hm with e|hm
  ·subst e
   have g:Bel (x i) (jO x (i,j) j):=by
    show Bel (x i) (upd x j (ag (x j) (x i)) j)
    rw[cJ]
    exact Bel.right h.uni (h.sub j) (h.sub i)
   exact Bel.trans h.uni (h.sub i) (f.sub j) ((Lane.tells l f).sub j) g (kn l f j)
  ·exact Bel.trans h.uni (h.sub i) (f.sub i) ((Lane.tells l f).sub j) (qj h p i) (mh l f i j hm)
theorem mi {n:Tab} (g:Sub U n):∀(l:List (Nat×Nat)) {x:Nat->Tab},Lane U x ps->(∀p∈l,p.1<4/\p.2<4)->(∀j,j<4->Bel (x j) n)->∀j,j<4->Bel (ge l x j) n
 | [],_,_,_,hb,j,hj=>hb j hj
 | p::l,x,h,hp,hb,j,hj=>by
  refine mi g l (h.tell p).2 (fun q k=>hp q (mC _ k)) (fun i hi=> ?_) j hj
  unfold jO
  have f:=hp p (mS ..)
  by_cases e:i=p.2
  ·subst e
   rw[cJ]
   exact Bel.both h.uni (h.sub _) (h.sub _) g (hb _ f.2) (hb _ f.1)
  ·rw[fh x _ e]
   exact hb i hi
def rp (x:Nat->Tab):Tab:=ag (ag (ag (x 0) (x 1)) (x 2)) (x 3)
theorem Lane.all (h:Lane U x ps):Sub U (rp x)/\∀j,j<4->Bel (x j) (rp x):=by
 have f:=h.uni
 have s1:=(Sub.merge f (h.sub 0) (h.sub 1)).2.1
 have s2:=(Sub.merge f s1 (h.sub 2)).2.1
 have s3:=(Sub.merge f s2 (h.sub 3)).2.1
 have k:Bel (ag (ag (x 0) (x 1)) (x 2)) (rp x):=Bel.left f s2 (h.sub 3)
 have g:Bel (ag (x 0) (x 1)) (rp x):=Bel.trans f s1 s2 s3 (Bel.left f s1 (h.sub 2)) k
 refine ⟨s3,fun j n=> ?_⟩
 match j,n with
 | 0,_=>exact Bel.trans f (h.sub 0) s1 s3 (Bel.left f (h.sub 0) (h.sub 1)) g
 | 1,_=>exact Bel.trans f (h.sub 1) s1 s3 (Bel.right f (h.sub 0) (h.sub 1)) g
 | 2,_=>exact Bel.trans f (h.sub 2) s2 s3 (Bel.right f s1 (h.sub 2)) k
 | 3,_=>exact Bel.right f s2 (h.sub 3)
theorem Lane.least (h:Lane U x ps) {m:Tab} (k:Sub U m) (g:∀j,j<4->Bel (x j) m):Bel (rp x) m:=by
 have f:=h.uni
 have s1:=(Sub.merge f (h.sub 0) (h.sub 1)).2.1
 have s2:=(Sub.merge f s1 (h.sub 2)).2.1
 exact Bel.both f s2 (h.sub 3) k (Bel.both f s1 (h.sub 2) k (Bel.both f (h.sub 0) (h.sub 1) k (g 0 (by omega)) (g 1 (by omega))) (g 2 (by omega))) (g 3 (by omega))
theorem Lane.met (h:Lane U x ps) (l:List (Nat×Nat)) (r:∀p∈l,p.1<4/\p.2<4) (n:∀i j,i<4->j<4->i≠j->(i,j)∈l):∀j,j<4->ge l x j=rp x:=by
 intro j k
 have f:=h.all
 have g:=Lane.tells l h
 refine Bel.anti h.uni (g.sub j) f.1 (mi f.1 l h r f.2 j k) (h.least (g.sub j) fun i hi=> ?_)
 by_cases e:i=j
 ·subst e
  exact kn l h i
 ·exact mh l h i j (n i j hi k e)
end


def dR:Tab:=⟨⟨0,0,0,0,[]⟩,[]⟩
structure NetM where
 s:Nat->Tab
 t:Nat->Tab
 pk:List (Nat×Tab×Tab)
def i7:NetM:=⟨fun _=>dR,fun _=>dR,[]⟩
structure Hap where
 k:Int
 a:Int
 b:Int
 n:Int
 e1:Int
 e2:Int
 e3:Int
 e4:Int
 e5:Int
def iS (s t a b:Tab):Int:=if au s a=0 then au t b else au s a
def A3 (s t a b:Tab):Tab:=if iS s t a b=0 then ag s a else s
def A4 (s t a b:Tab):Tab:=if iS s t a b=0 then ag t b else t
def iB (N:NetM) (i:Nat) (a b:Tab):NetM:=⟨upd N.s i (A3 (N.s i) (N.t i) a b),upd N.t i (A4 (N.s i) (N.t i) a b),N.pk⟩
def zg (N:NetM) (i:Nat) (h:Hap):NetM:=⟨upd N.s i (ndS (N.s i) i h.e1 h.e2 h.e3 h.e4 h.e5),upd N.t i (ndT (N.t i) i h.e1 h.e2 h.e3 h.e4 h.e5),N.pk⟩
def Ep (N:NetM) (i j:Nat):NetM:=⟨N.s,N.t,N.pk++[(j,N.s i,N.t i)]⟩
def qX (s t:Tab) (c d:Ctx):Int:=if bE s c=0 then bE t d else bE s c
def vd (N:NetM) (i j:Nat):NetM:=if qX (N.s i) (N.t i) (N.s j).c (N.t j).c=0 then ⟨N.s,N.t,N.pk++[(j,bU (N.s i) (N.s j).c,bU (N.t i) (N.t j).c)]⟩ else N
abbrev isN (a:Int):Prop:=0<=a/\a<4
def bW (N:NetM) (h:Hap):NetM :=
 if h.k=1 then (if isN h.a then zg N h.a.toNat h else N)
 else if h.k=2 then (if isN h.a/\isN h.b/\N.pk.length<200 then Ep N h.a.toNat h.b.toNat else N)
 else if h.k=3 then (if isN h.a/\isN h.b/\N.pk.length<200 then vd N h.a.toNat h.b.toNat else N)
 else if h.k=4 then (if 0<=h.n then (match N.pk[h.n.toNat]? with|some p=>iB N p.1 p.2.1 p.2.2|none=>N) else N)
 else N
structure NInv (c:Nat) (N:NetM):Prop where
 ex:∃U V,Lane U N.s (N.pk.map (·.2.1))/\Lane V N.t (N.pk.map (·.2.2))/\U.length<=c/\V.length<=c
 dst:∀p∈N.pk,p.1<4
theorem tq:aw dR=0:=by decide
theorem yu (d:Int×Int):ai dR.c d=false:=by
 have f:clk dR.c d.1=0:=by
  unfold clk dR
  simp
 unfold ai
 rw[f]
 cases h:inB d.1 0 3<;>simp[dR]
 omega
theorem Lane.zero:Lane [] (fun _=>dR) [] :=
 ⟨⟨by simp,by simp⟩,fun _=>⟨tq,fun y f=>(by cases f),fun d g=>(by rw[yu] at g;cases g)⟩,fun i _ y f=>(by cases f),fun p h=>(by cases h)⟩
theorem NInv.new:NInv 0 i7:=⟨⟨[],[],Lane.zero,Lane.zero,nR _,nR _⟩,fun p f=>by cases f⟩
theorem NInv.mono {c d:Nat} {N:NetM} (h:NInv c N) (k:c<=d):NInv d N:=by
 obtain ⟨U,V,f,g,j,n⟩:=h.ex
 exact ⟨⟨U,V,f,g,nT j k,nT n k⟩,h.dst⟩
theorem ja (x:Nat->Tab) (i:Nat):upd x i (x i)=x:=by
 funext j
 by_cases e:j=i
 ·subst e;rw[cJ]
 ·rw[fh x _ e]
theorem qi {U V:List Cel} {N:NetM} {ps qs:List Tab} (j:Lane U N.s ps) (k:Lane V N.t qs) (i:Nat) {a b:Tab} (n:Sub U a) (r:Sub V b):iS (N.s i) (N.t i) a b=0/\(iB N i a b).s=upd N.s i (ag (N.s i) a)/\(iB N i a b).t=upd N.t i (ag (N.t i) b)/\Lane U (iB N i a b).s ps/\Lane V (iB N i a b).t qs:=by
 obtain ⟨g,E⟩:=j.take i n
 obtain ⟨h,F⟩:=k.take i r
 have f:iS (N.s i) (N.t i) a b=0:=by unfold iS;rw[g,if_pos rfl,h]
 have u:(iB N i a b).s=upd N.s i (ag (N.s i) a):=by
  show upd N.s i (A3 _ _ a b)=_
  unfold A3
  rw[if_pos f]
 have C:(iB N i a b).t=upd N.t i (ag (N.t i) b):=by
  show upd N.t i (A4 _ _ a b)=_
  unfold A4
  rw[if_pos f]
 rw[u,C]
 exact ⟨f,rfl,rfl,E,F⟩
theorem NInv.take {c:Nat} {N:NetM} (h:NInv c N) (i:Nat) {a b:Tab} (f:∀U V,Lane U N.s (N.pk.map (·.2.1))->Lane V N.t (N.pk.map (·.2.2))->Sub U a/\Sub V b):NInv c (iB N i a b)/\iS (N.s i) (N.t i) a b=0:=by
 obtain ⟨U,V,g,j,n,r⟩:=h.ex
 obtain ⟨u,C⟩:=f U V g j
 obtain ⟨k,_,_,E,F⟩:=qi g j i u C
 exact ⟨⟨⟨U,V,E,F,n,r⟩,h.dst⟩,k⟩
theorem DF {U V:List Cel} {N:NetM} (g:Lane U N.s (N.pk.map (·.2.1))) (h:Lane V N.t (N.pk.map (·.2.2))) {p:Nat×Tab×Tab} (f:p∈N.pk):Sub U p.2.1/\Sub V p.2.2 :=
 ⟨g.pk _ (List.mem_map.2 ⟨p,f,rfl⟩),h.pk _ (List.mem_map.2 ⟨p,f,rfl⟩)⟩
theorem NInv.send {c:Nat} {N:NetM} (h:NInv c N) {j:Nat} (F:j<4) {a b:Tab} (f:∀U V,Lane U N.s (N.pk.map (·.2.1))->Lane V N.t (N.pk.map (·.2.2))->Sub U a/\Sub V b):NInv c ⟨N.s,N.t,N.pk++[(j,a,b)]⟩:=by
 obtain ⟨U,V,g,n,r,u⟩:=h.ex
 obtain ⟨C,E⟩:=f U V g n
 refine ⟨⟨U,V,?_,?_,r,u⟩,fun p L=> ?_⟩
 ·show Lane U N.s ((N.pk++[(j,a,b)]).map (·.2.1))
  rw[List.map_append]
  exact g.send C
 ·show Lane V N.t ((N.pk++[(j,a,b)]).map (·.2.2))
  rw[List.map_append]
  exact n.send E
 ·rcases List.mem_append.1 L with k|k
  ·exact h.dst p k
  ·rw[List.mem_singleton.1 k];exact F
theorem gJ {a:Int} (h:isN a):a.toNat<4:=by have:=h.1;have:=h.2;omega
theorem NInv.edit {c:Nat} {N:NetM} (h:NInv c N) (hc:c+1<=400) {i:Nat} (hi:i<4) (x:Hap):NInv (c+1) (zg N i x):=by
 obtain ⟨U,V,f,g,L,R⟩:=h.ex
 by_cases r:x.e2=0
 ·obtain ⟨k,j,E,F⟩:=f.edit hi (by omega) x.e1 x.e3 x.e4 x.e5
  refine ⟨⟨k,V,?_,?_,by omega,by omega⟩,h.dst⟩
  ·show Lane k (upd N.s i (ndS (N.s i) i x.e1 x.e2 x.e3 x.e4 x.e5)) _
   unfold ndS
   rw[if_pos r]
   exact j
  ·show Lane V (upd N.t i (ndT (N.t i) i x.e1 x.e2 x.e3 x.e4 x.e5)) _
   unfold ndT
   rw[if_neg (by omega),ja]
   exact g
 ·have C:(zg N i x).s=N.s:=by
   show upd N.s i (ndS (N.s i) i x.e1 x.e2 x.e3 x.e4 x.e5)=_
   unfold ndS
   rw[if_neg r,ja]
  by_cases u:x.e2=1
  ·obtain ⟨n,j,E,F⟩:=g.edit hi (by omega) x.e1 x.e3 x.e4 x.e5
   refine ⟨⟨U,n,by rw[C];exact f,?_,by omega,by omega⟩,h.dst⟩
   show Lane n (upd N.t i (ndT (N.t i) i x.e1 x.e2 x.e3 x.e4 x.e5)) _
   unfold ndT
   rw[if_pos u]
   exact j
  ·refine ⟨⟨U,V,by rw[C];exact f,?_,by omega,by omega⟩,h.dst⟩
   show Lane V (upd N.t i (ndT (N.t i) i x.e1 x.e2 x.e3 x.e4 x.e5)) _
   unfold ndT
   rw[if_neg u,ja]
   exact g
theorem NInv.hap {c:Nat} {N:NetM} (h:NInv c N) (hc:c+1<=400) (x:Hap):NInv (c+1) (bW N x):=by
 have f:=h.mono (Nat.le_succ c)
 unfold bW
 by_cases L:x.k=1
 ·rw[if_pos L]
  by_cases E:isN x.a
  ·rw[if_pos E]
   exact h.edit hc (gJ E) x
  ·rw[if_neg E]
   exact f
 ·rw[if_neg L]
  by_cases R:x.k=2
  ·rw[if_pos R]
   by_cases g:isN x.a/\isN x.b/\N.pk.length<200
   ·rw[if_pos g]
    exact f.send (gJ g.2.1) fun U V r u=>⟨r.sub _,u.sub _⟩
   ·rw[if_neg g]
    exact f
  ·rw[if_neg R]
   by_cases k3:x.k=3
   ·rw[if_pos k3]
    by_cases g:isN x.a/\isN x.b/\N.pk.length<200
    ·rw[if_pos g]
     unfold vd
     by_cases j:qX (N.s x.a.toNat) (N.t x.a.toNat) (N.s x.b.toNat).c (N.t x.b.toNat).c=0
     ·rw[if_pos j]
      refine f.send (gJ g.2.1) fun U V r u=> ?_
      unfold qX at j
      by_cases C:bE (N.s x.a.toNat) (N.s x.b.toNat).c=0
      ·rw[if_pos C] at j
       exact ⟨(r.sub _).since C,(u.sub _).since j⟩
      ·rw[if_neg C] at j
       exact absurd j C
     ·rw[if_neg j]
      exact f
    ·rw[if_neg g]
     exact f
   ·rw[if_neg k3]
    by_cases k4:x.k=4
    ·rw[if_pos k4]
     by_cases F:0<=x.n
     ·rw[if_pos F]
      cases hp:N.pk[x.n.toNat]? with
      | none=>exact f
      | some p=>exact (f.take p.1 fun U V r u=>DF r u (List.mem_of_getElem? hp)).1
     ·rw[if_neg F]
      exact f
    ·rw[if_neg k4]
     exact f
def cR:List (Nat×Nat):=[(0,1),(0,2),(0,3),(1,0),(1,2),(1,3),(2,0),(2,1),(2,3),(3,0),(3,1),(3,2)]
def cS (N:NetM) (p:Nat×Nat):NetM:=iB N p.2 (N.s p.1) (N.t p.1)
def iy (N:NetM):NetM:=(cR++cR).foldl cS N
theorem NInv.tell {c:Nat} {N:NetM} (h:NInv c N) (p:Nat×Nat):NInv c (cS N p)/\iS (N.s p.2) (N.t p.2) (N.s p.1) (N.t p.1)=0/\(cS N p).s=jO N.s p/\(cS N p).t=jO N.t p/\(cS N p).pk=N.pk:=by
 obtain ⟨U,V,f,g,r,u⟩:=h.ex
 obtain ⟨n,j,k,C,E⟩:=qi f g p.2 (f.sub p.1) (g.sub p.1)
 exact ⟨⟨⟨U,V,C,E,r,u⟩,h.dst⟩,n,j,k,rfl⟩
theorem NInv.tells:∀(l:List (Nat×Nat)) {c:Nat} {N:NetM},NInv c N->NInv c (l.foldl cS N)/\(l.foldl cS N).s=ge l N.s/\(l.foldl cS N).t=ge l N.t/\(l.foldl cS N).pk=N.pk
 | [],_,_,h=>⟨h,rfl,rfl,rfl⟩
 | p::l,c,N,h=>by
  obtain ⟨f,_,g,j,k⟩:=h.tell p
  obtain ⟨n,r,u,C⟩:=NInv.tells l f
  refine ⟨n,?_,?_,C.trans k⟩
  ·show (l.foldl cS (cS N p)).s=ge l (jO N.s p)
   rw[r,g]
  ·show (l.foldl cS (cS N p)).t=ge l (jO N.t p)
   rw[u,j]
theorem sK:∀p∈cR++cR,p.1<4/\p.2<4:=by decide
theorem pU (i j:Nat) (hi:i<4) (f:j<4) (h:i≠j):(i,j)∈cR++cR:=by
 have:∀i:Fin 4,∀j:Fin 4,i≠j->(i.1,j.1)∈cR++cR:=by decide
 exact this ⟨i,hi⟩ ⟨j,f⟩ (fun e=>h (by injection e))
theorem NInv.met {c:Nat} {N:NetM} (h:NInv c N):NInv c (iy N)/\(∀j,j<4->(iy N).s j=rp N.s)/\(∀j,j<4->(iy N).t j=rp N.t)/\(iy N).pk=N.pk:=by
 obtain ⟨n,r,u,C⟩:=NInv.tells (cR++cR) h
 obtain ⟨U,V,g,k,_⟩:=h.ex
 refine ⟨n,fun j f=> ?_,fun j f=> ?_,C⟩
 ·show ((cR++cR).foldl cS N).s j=_
  rw[r]
  exact g.met _ sK pU j f
 ·show ((cR++cR).foldl cS N).t j=_
  rw[u]
  exact k.met _ sK pU j f

structure Pkm where
 tg:Nat
 a:Tab
 A:Option o
 ca:Nat
 C:Option o
 cc:Nat
 b:Tab
 B:Option o
 cb:Nat
 D:Option o
 cd:Nat
def Pkm.m (p:Pkm):Nat×Tab×Tab:=(p.tg,p.a,p.b)
def fK (p:Pkm):List Value:=[Z J (p.tg:Int),Z J p.a.c.c0,Z J p.a.c.c1,Z J p.a.c.c2,Z J p.a.c.c3,I p.A p.a.c.l.length p.ca,I p.C p.a.e.length p.cc,Z J p.b.c.c0,Z J p.b.c.c1,Z J p.b.c.c2,Z J p.b.c.c3,I p.B p.b.c.l.length p.cb,I p.D p.b.e.length p.cd]
theorem el (p:Pkm):(fK p).length=13:=rfl
theorem zk (p:Pkm):∀u∈fK p,u.oneCell'=true:=by
 intro u f
 simp only[fK,List.mem_cons,List.not_mem_nil,or_false] at f
 rcases f with h|h|h|h|h|h|h|h|h|h|h|h|h<;>rw[h]<;>rfl
def PkP (P:Nat->Prop) (w:ic) (p:Pkm):Prop:=p.tg<4/\TbP P w p.a p.A p.ca p.C p.cc/\TbP P w p.b p.B p.cb p.D p.cd
structure Pks (w:ic) (B:Nat) (P:Nat->Prop) (pk:List (Nat×Tab×Tab)) (L:List Pkm) (A:Option o) (c:Nat):Prop where
 cel:w.cell? ⟨B,152,none⟩=some (I A L.length c)
 row:az fK 13 w A L
 arr:PIn P A L
 nil:A=none->c=0
 cap:L.length<=c
 eq:L.map Pkm.m=pk
 len:L.length<=200
 each:∀p∈L,PkP P w p
structure NetP (w:ic) (B:Nat) (P:Nat->Prop) (M:NetM) (Q:Nat->List (List Stp)):Prop where
 blk:Blk w B 72 153
 nd:∀i,i<4->Nd w B (i*38) P i (M.s i) (M.t i) (Q i)
 pk:∃L A c,Pks w B P M.pk L A c
section
variable {w w':ic} {B:Nat} {P:Nat->Prop} {M:NetM} {Q:Nat->List (List Stp)}
theorem NetP.out (h:NetP w B P M Q):¬P B:=(h.nd 0 (by omega)).out
theorem NetP.up (h:NetP w B P M Q):∀b,P b->b<w.heap.size:=(h.nd 0 (by omega)).up
theorem NetP.lt (h:NetP w B P M Q):B<w.heap.size:=h.blk.lt
theorem Pks.keep {j:List (Nat×Tab×Tab)} {L:List Pkm} {A:Option o} {c:Nat} (h:Pks w B P j L A c) (k:w'.cell? ⟨B,152,none⟩=w.cell? ⟨B,152,none⟩) (f:Agr P w w'):Pks w' B P j L A c :=
 ⟨k.trans h.cel,h.row.agr h.arr f,h.arr,h.nil,h.cap,h.eq,h.len,fun p g=>⟨(h.each p g).1,(h.each p g).2.1.agr f,(h.each p g).2.2.agr f⟩⟩
theorem Pks.mono {g:List (Nat×Tab×Tab)} {L:List Pkm} {A:Option o} {c:Nat} (h:Pks w B P g L A c) {P':Nat->Prop} (k:∀b,P b->P' b):Pks w B P' g L A c :=
 ⟨h.cel,h.row,h.arr.mono k,h.nil,h.cap,h.eq,h.len,fun p f=>⟨(h.each p f).1,(h.each p f).2.1.mono k,(h.each p f).2.2.mono k⟩⟩
theorem NetP.mono (h:NetP w B P M Q) {P':Nat->Prop} (k:∀b,P b->P' b) (f:¬P' B) (g:∀b,P' b->b<w.heap.size):NetP w B P' M Q:=by
 obtain ⟨L,A,c,j⟩:=h.pk
 exact ⟨h.blk,fun i hi=>(h.nd i hi).mono k f g,L,A,c,j.mono k⟩
theorem NetP.keep (h:NetP w B P M Q) (g:w'.heap[B]? = w.heap[B]?) (j:Agr P w w'):NetP w' B P M Q:=by
 obtain ⟨L,A,c,n⟩:=h.pk
 obtain ⟨f,k,r⟩:=h.blk
 exact ⟨⟨f,g.trans k,r⟩,fun i hi=>(h.nd i hi).keep g j,L,A,c,n.keep (World.cell?_of_block (a:=⟨B,152,none⟩) g) j⟩
theorem NetP.below (h:NetP w B P M Q) (k:H w.heap.size w w'):NetP w' B P M Q:=h.keep (k.block B h.lt) (Agr.of k)
theorem Nd.wr {N O lo hi:Nat} {id:Int} {s t:Tab} {qs:List (List Stp)} (h:Nd w N O P id s t qs) (n:Wr N lo hi w w') (F:O+38<=lo\/hi<=O):Nd w' N O P id s t qs:=by
 have g:Agr P w w':=n.agr h.out
 have r:=n.blo h.blk
 have L:=h.le
 have f:∀j,O<=j->j<O+38->w'.cell? ⟨N,j,none⟩=w.cell? ⟨N,j,none⟩:=fun j C E=>n.celo h.blk (by omega)
 exact ⟨r,h.out,fun b k=>nL (h.up b k) g.size,(f O (by omega) (by omega)).trans h.cid,h.ts.keep g fun j _ _=>f j (by omega) (by omega),h.tt.keep g fun j _ _=>f j (by omega) (by omega),(f (O+37) (by omega) (by omega)).trans h.cnt,h.le,fun j u=>(h.vs j u).keep g r.lt r.fz fun i _ _=>f i (by omega) (by omega)⟩
def iH (Q:Nat->List (List Stp)) (i:Nat) (q:List (List Stp)):Nat->List (List Stp):=fun j=>if j=i then q else Q j
theorem NetP.wrote (h:NetP w B P M Q) {i lo hi:Nat} (k:i<4) {s t:Tab} {qs:List (List Stp)} (g:Nd w' B (i*38) (af P w.heap.size w'.heap.size) i s t qs) (f:Wr B (i*38+lo) (i*38+hi) w w') (C:hi<=38) :
  NetP w' B (af P w.heap.size w'.heap.size) ⟨upd M.s i s,upd M.t i t,M.pk⟩ (iH Q i qs)/\Wr B 0 153 w w':=by
 obtain ⟨L,A,c,u⟩:=h.pk
 refine ⟨⟨f.block h.blk,fun j n=> ?_,L,A,c,(u.keep (f.cell h.blk (oR (by omega))) (f.agr h.out)).mono af.old⟩,f.mono (by omega) (by omega)⟩
 by_cases e:j=i
 ·subst e
  show Nd w' B _ _ j (upd M.s j s j) (upd M.t j t j) (iH Q j qs j)
  rw[cJ,cJ,show iH Q j qs j=qs from if_pos rfl]
  exact g
 ·show Nd w' B _ _ j (upd M.s i s j) (upd M.t i t j) (iH Q i qs j)
  rw[fh _ _ e,fh _ _ e,show iH Q i qs j=Q j from if_neg e]
  have r:=(h.nd j n).wr f (by omega)
  exact r.mono af.old g.out g.up
theorem lN (Q:Nat->List (List Stp)) (i:Nat):iH Q i (Q i)=Q:=by
 funext j
 by_cases e:j=i
 ·subst e;exact if_pos rfl
 ·exact if_neg e
theorem NetP.sent (h:NetP w B P M Q) {P':Nat->Prop} (f:∀b,P b->P' b) (k:¬P' B) (n:∀b,P' b->b<w'.heap.size) (j:Wr B 152 153 w w') {L:List Pkm} {p:Pkm} {A:Option o} {c:Nat} (E:L.map Pkm.m=M.pk) (hL:L.length<200) (u:w'.cell? ⟨B,152,none⟩=some (I A (L++[p]).length c)) (R:az fK 13 w' A (L++[p])) (r:PIn P' A (L++[p])) (F:A=none->c=0) (g:(L++[p]).length<=c) (C:∀q∈L++[p],PkP P' w' q):NetP w' B P' ⟨M.s,M.t,M.pk++[p.m]⟩ Q :=
 ⟨j.block h.blk,fun i hi=>((h.nd i hi).wr j (by omega)).mono f k n,L++[p],A,c,u,R,r,F,g,by rw[List.map_append,E];rfl,by simp;omega,C⟩
end
end Go.Proofs.YtjmmpnmgpgaagaaGreatDoor
