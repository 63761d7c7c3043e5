import Derived.Test.YtbkjgjjpnfhkhaaGreatDoorM23
set_option maxRecDepth 100000
set_option maxHeartbeats 8000000
open Go renaming World → J, Value → Z, Addr → X
open Go.IntKind renaming i64 → S
open Go.Obj renaming cells → I
open Go.RowKit renaming Hid → Y, Below → U
open Go.Value renaming int → O, slice → K, agg → L
namespace Go.Proofs.YtbkjgjjpnfhkhaaGreatDoor
open Go.RowKit Go.Sort

theorem Six.oth {w:J} {B:Nat} {u0 u1 u2 u3 u4 u5:Z} (h:Six w B u0 u1 u2 u3 u4 u5) {d j:Nat} (u:Z) (f:B≠d):Six (w.jb3 d j u) B u0 u1 u2 u3 u4 u5:=by have c:∀i,(w.jb3 d j u).cell? (jb5 B i)=w.cell? (jb5 B i):=fun i=>World.cell?_setCell_other _ _ _ _ (by intro e;injection e with e1;exact f e1.symm);exact ⟨(c 0).trans h.k0,(c 1).trans h.k1,(c 2).trans h.k2,(c 3).trans h.k3,(c 4).trans h.k4,(c 5).trans h.k5,fun i=>by simp only[World.frozen?_setCell];exact h.fz i,by simpa[World.setCell] using h.lt⟩
theorem aC.set0 {α : Type} {enc: α -> List Z} {k:Nat} {w:J} {A:Option X} {l:List α} (h:aC enc k w A l) {B m:Nat} (u:Z) (d:∀x,A=some x->l≠[]->x.block≠B):aC enc k (w.jb3 B m u) A l:=by
 by_cases c:l=[]
 ·exact oL c
 ·exact h.setCell u fun x f=>d x f c
theorem TabAt.oth {w:J} {B:Nat} {t:Tab} {A:Option X} {ca:Nat} {D:Option X} {cd:Nat} (h:TabAt w B t A ca D cd) {f j:Nat} (u:Z) (k:B≠f) (g:∀x,A=some x->t.c.l≠[]->x.block≠f) (m:∀x,D=some x->t.e≠[]->x.block≠f):TabAt (w.jb3 f j u) B t A ca D cd:=by have d:∀i,(w.jb3 f j u).cell? (jb5 B i)=w.cell? (jb5 B i):=fun i=>World.cell?_setCell_other _ _ _ _ (by intro e;injection e with e1;exact k e1.symm);exact ⟨(d 0).trans h.k0,(d 1).trans h.k1,(d 2).trans h.k2,(d 3).trans h.k3,(d 4).trans h.k4,(d 5).trans h.k5,by simpa[World.setCell] using h.lt,h.row.setCell0 _ g,h.rowC.set0 _ m⟩
theorem rp (a b:Ctx):(aO a b).l.length<=maxLen:=by
 by_cases h:aI a b=0
 ·rw[(jo h).2.2.2.1];exact nT (jo h).2.2.2.2 (by decide)
 ·have:aO a b=ar:=by simp[aO,h]
  rw[this];decide
theorem oD {a b:Tab} (h:aD a b=0):ay a=0/\ay b=0/\dH a b=false/\aI a.c b.c=0/\(mrg a b).length<=400:=by
 unfold aD at h;by_cases d:ay a=0
 ·by_cases f:ay b=0
  ·cases g:dH a b
   ·by_cases j:aI a.c b.c=0
    ·by_cases k:400<(mrg a b).length
     ·simp[d,f,g,j,k] at h
     ·exact ⟨d,f,rfl,j,by omega⟩
    ·simp[d,f,g,j] at h
   ·simp[d,f,g] at h
  ·simp[d,f] at h
 ·simp[d] at h
theorem tU (t:Tab) (n key col v:Int):(dm t n key col v).c.l.length<=maxLen/\(dm t n key col v).e.length<=maxLen:=by
 unfold dm;by_cases h:cF t n key col v=0
 ·rw[if_pos h];exact ⟨rp _ _,show 1<=maxLen by decide⟩
 ·rw[if_neg h];exact ⟨by decide,by decide⟩
theorem ni (t:Tab) (key:Int):(du t key).l.length<=maxLen:=by
 unfold du;by_cases h:dN t key=0
 ·rw[if_pos h];have c:ay t=0:=by
   by_cases c:ay t=0
   ·exact c
   ·unfold dN at h;rw[if_pos c] at h;exact absurd h c
  exact jK _ (nT (ci _ _) (af c).2.1)
 ·rw[if_neg h];decide


def df (b:Ctx) (node top:Int):Nat->List (Int×Int)->Int->List (Int×Int)
 | 0,l,_=>l
 | n+1,l,s=>if s<=top/\l.length<=400 then df b node top n (if ax b (node,s)=true then l else l++[(node,s)]) (s+1) else l
def bU (b:Ctx) (node:Int) (ds l:List (Int×Int)):List (Int×Int):=ds.foldl (fun l x=>if x.1=node/\ax b x=false then l++[x] else l) l
def eX (a b:Ctx) (node:Int) (l:List (Int×Int)):List (Int×Int):=bU b node a.l (df b node (clk a node) (clk a node-clk b node).toNat l (clk b node+1))

theorem gO {b:Ctx} {node:Int} {c l:List (Int×Int)} {k:Nat} (h:k<c.length) {x:Int×Int} (d:c[k]=x):bU b node (c.take (k+1)) l=if x.1=node/\ax b x=false then bU b node (c.take k) l++[x] else bU b node (c.take k) l:=by unfold bU;rw[List.take_succ_eq_append_getElem h,List.foldl_append,d];rfl
theorem gN {b:Ctx} {node top s:Int} {n:Nat} {l:List (Int×Int)} (h:¬(s<=top/\l.length<=400)):df b node top n l s=l:=by
 cases n with
 | zero=>rfl
 | succ n=>simp only[df,if_neg h]
theorem lZ {b:Ctx} {node top s:Int} {l:List (Int×Int)} (c:s<=top) (d:l.length<=400):df b node top (top+1-s).toNat l s=df b node top (top+1-(s+1)).toNat (if ax b (node,s)=true then l else l++[(node,s)]) (s+1):=by rw[show (top+1-s).toNat=(top+1-(s+1)).toNat+1 from by omega];simp only[df,if_pos (And.intro c d)]
theorem tx (b:Ctx) (node top:Int):∀(n:Nat) (l:List (Int×Int)) (s:Int),(df b node top n l s).length<=max l.length 401:=by
 intro n;induction n with
 | zero=>intro l s;simp only[df];omega
 | succ n ih =>
  intro l s;simp only[df];split
  ·rename_i h;have c:(if ax b (node,s)=true then l else l++[(node,s)]).length<=l.length+1:=by split<;>simp
   have:=ih (if ax b (node,s)=true then l else l++[(node,s)]) (s+1);omega
  ·omega
theorem gu (b:Ctx) (node:Int) (c:List (Int×Int)):∀(l:List (Int×Int)),(bU b node c l).length<=l.length+c.length:=by
 induction c with
 | nil=>intro l;simp[bU]
 | cons x c ih =>
  intro l
  have:=ih (if x.1=node/\ax b x=false then l++[x] else l)
  have d:(if x.1=node/\ax b x=false then l++[x] else l).length<=l.length+1:=by split<;>simp
  show (bU b node c (if x.1=node/\ax b x=false then l++[x] else l)).length<=_
  rw[List.length_cons]
  omega
theorem vZ (b:Ctx) (node top:Int):∀(n:Nat) (l:List (Int×Int)) (s:Int),l.length<=(df b node top n l s).length:=by
 intro n;induction n with
 | zero=>intro l s;simp only[df];omega
 | succ n ih =>
  intro l s;simp only[df];split
  ·have c:l.length<=(if ax b (node,s)=true then l else l++[(node,s)]).length:=(by split<;>simp);have:=ih (if ax b (node,s)=true then l else l++[(node,s)]) (s+1);omega
  ·omega
theorem w9 (b:Ctx) (node:Int) (c:List (Int×Int)):∀(l:List (Int×Int)),l.length<=(bU b node c l).length:=by
 induction c with
 | nil=>intro l;simp[bU]
 | cons x c ih =>
  intro l
  have:=ih (if x.1=node/\ax b x=false then l++[x] else l)
  have d:l.length<=(if x.1=node/\ax b x=false then l++[x] else l).length:=by split<;>simp
  show _<=(bU b node c (if x.1=node/\ax b x=false then l++[x] else l)).length
  omega
theorem wh (a b:Ctx) (node:Int) (l:List (Int×Int)):l.length<=(eX a b node l).length:=nT (vZ b node _ _ l _) (w9 b node a.l _)
theorem tA (a b:Ctx) (node:Int) (l:List (Int×Int)):(eX a b node l).length<=max l.length 401+a.l.length:=by have c:=gu b node a.l (df b node (clk a node) (clk a node-clk b node).toNat l (clk b node+1));have d:=tx b node (clk a node) (clk a node-clk b node).toNat l (clk b node+1);unfold eX;omega

theorem zT {w:J} {B:Nat} {c:Ctx} {A:Option X} {cap:Nat} (h:CtxAt w B c A cap) {a:Int} (f:0<=a) (g:a<4):jb1 w B a.toNat (O S (clk c a)):=by
 have d:a=0\/a=1\/a=2\/a=3:=by omega
 rcases d with rfl|rfl|rfl|rfl
 ·exact h.k0
 ·exact h.k1
 ·exact h.k2
 ·exact h.k3

theorem CtxAt.belowB {w w':J} {B:Nat} {c:Ctx} {A:Option X} {cap d:Nat} (h:CtxAt w B c A cap) (k:U d w w') (f:B<d) (g:∀x,A=some x->c.l≠[]->x.block<d):CtxAt w' B c A cap :=
 ⟨(k.cell (p:=(jb5 B 0)) f).trans h.k0,(k.cell (p:=(jb5 B 1)) f).trans h.k1,(k.cell (p:=(jb5 B 2)) f).trans h.k2,(k.cell (p:=(jb5 B 3)) f).trans h.k3,(k.cell (p:=(jb5 B 4)) f).trans h.k4,nL h.lt k.size,h.row.belowB g k⟩

structure AM (w wr:J) (N base:Nat) (a b:Ctx) (A B:Option X) (ca cb:Nat) (v:Z) (l:List (Int×Int)):Prop where
 own:Own wr base v l
 ap:∀k,v.ownBlock=some k->k≠N/\k≠N+1
 ca:CtxAt wr N a A ca
 cb:CtxAt wr (N+1) b B cb
 bel:U base w wr
 bs:base<=wr.heap.size
 ra:∀x,A=some x->a.l≠[]->x.block<base
 rb:∀x,B=some x->b.l≠[]->x.block<base

theorem AM.gr {w wr w':J} {N c:Nat} {a b:Ctx} {A B:Option X} {ca cb:Nat} {v:Z} {l:List (Int×Int)} (h:AM w wr N c a b A B ca cb v l) (k:Gr wr w'):AM w w' N c a b A B ca cb v l :=
 ⟨h.own.gr k,h.ap,h.ca.gr k,h.cb.gr k,h.bel.trans (k.below.mono h.bs),nT h.bs k.size,h.ra,h.rb⟩

theorem CtxAt.grown {w w':J} {B:Nat} {c:Ctx} {A:Option X} {cap:Nat} {row:Option Nat} {d:Nat} (h:CtxAt w B c A cap) (f:w.grownBy w' row) (g:some B≠row) (k:U d w w') (j:∀x,A=some x->c.l≠[]->x.block<d):CtxAt w' B c A cap :=
 ⟨f.cell h.k0 g,f.cell h.k1 g,f.cell h.k2 g,f.cell h.k3 g,f.cell h.k4 g,nL h.lt f.size,h.row.belowB j k⟩

theorem AM.append {w wr C D:J} {N d:Nat} {a b:Ctx} {A B:Option X} {ca cb:Nat} {v r:Z} {l m:List (Int×Int)} (h:AM w wr N d a b A B ca cb v l) (k:Gr wr C) (F:Own D d r m) (g:C.grownBy D v.ownBlock) {H:Nat} (E:C.heap.size=H) (f:r.ownBlock=v.ownBlock\/r.ownBlock=some H):AM w D N d a b A B ca cb r m:=by
 subst E;have c:=h.gr k;have u:=c.own.grown_below g c.bs;refine ⟨F,?_,c.ca.grown g (fun e=>(c.ap N e.symm).1 rfl) u c.ra,c.cb.grown g (fun e=>(c.ap (N+1) e.symm).2 rfl) u c.rb,c.bel.trans u,nT c.bs g.size,h.ra,h.rb⟩;intro j n;rcases f with f|f
 ·exact h.ap j (by rw[<-f];exact n)
 ·rw[f] at n;injection n with n;have:=c.ca.lt;have:=c.cb.lt;omega


theorem nv {c:Ctx} {A:Option X} {cap:Nat} {x y:Int} {r:Bool} {w:J} (g:ax c (x,y)=r) (d:c.l.length<=maxLen) (f:Row w A c.l) :
  Calls Tryz.prog 67 #[L (ja7 c A cap),L #[O S x,O S y]] w fun e w'=>e= .returned (.bool r)/\Gr w w':=by rw[<-g];exact jm c A cap (x,y) w d f

theorem oW (a b:Ctx) (A B:Option X) (ca cb:Nat) (v:Z) (l:List (Int×Int)) (node:Int) (f:Nat) (w:J) (h0:0<=node) (h4:node<4) (b6:aW a=true) (b7:aW b=true) (cf:a.l.length<=400) (cj:b.l.length<=400) (cm:l.length<=2000)
  (b8:Row w A a.l) (b9:Row w B b.l) (bC:∀x,A=some x->a.l≠[]->x.block<f) (bG:∀x,B=some x->b.l≠[]->x.block<f) (bt:Own w f v l) (bd:f<=w.heap.size) :
  Calls Tryz.prog 135 #[v,L (ja7 a A ca),L (ja7 b B cb),O S node] w fun e w'=>∃v',e= .returned v'/\Own w' f v' (eX a b node l)/\U f w w':=by
 have ck:=bF b6 node h0 h4;have cl:=bF b7 node h0 h4;have a5:Gr w ((w.alloc (I (ja7 a A ca) 32)).alloc (I (ja7 b B cb) 32)):=((gR w).alloc _).alloc _;have ap:AM w ((w.alloc (I (ja7 a A ca) 32)).alloc (I (ja7 b B cb) 32)) w.heap.size f a b A B ca cb v l:=⟨bt.gr a5,fun k hk=>by have:=(bt.lt k hk).2;omega,(CtxAt.new 32 b8 rfl).gr ((gR _).alloc _),CtxAt.new 32 (b9.gr ((gR _).alloc _)) (by simp),a5.below.mono bd,nT bd a5.size,bC,bG⟩;have an:Y (b.l.length<=maxLen):=by show _<=_;unfold maxLen;omega
 have k0:=ap.ca.k4;have cs:=ab (dK (gR ((w.alloc (I (ja7 a A ca) 32)).alloc (I (ja7 b B cb) 32)))) (dM (c:=a) h0 h4);have cu:=jf (gR ((w.alloc (I (ja7 a A ca) 32)).alloc (I (ja7 b B cb) 32))) (dM (c:=b) h0 h4);obtain ⟨A0,cd,rfl,_,_,_⟩:=ap.own.row;go_enter Tryz.func135,Tryz.ntmps135;go_wp2;go_loopw [0,9] (fun v s wr=>∃(V:Z) (m:List (Int×Int)) (t:Int),v=V/\s= O S t/\clk b node+1<=t/\t<=1099511627777/\m.length<=2001/\AM w wr w.heap.size f a b A B ca cb V m/\Y (df b node (clk a node) (clk a node+1-t).toNat m t=df b node (clk a node) (clk a node-clk b node).toNat l (clk b node+1))) (fun _ s _=>(clk a node+1-intOf s).toNat);exact ⟨_,l,clk b node+1,rfl,rfl,Int.le_refl _,by omega,by omega,ap,by show df _ _ _ _ _ _=_;congr 1;omega⟩;obtain ⟨V,m,t,rfl,rfl,cp,cr,b5,d,a4⟩:=hrel;obtain ⟨A1,bc,rfl,ce,_,_⟩:=d.own.row;have kc:=d.ca.k4;have ka:jb1 wr w.heap.size node.toNat (O S (clk a node)):=zT d.ca h0 h4;by_cases hs:t<=clk a node
 ·by_cases bl:m.length<=400
  ·have bo:(m.length:Int)<=400:=(by omega);have r:=lZ (b:=b) (node:=node) hs bl;have n:Gr wr (wr.alloc (I #[O S node,O S t] 89)):=(gR _).alloc _;obtain ⟨b0,b1,b2,b3,b4,a3,C⟩:=(show CtxAt _ _ _ _ _ from d.cb);cases hh:ax b (node,t)
   ·rw[hh] at r;simp only[Bool.false_eq_true,if_false] at r;have a9:=ja1 (r.symm.trans a4.out);have aL:Y ((m.length+[(node,t)].length)*16<=140737488355328):=by show _<=_;simp only[List.length_cons,List.length_nil];omega
    go_wp2_with (first|(go_at_call 67;refine (nv hh an.out (C.gr n)).mono ?_;rintro e w1 ⟨rfl,g⟩;have be:=(g.cell (p:=(jb5 wr.heap.size 0)) (by simp)).trans (ab (gR (wr.alloc (I #[O S node,O S t] 89))) (j:=0) rfl);have bh:=(g.cell (p:=(jb5 wr.heap.size 1)) (by simp)).trans (ab (gR (wr.alloc (I #[O S node,O S t] 89))) (j:=1) rfl))|(at_builtin;refine al _ rfl (.tmp 38) (.tmp 40) rfl f (K A1 m.length bc) m [(node,t)] (jb4 w1.heap.size 0) 1 rfl rfl ?ho ?hr (fun h=>by cases h) aL.out ?hs ?_));case ho=>exact (d.gr ((n.trans g).alloc _)).own
    case hr=>exact ed rfl node t _
    case hs=>exact (d.gr ((n.trans g).alloc _)).bs
    intro v1 w2 D ad R;have F:Y (AM w w2 w.heap.size f a b A B ca cb v1 (m++[(node,t)])):=d.append ((n.trans g).alloc _) D ad (by simp) R;go_wp2;go_roundw;exact ⟨v1,m++[(node,t)],t+1,rfl,by go_num,by omega,by omega,by simp only[List.length_append,List.length_cons,List.length_nil];omega,F.out,a9⟩;simp[intOf];omega
   ·rw[hh] at r;simp only[if_true] at r;have a9:=ja1 (r.symm.trans a4.out);go_wp2_with (go_at_call 67;refine (nv hh an.out (C.gr n)).mono ?_;rintro e w1 ⟨rfl,g⟩);go_roundw;exact ⟨_,m,t+1,rfl,by go_num,by omega,by omega,b5,d.gr (n.trans g),a9⟩;simp[intOf];omega
  ·have bo:¬(m.length:Int)<=400:=(by omega);have ah:¬(t<=clk a node/\m.length<=400):=fun h=>bl h.2;have a8:Y (eX a b node l=bU b node a.l m):=by show eX a b node l=_;unfold eX;rw[<-a4.out,gN ah]
   obtain ⟨b0,b1,b2,b3,b4,a3,C⟩:=(show CtxAt _ _ _ _ _ from d.cb);go_wp2;go_loopw [0,45] (fun v i wi=>∃(V:Z) (k:Nat),v=V/\k<=a.l.length/\i= O S k/\AM w wi w.heap.size f a b A B ca cb V (bU b node (a.l.take k) m)) (fun _ i _=>a.l.length-(intOf i).toNat);exact ⟨_,0,rfl,nZ _,rfl,d⟩;rename J=>wi;obtain ⟨V,k,rfl,hk,rfl,d⟩:=hrel;have a7:=gu b node (a.l.take k) m;have bp:(a.l.take k).length<=k:=List.length_take_le _ _;obtain ⟨M,hM⟩:=jb0 (bU b node (a.l.take k) m);rw[hM] at d a7;have HM:=ja1 hM;obtain ⟨A2,ao,rfl,bv,_,_⟩:=d.own.row;by_cases E:k<a.l.length
   ·have a2:(k:Int)<(a.l.length:Int):=(by omega);obtain ⟨bb,ba,rfl,bN,a0⟩:=d.ca.row.at E;obtain ⟨x,y,hx⟩:∃x y,a.l[k]=(x,y):=⟨_,_,rfl⟩;have e0:=(a0 k E).1;have e1:=(a0 k E).2;rw[hx] at e0 e1;have r:=gO (b:=b) (node:=node) (l:=m) E hx;rw[HM.out] at r;simp only at r;have n:Gr wi (wi.alloc (I #[O S x,O S y] 89)):=(gR _).alloc _;obtain ⟨b0,b1,b2,b3,b4,a3,C⟩:=(show CtxAt _ _ _ _ _ from d.cb);by_cases ak:x=node
    ·subst ak;cases hh:ax b (x,y)
     ·have u:Y (bU b x (a.l.take (k+1)) m=M++[(x,y)]):=(by show _=_;rw[r,if_pos ⟨rfl,hh⟩]);have aL:Y ((M.length+[(x,y)].length)*16<=140737488355328):=by show _<=_;simp only[List.length_cons,List.length_nil];omega
      go_wp2_with (first|(go_at_call 67;refine (nv hh an.out (C.gr n)).mono ?_;rintro e w1 ⟨rfl,g⟩;have be:=(g.cell (p:=(jb5 wi.heap.size 0)) (by simp)).trans (ab (gR (wi.alloc (I #[O S x,O S y] 89))) (j:=0) rfl);have bh:=(g.cell (p:=(jb5 wi.heap.size 1)) (by simp)).trans (ab (gR (wi.alloc (I #[O S x,O S y] 89))) (j:=1) rfl))|(at_builtin;refine al _ rfl (.tmp 59) (.tmp 61) rfl f (K A2 M.length ao) M [(x,y)] (jb4 w1.heap.size 0) 1 rfl rfl ?ho ?hr (fun h=>by cases h) aL.out ?hs ?_));case ho=>exact (d.gr ((n.trans g).alloc _)).own
      case hr=>exact ed rfl x y _
      case hs=>exact (d.gr ((n.trans g).alloc _)).bs
      intro v1 w2 D ad R;have F:Y (AM w w2 w.heap.size f a b (jb4 bb ba) B ca cb v1 (M++[(x,y)])):=d.append ((n.trans g).alloc _) D ad (by simp) R;go_wp2;go_roundw;exact ⟨v1,k+1,rfl,by omega,by go_num,by rw[u.out];exact F.out⟩;simp[intOf];omega
     ·have u:Y (bU b x (a.l.take (k+1)) m=M):=(by show _=_;rw[r,if_neg (by rw[hh];simp)]);go_wp2_with (go_at_call 67;refine (nv hh an.out (C.gr n)).mono ?_;rintro e w1 ⟨rfl,g⟩);go_roundw;exact ⟨_,k+1,rfl,by omega,by go_num,by rw[u.out];exact d.gr (n.trans g)⟩;simp[intOf];omega
    ·have u:Y (bU b node (a.l.take (k+1)) m=M):=(by show _=_;rw[r,if_neg (fun h=>ak h.1)]);have cc:(x==node)=false:=by simpa using ak
     go_wp2;go_roundw;exact ⟨_,k+1,rfl,by omega,by go_num,by rw[u.out];exact d.gr n⟩;simp[intOf];omega
   ·have a2:¬(k:Int)<(a.l.length:Int):=(by omega);have a6:a.l.take k=a.l:=List.take_of_length_le (by omega);have a1:Y (eX a b node l=M):=by have h1:=HM.out;rw[a6] at h1;exact a8.out.trans h1
    go_wp2;go_ret;rw[a1.out];exact ⟨_,rfl,d.own,d.bel⟩
 ·have cn:decide (t<=clk a node)=false:=by simpa using hs
  have ah:¬(t<=clk a node/\m.length<=400):=fun h=>hs h.1;have a8:Y (eX a b node l=bU b node a.l m):=by show eX a b node l=_;unfold eX;rw[<-a4.out,gN ah]
  obtain ⟨b0,b1,b2,b3,b4,a3,C⟩:=(show CtxAt _ _ _ _ _ from d.cb);go_wp2;go_loopw [0,45] (fun v i wi=>∃(V:Z) (k:Nat),v=V/\k<=a.l.length/\i= O S k/\AM w wi w.heap.size f a b A B ca cb V (bU b node (a.l.take k) m)) (fun _ i _=>a.l.length-(intOf i).toNat);exact ⟨_,0,rfl,nZ _,rfl,d⟩;rename J=>wi;obtain ⟨V,k,rfl,hk,rfl,d⟩:=hrel;have a7:=gu b node (a.l.take k) m;have bp:(a.l.take k).length<=k:=List.length_take_le _ _;obtain ⟨M,hM⟩:=jb0 (bU b node (a.l.take k) m);rw[hM] at d a7;have HM:=ja1 hM;obtain ⟨A2,ao,rfl,bv,_,_⟩:=d.own.row;by_cases E:k<a.l.length
  ·have a2:(k:Int)<(a.l.length:Int):=(by omega);obtain ⟨bb,ba,rfl,bN,a0⟩:=d.ca.row.at E;obtain ⟨x,y,hx⟩:∃x y,a.l[k]=(x,y):=⟨_,_,rfl⟩;have e0:=(a0 k E).1;have e1:=(a0 k E).2;rw[hx] at e0 e1;have r:=gO (b:=b) (node:=node) (l:=m) E hx;rw[HM.out] at r;simp only at r;have n:Gr wi (wi.alloc (I #[O S x,O S y] 89)):=(gR _).alloc _;obtain ⟨b0,b1,b2,b3,b4,a3,C⟩:=(show CtxAt _ _ _ _ _ from d.cb);by_cases ak:x=node
   ·subst ak;cases hh:ax b (x,y)
    ·have u:Y (bU b x (a.l.take (k+1)) m=M++[(x,y)]):=(by show _=_;rw[r,if_pos ⟨rfl,hh⟩]);have aL:Y ((M.length+[(x,y)].length)*16<=140737488355328):=by show _<=_;simp only[List.length_cons,List.length_nil];omega
     go_wp2_with (first|(go_at_call 67;refine (nv hh an.out (C.gr n)).mono ?_;rintro e w1 ⟨rfl,g⟩;have be:=(g.cell (p:=(jb5 wi.heap.size 0)) (by simp)).trans (ab (gR (wi.alloc (I #[O S x,O S y] 89))) (j:=0) rfl);have bh:=(g.cell (p:=(jb5 wi.heap.size 1)) (by simp)).trans (ab (gR (wi.alloc (I #[O S x,O S y] 89))) (j:=1) rfl))|(at_builtin;refine al _ rfl (.tmp 59) (.tmp 61) rfl f (K A2 M.length ao) M [(x,y)] (jb4 w1.heap.size 0) 1 rfl rfl ?ho ?hr (fun h=>by cases h) aL.out ?hs ?_));case ho=>exact (d.gr ((n.trans g).alloc _)).own
     case hr=>exact ed rfl x y _
     case hs=>exact (d.gr ((n.trans g).alloc _)).bs
     intro v1 w2 D ad R;have F:Y (AM w w2 w.heap.size f a b (jb4 bb ba) B ca cb v1 (M++[(x,y)])):=d.append ((n.trans g).alloc _) D ad (by simp) R;go_wp2;go_roundw;exact ⟨v1,k+1,rfl,by omega,by go_num,by rw[u.out];exact F.out⟩;simp[intOf];omega
    ·have u:Y (bU b x (a.l.take (k+1)) m=M):=(by show _=_;rw[r,if_neg (by rw[hh];simp)]);go_wp2_with (go_at_call 67;refine (nv hh an.out (C.gr n)).mono ?_;rintro e w1 ⟨rfl,g⟩);go_roundw;exact ⟨_,k+1,rfl,by omega,by go_num,by rw[u.out];exact d.gr (n.trans g)⟩;simp[intOf];omega
   ·have u:Y (bU b node (a.l.take (k+1)) m=M):=(by show _=_;rw[r,if_neg (fun h=>ak h.1)]);have cc:(x==node)=false:=by simpa using ak
    go_wp2;go_roundw;exact ⟨_,k+1,rfl,by omega,by go_num,by rw[u.out];exact d.gr n⟩;simp[intOf];omega
  ·have a2:¬(k:Int)<(a.l.length:Int):=(by omega);have a6:a.l.take k=a.l:=List.take_of_length_le (by omega);have a1:Y (eX a b node l=M):=by have h1:=HM.out;rw[a6] at h1;exact a8.out.trans h1
   go_wp2;go_ret;rw[a1.out];exact ⟨_,rfl,d.own,d.bel⟩


def bw (a b:Ctx):Nat->List (Int×Int)
 | 0=>[]
 | k+1=>eX a b k (bw a b k)
theorem jp (a b:Ctx) (k:Nat):(bw a b k).length<=(bw a b (k+1)).length:=wh a b k (bw a b k)
theorem tz (a b:Ctx) (k:Nat):(bw a b (k+1)).length<=max (bw a b k).length 401+a.l.length:=tA a b k (bw a b k)

def eB (a b:Ctx):Int:=if 400<(bw a b 4).length then 2 else 0
def fv (a b:Ctx):List (Int×Int):=if 400<(bw a b 4).length then [] else bw a b 4

theorem rv {a b:Ctx} {k:Nat} (m:k<=4) (h:400<(bw a b k).length):eB a b=2/\fv a b=[]:=by
 have d:400<(bw a b 4).length:=by
  have f:(bw a b 0).length<=(bw a b 1).length:=jp a b 0;have g:(bw a b 1).length<=(bw a b 2).length:=jp a b 1;have j:(bw a b 2).length<=(bw a b 3).length:=jp a b 2;have l:(bw a b 3).length<=(bw a b 4).length:=jp a b 3;have c:k=0\/k=1\/k=2\/k=3\/k=4:=by omega
  rcases c with rfl|rfl|rfl|rfl|rfl<;>omega
 exact ⟨by unfold eB;rw[if_pos d],by unfold fv;rw[if_pos d]⟩



end Go.Proofs.YtbkjgjjpnfhkhaaGreatDoor
