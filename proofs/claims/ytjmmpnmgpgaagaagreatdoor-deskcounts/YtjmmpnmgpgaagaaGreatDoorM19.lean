import Derived.Test.YtjmmpnmgpgaagaaGreatDoorM18
import Derived.Test.YtjmmpnmgpgaagaaGreatDoorM15
set_option maxRecDepth 100000
set_option maxHeartbeats 8000000
open Go renaming World → J, Addr → X, Value → U
open Go.IntKind renaming i64 → I
open Go.Obj renaming cells → Z
open Go.RowKit renaming Hid → H
open Go.Value renaming int → S, slice → Y, agg → K
namespace Go.Proofs.YtjmmpnmgpgaagaaGreatDoor
open Go.RowKit Go.Sort

theorem pG {c:Ctx} {A:Option X} {cap:Nat} {x y:Int} {r:Bool} {w:J} (h:ai c (x,y)=r) (f:c.l.length<=maxLen) (g:Row w A c.l) :
  Calls Tryz.prog 118 #[K (ja7 c A cap),K #[S I x,S I y]] w fun e w'=>e= .returned (.bool r)/\Gr w w':=by
 rw[<-h];exact kE c A cap (x,y) w f g

theorem rt (a b:Ctx) (A B:Option X) (ca cb:Nat) (v:U) (l:List (Int×Int)) (node:Int) (base:Nat) (w:J) (h0:0<=node) (h4:node<4) (cc:bv a=true) (cd:bv b=true) (cm:a.l.length<=400) (cn:b.l.length<=400) (cs:l.length<=2000)
  (bG:Row w A a.l) (bN:Row w B b.l) (b6:∀x,A=some x->a.l≠[]->x.block<base) (b7:∀x,B=some x->b.l≠[]->x.block<base) (bh:Own w base v l) (bo:base<=w.heap.size) :
  Calls Tryz.prog 254 #[v,K (ja7 a A ca),K (ja7 b B cb),S I node] w fun e w'=>∃v',e= .returned v'/\Own w' base v' (ed a b node l)/\Below base w w':=by
 have cp:=cE cc node h0 h4
 have cr:=cE cd node h0 h4
 have ba:Gr w ((w.alloc (Z (ja7 a A ca) 53)).alloc (Z (ja7 b B cb) 53)):=((gR w).alloc _).alloc _
 have a3:AM w ((w.alloc (Z (ja7 a A ca) 53)).alloc (Z (ja7 b B cb) 53)) w.heap.size base a b A B ca cb v l:=⟨bh.gr ba,fun k hk=>by have:=(bh.lt k hk).2;omega,(CtxAt.new 53 bG rfl).gr ((gR _).alloc _),CtxAt.new 53 (bN.gr ((gR _).alloc _)) (by simp),ba.below.mono bo,nT bo ba.size,b6,b7⟩
 have a0:H (b.l.length<=maxLen):=by show _<=_;unfold maxLen;omega
 have k0:=a3.ca.k4
 have cf:=aa (j9 (gR ((w.alloc (Z (ja7 a A ca) 53)).alloc (Z (ja7 b B cb) 53)))) (jh (c:=a) h0 h4)
 have cj:=l9 (gR ((w.alloc (Z (ja7 a A ca) 53)).alloc (Z (ja7 b B cb) 53))) (jh (c:=b) h0 h4)
 clear bh bG bN
 obtain ⟨A0,ck,rfl,_,_,_⟩:=a3.own.row
 go_enter Tryz.func254,Tryz.ntmps254
 go_wp2
 clear k0 cf cj
 go_loopw [0,9] (fun v s wr=>∃(V:U) (m:List (Int×Int)) (t:Int),v=V/\s= S I t/\clk b node+1<=t/\t<=1099511627777/\m.length<=2001/\AM w wr w.heap.size base a b A B ca cb V m/\H (ch b node (clk a node) (clk a node+1-t).toNat m t=ch b node (clk a node) (clk a node-clk b node).toNat l (clk b node+1))) (fun _ s _=>(clk a node+1-intOf s).toNat)
 case atStart=>exact ⟨_,l,clk b node+1,rfl,rfl,Int.le_refl _,by omega,by omega,a3,by show ch _ _ _ _ _ _=_;congr 1;omega⟩
 case round =>
  obtain ⟨V,m,t,rfl,rfl,cv,cA,b9,f,a1⟩:=hrel
  obtain ⟨A1,bn,rfl,cl,_,_⟩:=f.own.row
  have kc:=f.ca.k4
  have ka:wr.cell? ⟨w.heap.size,node.toNat,none⟩=some (S I (clk a node)):=D3 f.ca h0 h4
  by_cases hs:t<=clk a node
  ·by_cases bp:m.length<=400
   ·have bt:(m.length:Int)<=400:=by omega
    have g:=uj (b:=b) (node:=node) hs bp
    have r:Gr wr (wr.alloc (Z #[S I node,S I t] 185)):=(gR _).alloc _
    obtain ⟨b0,b1,b2,b3,b4,ap,u⟩:=(show CtxAt _ _ _ _ _ from f.cb)
    cases hh:ai b (node,t)
    ·rw[hh] at g
     simp only[Bool.false_eq_true,if_false] at g
     have be:=ja1 (g.symm.trans a1.out)
     clear g
     have a4:H ((m.length+[(node,t)].length)*16<=140737488355328):=by show _<=_;simp only[List.length_cons,List.length_nil];omega
     go_wp2_with (first|(go_at_call 118;refine (pG hh a0.out (u.gr r)).mono ?_;rintro e w1 ⟨rfl,n⟩;have a5:=(n.cell (p:=⟨wr.heap.size,0,none⟩) (by simp)).trans (aa (gR (wr.alloc (Z #[S I node,S I t] 185))) (j:=0) rfl);have a6:=(n.cell (p:=⟨wr.heap.size,1,none⟩) (by simp)).trans (aa (gR (wr.alloc (Z #[S I node,S I t] 185))) (j:=1) rfl))|(at_builtin;refine aF _ rfl (.tmp 38) (.tmp 40) rfl base (Y A1 m.length bn) m [(node,t)] (some ⟨w1.heap.size,0,none⟩) 1 rfl rfl ?ho ?hr (fun h=>by cases h) a4.out ?hs ?_))
     case ho=>exact (f.gr ((r.trans n).alloc _)).own
     case hr=>exact iZ rfl node t _
     case hs=>exact (f.gr ((r.trans n).alloc _)).bs
     intro v1 w2 C L F
     have an:H (AM w w2 w.heap.size base a b A B ca cb v1 (m++[(node,t)])):=f.append ((r.trans n).alloc _) C L (by simp) F
     clear C L F a5 a6 f
     go_wp2
     go_roundw
     case rel=>exact ⟨v1,m++[(node,t)],t+1,rfl,by go_num,by omega,by omega,by simp only[List.length_append,List.length_cons,List.length_nil];omega,an.out,be⟩
     case measure=>simp[intOf];omega
    ·rw[hh] at g
     simp only[if_true] at g
     have be:=ja1 (g.symm.trans a1.out)
     clear g
     go_wp2_with (go_at_call 118;refine (pG hh a0.out (u.gr r)).mono ?_;rintro e w1 ⟨rfl,n⟩)
     go_roundw
     case rel=>exact ⟨_,m,t+1,rfl,by go_num,by omega,by omega,b9,f.gr (r.trans n),be⟩
     case measure=>simp[intOf];omega
   ·have bt:¬(m.length:Int)<=400:=by omega
    have R:¬(t<=clk a node/\m.length<=400):=fun h=>bp h.2
    have bd:H (ed a b node l=cz b node a.l m):=by
     show ed a b node l=_
     unfold ed
     rw[<-a1.out,nF R]
    clear a1 R
    obtain ⟨b0,b1,b2,b3,b4,ap,u⟩:=(show CtxAt _ _ _ _ _ from f.cb)
    go_wp2
    clear kc ka b0 b1 b2 b3 b4 ap u
    go_loopw [0,45] (fun v i wi=>∃(V:U) (k:Nat),v=V/\k<=a.l.length/\i= S I k/\AM w wi w.heap.size base a b A B ca cb V (cz b node (a.l.take k) m)) (fun _ i _=>a.l.length-(intOf i).toNat)
    case atStart=>exact ⟨_,0,rfl,nZ _,rfl,f⟩
    case round =>
     clear f
     rename J=>wi
     obtain ⟨V,k,rfl,hk,rfl,f⟩:=hrel
     have bc:=lB b node (a.l.take k) m
     have bC:(a.l.take k).length<=k:=List.length_take_le _ _
     obtain ⟨M,hM⟩:∃M,cz b node (a.l.take k) m=M:=⟨_,rfl⟩
     rw[hM] at f bc
     have HM:=ja1 hM
     clear hM
     obtain ⟨A2,a2,rfl,b5,_,_⟩:=f.own.row
     by_cases ad:k<a.l.length
     ·have a9:(k:Int)<(a.l.length:Int):=by omega
      obtain ⟨bb,bl,rfl,b8,ao⟩:=f.ca.row.at ad
      obtain ⟨x,y,hx⟩:∃x y,a.l[k]=(x,y):=⟨_,_,rfl⟩
      have e0:=(ao k ad).1
      have e1:=(ao k ad).2
      rw[hx] at e0 e1
      have g:=nG (b:=b) (node:=node) (l:=m) ad hx
      rw[HM.out] at g
      simp only at g
      clear ao hx
      have r:Gr wi (wi.alloc (Z #[S I x,S I y] 185)):=(gR _).alloc _
      obtain ⟨b0,b1,b2,b3,b4,ap,u⟩:=(show CtxAt _ _ _ _ _ from f.cb)
      by_cases ah:x=node
      ·subst ah
       cases hh:ai b (x,y)
       ·have E:H (cz b x (a.l.take (k+1)) m=M++[(x,y)]):=by show _=_;rw[g,if_pos ⟨rfl,hh⟩]
        have a4:H ((M.length+[(x,y)].length)*16<=140737488355328):=by show _<=_;simp only[List.length_cons,List.length_nil];omega
        clear g
        go_wp2_with (first|(go_at_call 118;refine (pG hh a0.out (u.gr r)).mono ?_;rintro e w1 ⟨rfl,n⟩;have a5:=(n.cell (p:=⟨wi.heap.size,0,none⟩) (by simp)).trans (aa (gR (wi.alloc (Z #[S I x,S I y] 185))) (j:=0) rfl);have a6:=(n.cell (p:=⟨wi.heap.size,1,none⟩) (by simp)).trans (aa (gR (wi.alloc (Z #[S I x,S I y] 185))) (j:=1) rfl))|(at_builtin;refine aF _ rfl (.tmp 59) (.tmp 61) rfl base (Y A2 M.length a2) M [(x,y)] (some ⟨w1.heap.size,0,none⟩) 1 rfl rfl ?ho ?hr (fun h=>by cases h) a4.out ?hs ?_))
        case ho=>exact (f.gr ((r.trans n).alloc _)).own
        case hr=>exact iZ rfl x y _
        case hs=>exact (f.gr ((r.trans n).alloc _)).bs
        intro v1 w2 C L F
        have an:H (AM w w2 w.heap.size base a b (some ⟨bb,bl,none⟩) B ca cb v1 (M++[(x,y)])):=f.append ((r.trans n).alloc _) C L (by simp) F
        clear C L F a5 a6 f
        go_wp2
        go_roundw
        case rel=>exact ⟨v1,k+1,rfl,by omega,by go_num,by rw[E.out];exact an.out⟩
        case measure=>simp[intOf];omega
       ·have E:H (cz b x (a.l.take (k+1)) m=M):=by show _=_;rw[g,if_neg (by rw[hh];simp)]
        clear g
        go_wp2_with (go_at_call 118;refine (pG hh a0.out (u.gr r)).mono ?_;rintro e w1 ⟨rfl,n⟩)
        go_roundw
        case rel=>exact ⟨_,k+1,rfl,by omega,by go_num,by rw[E.out];exact f.gr (r.trans n)⟩
        case measure=>simp[intOf];omega
      ·have E:H (cz b node (a.l.take (k+1)) m=M):=by show _=_;rw[g,if_neg (fun h=>ah h.1)]
       have ce:(x==node)=false:=by simpa using ah
       clear g ah
       go_wp2
       go_roundw
       case rel=>exact ⟨_,k+1,rfl,by omega,by go_num,by rw[E.out];exact f.gr r⟩
       case measure=>simp[intOf];omega
     ·have a9:¬(k:Int)<(a.l.length:Int):=by omega
      have a8:a.l.take k=a.l:=List.take_of_length_le (by omega)
      have a7:H (ed a b node l=M):=by
       have h1:=HM.out
       rw[a8] at h1
       exact bd.out.trans h1
      clear a8 HM
      go_wp2
      go_ret
      rw[a7.out]
      exact ⟨_,rfl,f.own,f.bel⟩
  ·have cu:decide (t<=clk a node)=false:=by simpa using hs
   have R:¬(t<=clk a node/\m.length<=400):=fun h=>hs h.1
   have bd:H (ed a b node l=cz b node a.l m):=by
    show ed a b node l=_
    unfold ed
    rw[<-a1.out,nF R]
   clear a1 R
   obtain ⟨b0,b1,b2,b3,b4,ap,u⟩:=(show CtxAt _ _ _ _ _ from f.cb)
   go_wp2
   clear kc ka b0 b1 b2 b3 b4 ap u
   go_loopw [0,45] (fun v i wi=>∃(V:U) (k:Nat),v=V/\k<=a.l.length/\i= S I k/\AM w wi w.heap.size base a b A B ca cb V (cz b node (a.l.take k) m)) (fun _ i _=>a.l.length-(intOf i).toNat)
   case atStart=>exact ⟨_,0,rfl,nZ _,rfl,f⟩
   case round =>
    clear f
    rename J=>wi
    obtain ⟨V,k,rfl,hk,rfl,f⟩:=hrel
    have bc:=lB b node (a.l.take k) m
    have bC:(a.l.take k).length<=k:=List.length_take_le _ _
    obtain ⟨M,hM⟩:∃M,cz b node (a.l.take k) m=M:=⟨_,rfl⟩
    rw[hM] at f bc
    have HM:=ja1 hM
    clear hM
    obtain ⟨A2,a2,rfl,b5,_,_⟩:=f.own.row
    by_cases ad:k<a.l.length
    ·have a9:(k:Int)<(a.l.length:Int):=by omega
     obtain ⟨bb,bl,rfl,b8,ao⟩:=f.ca.row.at ad
     obtain ⟨x,y,hx⟩:∃x y,a.l[k]=(x,y):=⟨_,_,rfl⟩
     have e0:=(ao k ad).1
     have e1:=(ao k ad).2
     rw[hx] at e0 e1
     have g:=nG (b:=b) (node:=node) (l:=m) ad hx
     rw[HM.out] at g
     simp only at g
     clear ao hx
     have r:Gr wi (wi.alloc (Z #[S I x,S I y] 185)):=(gR _).alloc _
     obtain ⟨b0,b1,b2,b3,b4,ap,u⟩:=(show CtxAt _ _ _ _ _ from f.cb)
     by_cases ah:x=node
     ·subst ah
      cases hh:ai b (x,y)
      ·have E:H (cz b x (a.l.take (k+1)) m=M++[(x,y)]):=by show _=_;rw[g,if_pos ⟨rfl,hh⟩]
       have a4:H ((M.length+[(x,y)].length)*16<=140737488355328):=by show _<=_;simp only[List.length_cons,List.length_nil];omega
       clear g
       go_wp2_with (first|(go_at_call 118;refine (pG hh a0.out (u.gr r)).mono ?_;rintro e w1 ⟨rfl,n⟩;have a5:=(n.cell (p:=⟨wi.heap.size,0,none⟩) (by simp)).trans (aa (gR (wi.alloc (Z #[S I x,S I y] 185))) (j:=0) rfl);have a6:=(n.cell (p:=⟨wi.heap.size,1,none⟩) (by simp)).trans (aa (gR (wi.alloc (Z #[S I x,S I y] 185))) (j:=1) rfl))|(at_builtin;refine aF _ rfl (.tmp 59) (.tmp 61) rfl base (Y A2 M.length a2) M [(x,y)] (some ⟨w1.heap.size,0,none⟩) 1 rfl rfl ?ho ?hr (fun h=>by cases h) a4.out ?hs ?_))
       case ho=>exact (f.gr ((r.trans n).alloc _)).own
       case hr=>exact iZ rfl x y _
       case hs=>exact (f.gr ((r.trans n).alloc _)).bs
       intro v1 w2 C L F
       have an:H (AM w w2 w.heap.size base a b (some ⟨bb,bl,none⟩) B ca cb v1 (M++[(x,y)])):=f.append ((r.trans n).alloc _) C L (by simp) F
       clear C L F a5 a6 f
       go_wp2
       go_roundw
       case rel=>exact ⟨v1,k+1,rfl,by omega,by go_num,by rw[E.out];exact an.out⟩
       case measure=>simp[intOf];omega
      ·have E:H (cz b x (a.l.take (k+1)) m=M):=by show _=_;rw[g,if_neg (by rw[hh];simp)]
       clear g
       go_wp2_with (go_at_call 118;refine (pG hh a0.out (u.gr r)).mono ?_;rintro e w1 ⟨rfl,n⟩)
       go_roundw
       case rel=>exact ⟨_,k+1,rfl,by omega,by go_num,by rw[E.out];exact f.gr (r.trans n)⟩
       case measure=>simp[intOf];omega
     ·have E:H (cz b node (a.l.take (k+1)) m=M):=by show _=_;rw[g,if_neg (fun h=>ah h.1)]
      have ce:(x==node)=false:=by simpa using ah
      clear g ah
      go_wp2
      go_roundw
      case rel=>exact ⟨_,k+1,rfl,by omega,by go_num,by rw[E.out];exact f.gr r⟩
      case measure=>simp[intOf];omega
    ·have a9:¬(k:Int)<(a.l.length:Int):=by omega
     have a8:a.l.take k=a.l:=List.take_of_length_le (by omega)
     have a7:H (ed a b node l=M):=by
      have h1:=HM.out
      rw[a8] at h1
      exact bd.out.trans h1
     clear a8 HM
     go_wp2
     go_ret
     rw[a7.out]
     exact ⟨_,rfl,f.own,f.bel⟩


def bm (a b:Ctx):Nat->List (Int×Int)
 | 0=>[]
 | k+1=>ed a b k (bm a b k)
theorem iR (a b:Ctx) (k:Nat):(bm a b k).length<=(bm a b (k+1)).length:=zZ a b k (bm a b k)
theorem xt (a b:Ctx) (k:Nat):(bm a b (k+1)).length<=max (bm a b k).length 401+a.l.length:=xv a b k (bm a b k)

def gB (a b:Ctx):Int:=if 400<(bm a b 4).length then 2 else 0
def iz (a b:Ctx):List (Int×Int):=if 400<(bm a b 4).length then [] else bm a b 4

theorem un {a b:Ctx} {k:Nat} (C:k<=4) (h:400<(bm a b k).length):gB a b=2/\iz a b=[]:=by
 have g:400<(bm a b 4).length:=by
  have j:(bm a b 0).length<=(bm a b 1).length:=iR a b 0
  have n:(bm a b 1).length<=(bm a b 2).length:=iR a b 1
  have r:(bm a b 2).length<=(bm a b 3).length:=iR a b 2
  have u:(bm a b 3).length<=(bm a b 4).length:=iR a b 3
  have f:k=0\/k=1\/k=2\/k=3\/k=4:=by omega
  rcases f with rfl|rfl|rfl|rfl|rfl<;>omega
 exact ⟨by unfold gB;rw[if_pos g],by unfold iz;rw[if_pos g]⟩




theorem CtxAt.G {w:J} {B:Nat} {c:Ctx} {A:Option X} {cap:Nat} (h:CtxAt w B c A cap):(∀n f,(grow (w.drewN n) f).cell? ⟨B,0,none⟩=some (S I c.c0))/\(∀n f,(grow (w.drewN n) f).cell? ⟨B,1,none⟩=some (S I c.c1))/\(∀n f,(grow (w.drewN n) f).cell? ⟨B,2,none⟩=some (S I c.c2))/\(∀n f,(grow (w.drewN n) f).cell? ⟨B,3,none⟩=some (S I c.c3))/\(∀n f,(grow (w.drewN n) f).cell? ⟨B,4,none⟩=some (Y A c.l.length cap)) :=
 ⟨cell_grown (a:=⟨B,0,none⟩) h.lt h.k0,cell_grown (a:=⟨B,1,none⟩) h.lt h.k1,cell_grown (a:=⟨B,2,none⟩) h.lt h.k2,cell_grown (a:=⟨B,3,none⟩) h.lt h.k3,cell_grown (a:=⟨B,4,none⟩) h.lt h.k4⟩
theorem DotAt.G {w:J} {B:Nat} {x y:Int} (h:DotAt w B x y):(∀n f,(grow (w.drewN n) f).cell? ⟨B,0,none⟩=some (S I x))/\(∀n f,(grow (w.drewN n) f).cell? ⟨B,1,none⟩=some (S I y)) :=
 ⟨cell_grown (a:=⟨B,0,none⟩) h.lt h.k0,cell_grown (a:=⟨B,1,none⟩) h.lt h.k1⟩


theorem lw {c:Ctx} (h:Can c) {x:Int×Int} (f:ai c x=true):am x=true:=by
 rcases (aG c x).1 f with hm|hm
 ·exact h.right x hm
 ·have:=cE h.ck x.1 hm.1 (by omega)
  simp[am,inB]
  omega

theorem m7 (b:Ctx) (node top:Int):∀(n:Nat) (l:List (Int×Int)) (s:Int) (x:Int×Int),x∈ch b node top n l s->x∈l\/(x.1=node/\s<=x.2/\x.2<=top/\ai b x=false):=by
 intro n
 induction n with
 | zero=>intro l s x h;exact oL h
 | succ n ih =>
  intro l s x h
  by_cases f:s<=top/\l.length<=400
  ·simp only[ch,if_pos f] at h
   rcases ih _ _ x h with h|h
   ·by_cases g:ai b (node,s)=true
    ·rw[if_pos g] at h;exact oL h
    ·rw[if_neg g] at h
     rcases List.mem_append.1 h with h|h
     ·exact oL h
     ·obtain rfl:x=(node,s):=by simpa using h
      exact oR ⟨rfl,Int.le_refl _,f.1,by simpa using g⟩
   ·exact oR ⟨h.1,by omega,h.2.2.1,h.2.2.2⟩
  ·simp only[ch,if_neg f] at h;exact oL h

theorem xp (b:Ctx) (node top:Int):∀(n:Nat) (l:List (Int×Int)) (s:Int),(top+1-s).toNat<=n->(ch b node top n l s).length<=400->∀x:Int×Int,x∈l\/(x.1=node/\s<=x.2/\x.2<=top/\ai b x=false)->x∈ch b node top n l s:=by
 intro n
 induction n with
 | zero =>
  intro l s k _ x h
  rcases h with h|h
  ·exact h
  ·omega
 | succ n ih =>
  intro l s k f x h
  by_cases g:s<=top/\l.length<=400
  ·simp only[ch,if_pos g] at f ⊢
   refine ih _ _ (by omega) f x ?_
   rcases h with h|h
   ·left
    by_cases j:ai b (node,s)=true
    ·rw[if_pos j];exact h
    ·rw[if_neg j];exact List.mem_append_left _ h
   ·by_cases r:x.2=s
    ·left
     obtain rfl:x=(node,s):=Prod.ext h.1 r
     rw[h.2.2.2]
     simp
    ·exact oR ⟨h.1,by omega,h.2.2.1,h.2.2.2⟩
  ·simp only[ch,if_neg g] at f ⊢
   rcases h with h|h
   ·exact h
   ·omega

theorem pP (b:Ctx) (node:Int) (f:List (Int×Int)):∀(l:List (Int×Int)) (x:Int×Int),x∈cz b node f l↔x∈l\/(x∈f/\x.1=node/\ai b x=false):=by
 induction f with
 | nil=>intro l x;simp[cz]
 | cons y f ih =>
  intro l x
  show x∈cz b node f (if y.1=node/\ai b y=false then l++[y] else l)↔_
  rw[ih]
  by_cases g:y.1=node/\ai b y=false
  ·rw[if_pos g,List.mem_append,List.mem_singleton,List.mem_cons]
   constructor
   ·rintro ((h|h)|h)
    ·exact oL h
    ·exact oR ⟨oL h,by rw[h];exact g⟩
    ·exact oR ⟨oR h.1,h.2⟩
   ·rintro (h|⟨h|h,k⟩)
    ·exact oL (oL h)
    ·exact oL (oR h)
    ·exact oR ⟨h,k⟩
  ·rw[if_neg g,List.mem_cons]
   constructor
   ·rintro (h|h)
    ·exact oL h
    ·exact oR ⟨oR h.1,h.2⟩
   ·rintro (h|⟨h|h,k⟩)
    ·exact oL h
    ·subst h;exact absurd k g
    ·exact oR ⟨h,k⟩

theorem xu {a b:Ctx} {node:Int} {l:List (Int×Int)} (j:(ed a b node l).length<=400) {x:Int×Int} (h:x∈l\/(x.1=node/\ai a x=true/\ai b x=false)):x∈ed a b node l:=by
 have g:(ch b node (clk a node) (clk a node-clk b node).toNat l (clk b node+1)).length<=400:=nT (sy b node a.l _) j
 have f:=xp b node (clk a node) _ l (clk b node+1) (by omega) g
 refine (pP b node a.l _ x).2 ?_
 rcases h with h|⟨hn,ha,hb⟩
 ·exact oL (f x (oL h))
 ·rcases (aG a x).1 ha with hm|hm
  ·exact oR ⟨hm,hn,hb⟩
  ·refine oL (f x (oR ⟨hn,?_,by rw[<-hn];exact hm.2.2.2,hb⟩))
   rcases Int.lt_or_le (clk b node) x.2 with hlt|hle
   ·omega
   ·exact absurd ((aG b x).2 (oR ⟨hm.1,hm.2.1,hm.2.2.1,by rw[hn];exact hle⟩)) (by rw[hb];simp)

theorem xr {a b:Ctx} {x:Int×Int} (n:0<=x.1) (g:ai a x=true) (j:ai b x=false):∀k:Nat,(bm a b k).length<=400->x.1<k->x∈bm a b k:=by
 intro k
 induction k with
 | zero=>intro _ h;omega
 | succ k ih =>
  intro f r
  refine xu f ?_
  by_cases e:x.1=(k:Int)
  ·exact oR ⟨e,g,j⟩
  ·exact oL (ih (nT (iR a b k) f) (by omega))

theorem Co (c:Ctx) (n:Int):∀(l:List (Int×Int)) (x:Int×Int),x∈l->x.1=n->x.2<=fc c n l:=by
 have f:∀(l:List (Int×Int)) (m:Int),m<=l.foldl (fun m x=>if x.1=n then max m x.2 else m) m:=by
  intro l
  induction l with
  | nil=>intro m;simp
  | cons x l ih =>
   intro m
   simp only[List.foldl_cons]
   refine Int.le_trans ?_ (ih (if x.1=n then max m x.2 else m))
   split<;>omega
 intro l x j g
 unfold fc
 suffices h:∀(l:List (Int×Int)) (m:Int),x∈l->x.2<=l.foldl (fun m x=>if x.1=n then max m x.2 else m) m from h l _ j
 intro l
 induction l with
 | nil=>intro m h;cases h
 | cons y l ih =>
  intro m h
  simp only[List.foldl_cons]
  rcases List.mem_cons.1 h with rfl|h
  ·refine Int.le_trans ?_ (f l _)
   rw[if_pos g];omega
  ·exact ih _ h

theorem Aa {c:Ctx} {n:Int} (h:(bi c n).2=0):(bi c n).1.1=n/\ai c (bi c n).1=false:=by
 unfold bi at h ⊢
 by_cases g:aN c=0
 ·rw[if_pos g] at h ⊢
  cases f:inB n 0 3
  ·rw[f] at h;cases h
  ·rw[f] at h
   rw[if_pos rfl] at h ⊢
   change m8 c n=0 at h
   show (kL c n).1=n/\ai c (kL c n)=false
   unfold m8 at h
   by_cases j:1099511627776<=fc c n c.l
   ·rw[if_pos j] at h;cases h
   ·unfold kL
    rw[if_neg j]
    refine ⟨rfl,?_⟩
    cases r:ai c (n,fc c n c.l+1)
    ·rfl
    ·rcases (aG _ _).1 r with k|k
     ·have:fc c n c.l+1<=fc c n c.l:=Co c n c.l _ k rfl
      omega
     ·have u:fc c n c.l+1<=clk c n:=k.2.2.2
      have C:=vP c n c.l
      omega
 ·rw[if_neg g] at h;exact absurd h g


theorem Bu {a b:Ctx} (h:aM a b=0):aN a=0/\aN b=0:=mw (et h).2.2.1
theorem zJ {a b:Ctx} (h:aM a b=0):aM b a=0/\aK b a=aK a b:=by
 obtain ⟨g,j,_,n,r⟩:=et h
 have k:=Bu h
 have f:aM b a=0:=nu k.2 k.1 (by rw[nv j g];exact r)
 refine ⟨f,?_⟩
 rw[n,(et f).2.2.2.1,nv j g]
theorem dx {a b:Ctx} (h:aM a b=0):Can (aK a b)/\aN (aK a b)=0/\(aK a b).l.length<=400/\∀x,ai (aK a b) x=true↔ai a x=true\/ai b x=true:=by
 obtain ⟨f,g,_,k,j⟩:=et h
 rw[k]
 exact ⟨fv f g,jV (fv f g) j,j,eS f g⟩
theorem kI {a b:Ctx} (h:aM a b=0) (x:Int×Int):ai (aK a b) x=(ai a x || ai b x):=by
 rw[Bool.eq_iff_iff,(dx h).2.2.2 x,Bool.or_eq_true]
theorem tZ {a b c:Ctx} (h:aM a b=0) (f:aM (aK a b) c=0) (j:aM b c=0) (g:aM a (aK b c)=0):aK (aK a b) c=aK a (aK b c):=by
 refine tx (dx f).1 (dx g).1 fun x=> ?_
 rw[(dx f).2.2.2 x,(dx g).2.2.2 x,(dx h).2.2.2 x,(dx j).2.2.2 x,or_assoc]


theorem xl {l:List Cel} {d:Int×Int}:iF l d=true↔∃y∈l,y.1=d:=by
 unfold iF
 rw[List.any_eq_true]
 constructor
 ·rintro ⟨y,f,h⟩;exact ⟨y,f,by simpa using h⟩
 ·rintro ⟨y,f,h⟩;exact ⟨y,f,by simpa using h⟩
theorem ku {l m:List Cel} (f:Asc l) (g:Asc m) (h:∀x,x∈l↔x∈m):l=m:=by
 unfold Asc at f g
 have r:l.Nodup:=List.Pairwise.imp (fun {a b} (h:br a.1 b.1=true) (e:a=b)=>jg h (by rw[e])) f
 have u:m.Nodup:=List.Pairwise.imp (fun {a b} (h:br a.1 b.1=true) (e:a=b)=>jg h (by rw[e])) g
 have n:l.Perm m:=(List.perm_ext_iff_of_nodup r u).2 h
 refine List.Perm.eq_of_pairwise (le:=fun x y=>br x.1 y.1=true) ?_ f g n
 intro x y _ _ j k
 have:=gL j k
 rw[rx] at this
 cases this
theorem noclash {a b:Tab}:dU a b=false↔∀x∈a.e,∀y∈b.e,y.1=x.1->y=x:=by
 unfold dU
 rw[List.any_eq_false]
 constructor
 ·intro h x k y n e
  cases g:jF y x
  ·refine absurd ?_ (h x k)
   unfold clP
   rw[List.any_eq_true]
   exact ⟨y,n,by simp[e,g]⟩
  ·exact pq.1 g
 ·intro h x k f
  unfold clP at f
  rw[List.any_eq_true] at f
  obtain ⟨y,n,j⟩:=f
  simp only[Bool.and_eq_true,decide_eq_true_eq,Bool.not_eq_true'] at j
  have r:=h x k y n j.1
  have g:=j.2
  rw[r,pq.2 rfl] at g
  cases g
theorem AY {t:Tab} (h:aw t=0):∀x∈t.e,∀y∈t.e,y.1=x.1->y=x:=fun x f y g e=>(jZ (jf (eo h))) y g x f e
theorem dF {a b:Tab} (n:dU a b=false) {x:Cel}:x∈mrg a b↔(x∈a.e/\x∈b.e)\/(x∈a.e/\ai b.c x.1=false)\/(x∈b.e/\ai a.c x.1=false):=by
 unfold mrg
 rw[(jv _).mem_iff]
 unfold both
 rw[List.mem_append,List.mem_filter,List.mem_filter]
 unfold fZ fJ
 simp only[Bool.or_eq_true,Bool.not_eq_true']
 have j:x∈a.e->(iF b.e x.1=true↔x∈b.e):=by
  intro r
  rw[xl]
  constructor
  ·rintro ⟨y,k,e⟩
   rw[<-noclash.1 n x r y k e];exact k
  ·intro h;exact ⟨x,h,rfl⟩
 constructor
 ·rintro (⟨f,g|g⟩|f)
  ·exact oL ⟨f,(j f).1 g⟩
  ·exact oR (oL ⟨f,g⟩)
  ·exact oR (oR f)
 ·rintro (⟨f,g⟩|⟨f,g⟩|f)
  ·exact oL ⟨f,oL ((j f).2 g)⟩
  ·exact oL ⟨f,oR g⟩
  ·exact oR f
theorem jp {a b:Tab} (f:aw a=0) (g:aw b=0) (h:dU a b=false) (j:aM a.c b.c=0) (k:(mrg a b).length<=400):au a b=0:=by
 unfold au
 rw[f,g,h,j]
 simp
 omega
theorem aP {a b:Tab} (h:au a b=0):ag a b=⟨aK a.c b.c,mrg a b⟩:=by unfold ag;rw[if_pos h]
theorem kC {c:Ctx} {e:List Cel} (r:aN c=0) (u:e.length<=400) (n:Asc e) (h:∀x∈e,ai c x.1=true/\aX x.2.1 x.2.2.1 x.2.2.2=true):aw ⟨c,e⟩=0:=by
 refine vn r u fun k g=> ?_
 have f:k<e.length:=g
 cases k with
 | zero =>
  rw[ie (t:=⟨c,e⟩) g rfl]
  have:=h e[0] (gM f)
  simp[this.1,this.2]
 | succ m =>
  rw[eT (t:=⟨c,e⟩) g rfl rfl]
  have:=h e[m+1] (gM f)
  have j:=(List.pairwise_iff_getElem.1 n) m (m+1) (by omega) f (by omega)
  simp[this.1,this.2,j]
theorem lA {a b:Tab} (f:dU a b=false) {x:Cel} (h:x∈mrg a b):x∈a.e\/x∈b.e:=by
 rcases (dF f).1 h with h|h|h
 ·exact oL h.1
 ·exact oL h.1
 ·exact oR h.1
theorem dv {a b:Tab} (h:au a b=0):aw (ag a b)=0:=by
 obtain ⟨g,j,n,k,r⟩:=bQ h
 rw[aP h]
 refine kC (dx k).2.1 r (fU g j) fun x f=> ?_
 rw[kI k]
 rcases lA n f with f|f
 ·exact ⟨by rw[bV g f];rfl,eO g f⟩
 ·exact ⟨by rw[bV j f];simp,eO j f⟩
theorem tA {a b:Tab} (h:dU a b=false):dU b a=false:=noclash.2 fun x f y g e=>(noclash.1 h y g x f e.symm).symm
theorem xo {a b:Tab} (h:au a b=0):au b a=0/\ag b a=ag a b:=by
 obtain ⟨g,j,C,L,R⟩:=bQ h
 have f:=tA C
 have F:mrg b a=mrg a b:=by
  refine ku (fU j g) (fU g j) fun x=> ?_
  rw[dF f,dF C]
  constructor
  ·rintro (⟨n,r⟩|k|k)
   ·exact oL ⟨r,n⟩
   ·exact oR (oR k)
   ·exact oR (oL k)
  ·rintro (⟨n,r⟩|k|k)
   ·exact oL ⟨r,n⟩
   ·exact oR (oR k)
   ·exact oR (oL k)
 have E:=zJ L
 have u:au b a=0:=jp j g f E.1 (by rw[F];exact R)
 exact ⟨u,by rw[aP u,aP h,F,E.2]⟩
theorem vy {m a:Ctx} (j:aN m=0) (u:aN a=0) (h:∀x,ai a x=true->ai m x=true):aM m a=0/\aK m a=m:=by
 have f:=cX j
 have g:=cX u
 have r:eF m a=m:=tx (fv f g) f fun x=>by
  rw[eS f g]
  constructor
  ·rintro (k|k)
   ·exact k
   ·exact h x k
  ·exact oL
 have n:aM m a=0:=nu j u (by rw[r];exact (bx j).2.1)
 exact ⟨n,by rw[(et n).2.2.2.1,r]⟩
theorem sx {m a:Tab} (g:aw m=0) (n:aw a=0) (f:dU m a=false) (h:∀x,ai a.c x=true->ai m.c x=true) (C:∀x∈m.e,x∈a.e\/ai a.c x.1=false):au m a=0/\ag m a=m:=by
 have u:=vy (aj g).1 (aj n).1 h
 have j:mrg m a=m.e:=by
  refine ku (fU g n) (eo g) fun x=> ?_
  rw[dF f]
  constructor
  ·rintro (k|k|k)
   ·exact k.1
   ·exact k.1
   ·rw[h x.1 (bV n k.1)] at k
    cases k.2
  ·intro k
   rcases C x k with k2|k2
   ·exact oL ⟨k,k2⟩
   ·exact oR (oL ⟨k,k2⟩)
 have r:au m a=0:=jp g n f u.1 (by rw[j];exact (aj g).2.1)
 exact ⟨r,by rw[aP r,j,u.2]⟩
theorem sv {a b:Tab} (h:au a b=0):au (ag a b) a=0/\ag (ag a b) a=ag a b:=by
 obtain ⟨j,C,g,u,E⟩:=bQ h
 have n:=dv h
 rw[aP h] at n ⊢
 refine sx n j ?_ ?_ ?_
 ·refine noclash.2 fun x f y r e=> ?_
  rcases lA g (show x∈mrg a b from f) with k|k
  ·exact AY j x k y r e
  ·exact (noclash.1 g y r x k e.symm).symm
 ·intro x f
  show ai (aK a.c b.c) x=true
  rw[kI u,f];rfl
 ·intro x f
  rcases (dF g).1 (show x∈mrg a b from f) with k|k|k
  ·exact oL k.1
  ·exact oL k.1
  ·exact oR k.2
theorem ug {m:Tab} (f:aw m=0):au m m=0/\ag m m=m :=
 sx f f (noclash.2 fun x g y j e=>AY f x g y j e) (fun _ h=>h) (fun _ h=>oL h)
theorem sw {a b c:Tab} (f:au a b=0) (r:au (ag a b) c=0) (g:au b c=0) (u:au a (ag b c)=0):ag (ag a b) c=ag a (ag b c):=by
 obtain ⟨R,b1,k1,C,_⟩:=bQ f
 obtain ⟨a2,j,k2,E,_⟩:=bQ r
 obtain ⟨b3,c3,k3,F,_⟩:=bQ g
 obtain ⟨a4,h,k4,L,_⟩:=bQ u
 have hE:mrg (ag a b) c=mrg a (ag b c):=by
  refine ku (fU a2 j) (fU a4 h) fun x=> ?_
  rw[dF k2,dF k4]
  have k:x∈(ag a b).e↔(x∈a.e/\x∈b.e)\/(x∈a.e/\ai b.c x.1=false)\/(x∈b.e/\ai a.c x.1=false):=by rw[aP f];exact dF k1
  have n:x∈(ag b c).e↔(x∈b.e/\x∈c.e)\/(x∈b.e/\ai c.c x.1=false)\/(x∈c.e/\ai b.c x.1=false):=by rw[aP g];exact dF k3
  have s1:ai (ag a b).c x.1=(ai a.c x.1 || ai b.c x.1):=by rw[aP f];exact kI C _
  have s2:ai (ag b c).c x.1=(ai b.c x.1 || ai c.c x.1):=by rw[aP g];exact kI F _
  rw[k,n,s1,s2]
  have ia:x∈a.e->ai a.c x.1=true:=bV R
  have ib:x∈b.e->ai b.c x.1=true:=bV b1
  have ic:x∈c.e->ai c.c x.1=true:=bV j
  clear k n s1 s2
  generalize ai a.c x.1=sa at *
  generalize ai b.c x.1=sb at *
  generalize ai c.c x.1=sc at *
  by_cases pa:x∈a.e<;>by_cases pb:x∈b.e<;>by_cases pc:x∈c.e<;>cases sa<;>cases sb<;>cases sc<;>simp_all
 rw[aP r,aP u,hE]
 have:=tZ (a:=a.c) (b:=b.c) (c:=c.c) C (by rw[aP f] at E;exact E) F (by rw[aP g] at L;exact L)
 rw[show (ag a b).c=aK a.c b.c from by rw[aP f],show (ag b c).c=aK b.c c.c from by rw[aP g],this]


structure TbC (w:J) (N o:Nat) (t:Tab) (A:Option X) (ca:Nat) (D:Option X) (cd:Nat):Prop where
 k0:w.cell? ⟨N,o,none⟩=some (S I t.c.c0)
 k1:w.cell? ⟨N,o+1,none⟩=some (S I t.c.c1)
 k2:w.cell? ⟨N,o+2,none⟩=some (S I t.c.c2)
 k3:w.cell? ⟨N,o+3,none⟩=some (S I t.c.c3)
 k4:w.cell? ⟨N,o+4,none⟩=some (Y A t.c.l.length ca)
 k5:w.cell? ⟨N,o+5,none⟩=some (Y D t.e.length cd)
theorem TbC.keep {w w':J} {N o:Nat} {t:Tab} {A:Option X} {ca:Nat} {D:Option X} {g:Nat} (h:TbC w N o t A ca D g) (f:∀j,o<=j->j<o+6->w'.cell? ⟨N,j,none⟩=w.cell? ⟨N,j,none⟩):TbC w' N o t A ca D g :=
 ⟨(f o (by omega) (by omega)).trans h.k0,(f (o+1) (by omega) (by omega)).trans h.k1,(f (o+2) (by omega) (by omega)).trans h.k2,(f (o+3) (by omega) (by omega)).trans h.k3,(f (o+4) (by omega) (by omega)).trans h.k4,(f (o+5) (by omega) (by omega)).trans h.k5⟩
def TbN (w:J) (N o:Nat) (P:Nat->Prop) (t:Tab):Prop:=∃A ca D cd,TbC w N o t A ca D cd/\TbP P w t A ca D cd
theorem TbN.mono {w:J} {N o:Nat} {P Q:Nat->Prop} {t:Tab} (h:TbN w N o P t) (k:∀b,P b->Q b):TbN w N o Q t:=by
 obtain ⟨A,ca,D,f,g,j⟩:=h
 exact ⟨A,ca,D,f,g,j.mono k⟩
theorem TbN.keep {w w':J} {N o:Nat} {P:Nat->Prop} {t:Tab} (h:TbN w N o P t) (n:Agr P w w') (r:∀j,o<=j->j<o+6->w'.cell? ⟨N,j,none⟩=w.cell? ⟨N,j,none⟩):TbN w' N o P t:=by
 obtain ⟨A,ca,D,f,g,k⟩:=h
 exact ⟨A,ca,D,f,g.keep r,k.agr n⟩
theorem TbN.ok {w:J} {N o:Nat} {P:Nat->Prop} {t:Tab} (h:TbN w N o P t):aw t=0:=by
 obtain ⟨A,ca,D,g,_,f⟩:=h
 exact f.ok
def Blo (w:J) (N O:Nat):Prop:=∃T n,Blk w N T n/\O+38<=n
section
variable {w w':J} {N O:Nat}
theorem Blo.lt (h:Blo w N O):N<w.heap.size:=by
 obtain ⟨_,_,h,_⟩:=h
 exact h.lt
theorem Blo.fz (h:Blo w N O) (j:Nat):w.frozen? ⟨N,j,none⟩=false:=by
 obtain ⟨_,_,h,_⟩:=h
 exact h.fz j
theorem Blo.some (h:Blo w N O) {j:Nat} (f:j<O+38):∃v,w.cell? ⟨N,j,none⟩=some v:=by
 obtain ⟨_,_,h,k⟩:=h
 exact h.some (by omega)
theorem Wr.blo {lo hi:Nat} (h:Wr N lo hi w w') (f:Blo w N O):Blo w' N O:=by
 obtain ⟨g,n,f,k⟩:=f
 exact ⟨g,n,h.block f,k⟩
theorem Wr.celo {lo hi:Nat} (h:Wr N lo hi w w') (f:Blo w N O) {j:Nat} (g:j<lo\/hi<=j):w'.cell? ⟨N,j,none⟩=w.cell? ⟨N,j,none⟩:=by
 obtain ⟨_,_,f,_⟩:=f
 exact h.cell f g
end
structure Nm (w:J) (N O:Nat) (P:Nat->Prop) (id:Int) (s t:Tab) (qs:List (List Stp)) (i:Nat) (z y:List Zit):Prop where
 blk:Blo w N O
 out:¬P N
 up:∀b,P b->b<w.heap.size
 cid:w.cell? ⟨N,O,none⟩=some (S I id)
 ts:TbN w N (O+1) P s
 tt:TbN w N (O+7) P t
 cnt:w.cell? ⟨N,O+37,none⟩=some (S I (qs.length:Int))
 le:qs.length<=4
 vs:∀j (h:j<qs.length),VwN w N (O+13+j*6) P qs[j] (if j<i then ofR s else z) (if j<i then ofR t else y)
def Nd (w:J) (N O:Nat) (P:Nat->Prop) (id:Int) (s t:Tab) (qs:List (List Stp)):Prop:=Nm w N O P id s t qs 4 [] []
section
variable {w w':J} {N O:Nat} {P:Nat->Prop} {id:Int} {s t:Tab} {qs:List (List Stp)} {i:Nat} {z y:List Zit}
theorem Nm.keep (h:Nm w N O P id s t qs i z y) (C:w'.heap[N]? = w.heap[N]?) (g:Agr P w w'):Nm w' N O P id s t qs i z y:=by
 have u:Blo w' N O:=by
  obtain ⟨L,n,⟨r,f,F⟩,k⟩:=h.blk
  exact ⟨L,n,⟨r,C.trans f,F⟩,k⟩
 have f:∀j,w'.cell? ⟨N,j,none⟩=w.cell? ⟨N,j,none⟩:=fun j=>World.cell?_of_block (a:=⟨N,j,none⟩) C
 exact ⟨u,h.out,fun b k=>nL (h.up b k) g.size,(f O).trans h.cid,h.ts.keep g fun j _ _=>f j,h.tt.keep g fun j _ _=>f j,(f (O+37)).trans h.cnt,h.le,fun j E=>(h.vs j E).keep g u.lt u.fz fun j _ _=>f j⟩
theorem Nm.below (h:Nm w N O P id s t qs i z y) (k:Below w.heap.size w w'):Nm w' N O P id s t qs i z y:=h.keep (k.block N h.blk.lt) (Agr.of k)
theorem Nm.mono (h:Nm w N O P id s t qs i z y) {P':Nat->Prop} (k:∀b,P b->P' b) (f:¬P' N) (g:∀b,P' b->b<w.heap.size):Nm w N O P' id s t qs i z y :=
 ⟨h.blk,f,g,h.cid,h.ts.mono k,h.tt.mono k,h.cnt,h.le,fun j n=>(h.vs j n).mono k⟩
theorem Nd.keep (h:Nd w N O P id s t qs) (g:w'.heap[N]? = w.heap[N]?) (f:Agr P w w'):Nd w' N O P id s t qs:=Nm.keep h g f
theorem Nd.below (h:Nd w N O P id s t qs) (k:Below w.heap.size w w'):Nd w' N O P id s t qs:=Nm.below h k
theorem Nd.view (h:Nd w N O P id s t qs) {j:Nat} (f:j<qs.length):VwN w N (O+13+j*6) P qs[j] (ofR s) (ofR t):=by
 have:=h.vs j f
 have g:=h.le
 rwa [if_pos (by omega),if_pos (by omega)] at this
theorem da {m n:Nat} (h:¬P N) (f:N<m):¬af P m n N:=fun k=>k.elim h fun k=>by omega
theorem fq {m n:Nat} (h:∀b,P b->b<n):∀b,af P m n b->b<n:=fun b k=>k.elim (h b) fun k=>k.2
end
end Go.Proofs.YtjmmpnmgpgaagaaGreatDoor
