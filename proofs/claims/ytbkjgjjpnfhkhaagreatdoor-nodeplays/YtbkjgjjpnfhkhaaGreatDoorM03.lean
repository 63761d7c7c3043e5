import Derived.Test.YtbkjgjjpnfhkhaaGreatDoorM02
set_option maxRecDepth 100000
set_option maxHeartbeats 8000000
open Go renaming World → H, Calls → U, Addr → K
open Go.Ending renaming returned → Y
open Go.IntKind renaming i64 → I
open Go.Obj renaming cells → S
open Go.Proofs.Tryz renaming prog → J
open Go.RowKit renaming Hid → Z, Below → X
open Go.Value renaming int → V, slice → O, agg → L
namespace Go.Proofs.YtbkjgjjpnfhkhaaGreatDoor
open Go.RowKit Go.Sort

theorem vz {c:Ctx} {a b:Int} (d:inB a 0 3=true) (f:1<=b) (g:b<=clk c a):ax c (a,b)=true:=by simp[ax,d,f,g]
theorem lN {c:Ctx} {x:Int×Int} (h:¬(inB x.1 0 3=true/\1<=x.2/\x.2<=clk c x.1)):ax c x=lV c.l x:=by
 unfold ax lV;cases g:inB x.1 0 3
 ·simp
 ·by_cases d:1<=x.2
  ·have f:¬x.2<=clk c x.1:=fun f=>h ⟨g,d,f⟩;simp[d,f]
  ·simp[d]

theorem jm (c:Ctx) (A:Option K) (cap:Nat) (x:Int×Int) (w:H) (D:c.l.length<=maxLen) (hr:Row w A c.l) :
  U J 67 #[L (ja7 c A cap),L #[V I x.1,V I x.2]] w fun e w'=>e= Y (.bool (ax c x))/\Gr w w':=by
 obtain ⟨a,b⟩:=x;have h:=((gR ((w.alloc (S (ja7 c A cap) 32)).alloc (S #[V I a,V I b] 89))));have u:=ab (dK h) (j:=4) rfl;have n:=jf h (j:=0) rfl;have r:=jf h (j:=1) rfl;have f:=hr.gr (br (br h));have g:=br (br h);go_enter Tryz.func67,Tryz.ntmps67;cases k:inB a 0 3
 ·have d:Z (ax c (a,b)=lV c.l (a,b)):=lN (by simp[k]);go_wp2;generalize (w.alloc (S (ja7 c A cap) 32)).alloc (S #[V I a,V I b] 89)=W at u n r f g ⊢;go_quiet ((go_at_call 106;exact Calls.quiet_of_same (gn k _)));go_wp2_with fail;refine (gG c.l A cap (a,b) _ D (f.gr ⟨nq,#[],by rw[grow_empty]⟩)).mono ?_;rintro e w' ⟨rfl,m⟩;go_wp2;go_ret;rw[d.out];exact ⟨rfl,(g.trans ⟨nq,#[],by rw[grow_empty]⟩).trans m⟩
 ·have R:0<=a/\a<4:=by simp[inB] at k;omega
  have E:=ab (dK h) (dM (c:=c) R.1 R.2);by_cases C:1<=b
  ·by_cases F:b<=clk c a
   ·have d:=ja1 (vz k C F);go_wp2;generalize (w.alloc (S (ja7 c A cap) 32)).alloc (S #[V I a,V I b] 89)=W at u n r f g E ⊢;go_quiet ((go_at_call 106;exact Calls.quiet_of_same (gn k _)));go_wp2;go_ret;rw[d.out];exact ⟨rfl,(g.trans ⟨nq,#[],by rw[grow_empty]⟩)⟩
   ·have d:Z (ax c (a,b)=lV c.l (a,b)):=lN (by simp[F]);go_wp2;generalize (w.alloc (S (ja7 c A cap) 32)).alloc (S #[V I a,V I b] 89)=W at u n r f g E ⊢;go_quiet ((go_at_call 106;exact Calls.quiet_of_same (gn k _)));go_wp2_with fail;refine (gG c.l A cap (a,b) _ D (f.gr ⟨nq,#[],by rw[grow_empty]⟩)).mono ?_;rintro e w' ⟨rfl,m⟩;go_wp2;go_ret;rw[d.out];exact ⟨rfl,(g.trans ⟨nq,#[],by rw[grow_empty]⟩).trans m⟩
  ·have d:Z (ax c (a,b)=lV c.l (a,b)):=lN (by simp[C]);have ad:decide (1<=b)=false:=by simpa using C
   go_wp2;generalize (w.alloc (S (ja7 c A cap) 32)).alloc (S #[V I a,V I b] 89)=W at u n r f g E ⊢;go_quiet ((go_at_call 106;exact Calls.quiet_of_same (gn k _)));go_wp2_with fail;refine (gG c.l A cap (a,b) _ D (f.gr ⟨nq,#[],by rw[grow_empty]⟩)).mono ?_;rintro e w' ⟨rfl,m⟩;go_wp2;go_ret;rw[d.out];exact ⟨rfl,(g.trans ⟨nq,#[],by rw[grow_empty]⟩).trans m⟩


theorem eE (t:Tab) (A:Option K) (ca:Nat) (D:Option K) (cd:Nat) (w:H) (hl:t.c.l.length<=maxLen) (bN:t.e.length<=maxLen) (hr:Row w A t.c.l) (hd:av w D t.e) :
  U J 46 #[L (T6 t A ca D cd).toArray] w fun e w'=>e= Y (V I (ay t))/\Gr w w':=by
 have R:Tryz.prog.follows .mixedOrders=true:=by kernel_rfl
 have b0:Gr w (w.alloc (S #[V I t.c.c0,V I t.c.c1,V I t.c.c2,V I t.c.c3,O A t.c.l.length ca,O D t.e.length cd] 35)):=(gR w).alloc _;have be:TabAt (w.alloc (S #[V I t.c.c0,V I t.c.c1,V I t.c.c2,V I t.c.c3,O A t.c.l.length ca,O D t.e.length cd] 35)) w.heap.size t A ca D cd:=TabAt.new 35 hr hd rfl;have bC:=fj t.c A ca (w.alloc (S #[V I t.c.c0,V I t.c.c1,V I t.c.c2,V I t.c.c3,O A t.c.l.length ca,O D t.e.length cd] 35)) hl be.row;have a7:Z _:=bC;have b1:=ja1 hl;unfold maxLen at bN;go_enter Tryz.func46,Tryz.ntmps46;go_wp2_with fail;refine ja0 a7 ?_;rintro e w1 ⟨rfl,ba⟩;have bh:=be.gr ba;have n:Gr w w1:=b0.trans ba;by_cases he:aU t.c=0
 ·have bG:(aU t.c != 0)=false:=by simpa using he
  have ak:=ja1 he;obtain ⟨k0,k1,k2,k3,k4,k5,b6,b5,b3⟩:=(show TabAt _ _ _ _ _ _ _ from bh);by_cases a6:400<t.e.length
  ·have a2:(400:Int)<(t.e.length:Int):=(by omega);have d:=ja1 (lF ak.out a6);go_wp2;go_ret;rw[d.out];exact ⟨rfl,n⟩
  ·have a2:¬(400:Int)<(t.e.length:Int):=(by omega);go_wp2;go_loopw [19] (fun i wr=>∃k:Nat,k<=t.e.length/\i= V I k/\Z (∀j,j<k->dE t j=true)/\Gr w1 wr) (fun i _=>t.e.length-(intOf i).toNat);exact ⟨0,by omega,rfl,fun j h=>by omega,gR _⟩;rename H=>g;obtain ⟨k,hk,rfl,ah,a4⟩:=hrel;by_cases f:k<t.e.length
   ·have bd:(k:Int)<(t.e.length:Int):=(by omega);have bo:=bh.gr a4;obtain ⟨b,aL,rfl,hb,a8⟩:=av.get bo.rowC f;obtain ⟨x,hx⟩:=jb0 (t.e[k]);obtain ⟨e0,e1,e2,e3,e4⟩:=a8 k f;rw[hx] at e0 e1 e2 e3 e4;have a9:=ja1 a8;have F:=ja1 hx;have a3:Gr g (g.alloc (S #[V I x.1.1,V I x.1.2,V I x.2.1,V I x.2.2.1,V I x.2.2.2] 91)):=(gR _).alloc _;have bs:=CelAt.new (w:=g) x 91 rfl;have bp:=bo.gr a3;obtain ⟨t0,t1,t2,t3,t4,t5,b7,bv,b4⟩:=(show TabAt _ _ _ _ _ _ _ from bp);obtain ⟨x0,x1,x2,x3,x4,ad⟩:=(show CelAt _ _ _ from bs);have bc:=jm t.c A ca x.1 (g.alloc (S #[V I x.1.1,V I x.1.2,V I x.2.1,V I x.2.2.1,V I x.2.2.2] 91)) b1.out bv;have a5:Z _:=bc;go_wp2_with fail;refine ja0 a5 ?_;rintro e w2 ⟨rfl,a1⟩;have C:Gr w1 w2:=(a4.trans a3).trans a1;have b2:=bs.gr a1;have bl:=bp.gr a1;obtain ⟨x0,x1,x2,x3,x4,ad⟩:=(show CelAt _ _ _ from b2);cases an:ax t.c x.1
    ·have d:Z (ay t=5):=by
      refine dP ak.out (by omega) f ?_;cases k with
      | zero=>rw[dc f F.out,an];rfl
      | succ m=>rw[co f F.out rfl,an];rfl
     go_wp2;go_ret;rw[d.out];exact ⟨rfl,n.trans C⟩
    ·cases r:aF x.2.1 x.2.2.1 x.2.2.2
     ·have d:Z (ay t=5):=by
       refine dP ak.out (by omega) f ?_;cases k with
       | zero=>rw[dc f F.out,r];simp
       | succ m=>rw[co f F.out rfl,r];simp
      go_wp2_with (go_at_call 78;refine (gm r _).mono ?_;rintro e w' ⟨rfl,rfl⟩);go_ret;rw[d.out];exact ⟨rfl,n.trans C⟩
     ·cases k with
      | zero =>
       have ao:Z (dE t 0=true):=(by show dE t 0=true;rw[dc f F.out,an,r];rfl);go_wp2_with (first|(go_at_call 78;refine (gm r _).mono ?_;rintro e w2 ⟨rfl,rfl⟩)|fail);refine wp_region_quiet_grown R (by kernel_rfl) ?_;repeat (go_big_quiet_step (fail))
       refine wpQuiet_nil ?_;rintro _ ⟨⟨ap,E⟩,rfl⟩;go_wp2;go_roundw;case rel =>
        refine ⟨_,f,by go_num,?_,C.trans ⟨ap,E,rfl⟩⟩;intro j hj;by_cases e:j=0
        ·rw[e];exact ao.out
        ·exact ah j (by omega)
       case measure=>simp[intOf];omega
      | succ m =>
       obtain ⟨y,hy⟩:=jb0 (t.e[m]);obtain ⟨f0,f1,f2,f3,f4⟩:=a9.out m (by omega);rw[hy] at f0 f1 f2 f3 f4;have bt:=ja1 hy;have u:Gr g w2:=a3.trans a1;have q0:=u.cellG (a:=(jb5 b (aL+m*5))) hb f0;have q1:=u.cellG (a:=(jb5 b (aL+m*5+1))) hb f1;have q2:=u.cellG (a:=(jb5 b (aL+m*5+2))) hb f2;have q3:=u.cellG (a:=(jb5 b (aL+m*5+3))) hb f3;have q4:=u.cellG (a:=(jb5 b (aL+m*5+4))) hb f4;have p5:=(gR w2).cellG (a:=(jb5 w.heap.size 5)) bl.lt bl.k5;have p0:=(gR w2).cellG (a:=(jb5 g.heap.size 0)) ad x0;have p1:=(gR w2).cellG (a:=(jb5 g.heap.size 1)) ad x1;have p2:=(gR w2).cellG (a:=(jb5 g.heap.size 2)) ad x2;have p3:=(gR w2).cellG (a:=(jb5 g.heap.size 3)) ad x3;have p4:=(gR w2).cellG (a:=(jb5 g.heap.size 4)) ad x4;clear f0 f1 f2 f3 f4;cases a0:bj y.1 x.1
       ·have d:Z (ay t=5):=dP ak.out (by omega) f (by rw[co f F.out bt.out,an,r,a0];rfl);have bb:=iq a0;go_wp2_with (first|(go_at_call 78;refine (gm r _).mono ?_;rintro e w2 ⟨rfl,rfl⟩)|fail);refine wp_region_quiet_grown R (by kernel_rfl) ?_;repeat (go_big_quiet_step ((go_at_call 86;refine Calls.grown_of (gw rfl _))))
        refine wpQuiet_nil ?_;rintro _ ⟨⟨ap,E⟩,rfl⟩;go_wp2;go_ret;rw[d.out];exact ⟨rfl,n.trans (C.trans ⟨ap,E,rfl⟩)⟩
       ·have bb:=ip a0;have ao:Z (dE t (m+1)=true):=by show dE t (m+1)=true;rw[co f F.out bt.out,an,r,a0];rfl
        go_wp2_with (first|(go_at_call 78;refine (gm r _).mono ?_;rintro e w2 ⟨rfl,rfl⟩)|fail);refine wp_region_quiet_grown R (by kernel_rfl) ?_;repeat (go_big_quiet_step ((go_at_call 86;refine Calls.grown_of (gw bb _))))
        refine wpQuiet_nil ?_;rintro _ ⟨⟨ap,E⟩,rfl⟩;go_wp2;go_roundw;case rel =>
         refine ⟨_,f,by go_num,?_,C.trans ⟨ap,E,rfl⟩⟩;intro j hj;by_cases e:j=m+1
         ·rw[e];exact ao.out
         ·exact ah j (by omega)
        case measure=>simp[intOf];omega
   ·have bd:¬(k:Int)<(t.e.length:Int):=(by omega);have d:Z (ay t=0):=ox ak.out (by omega) fun j hj=>ah j (by omega);go_wp2;go_ret;rw[d.out];exact ⟨rfl,n.trans a4⟩
 ·have bG:(aU t.c != 0)=true:=by simpa using he
  have d:=ja1 (py he);clear he;go_wp2;go_ret;rw[d.out];exact ⟨rfl,n⟩


theorem pF (c:Ctx) (l:List (Int×Int)) (A:Option K) (cap:Nat) (w:H) (be:c.l=[]) (bh:aW c=true) (hl:l.length<=800) (bl:∀x∈l,ai x=true) (hr:Row w A l) :
  U J 90 #[L #[V I c.c0,V I c.c1,V I c.c2,V I c.c3],O A l.length cap] w fun e w'=>∃C cp,e= Y (L (ja7 (aA c l l.length) C cp))/\Row w' C (aA c l l.length).l/\(C=none->cp=0)/\(∀a,C=some a->w.heap.size<=a.block)/\jb2 w w':=by
 have hE:=wu;have hH:=ja3 be bh bl;go_enter Tryz.func90,Tryz.ntmps90;go_wp2;go_loopw [13] (fun i wr=>∃k:Nat,k<=l.length/\i= V I k/\CB wr (w.heap.size+1+1) (w.heap.size+1+1+1) (aA c l k)/\X (w.heap.size+1+1) ((w.alloc (S #[V I c.c0,V I c.c1,V I c.c2,V I c.c3] 29)).alloc (S #[V I 0,V I 0,V I 0,V I 0,O none 0 0] 32)) wr) (fun i _=>l.length-(intOf i).toNat);case atStart =>refine ⟨0,nZ _,rfl,?_,(bR _ _).alloc (by simp) _⟩;have:=CB.start ((w.alloc (S #[V I c.c0,V I c.c1,V I c.c2,V I c.c3] 29)).alloc (S #[V I 0,V I 0,V I 0,V I 0,O none 0 0] 32)) hH.out.1 32;show CB _ _ _ c;simpa using this
 case round =>
  obtain ⟨k,hk,rfl,f,d⟩:=hrel;have a9:Z (jb2 w wr):=(((bR _ w).alloc (nR _) _).alloc (by simp) _).trans (d.mono (by omega));have a2:=f.lt;by_cases n:k<l.length
  ·have ba:(k:Int)<(l.length:Int):=(by omega);obtain ⟨b,bv,rfl,hb,a5⟩:=(hr.below a9.out).at n;obtain ⟨x,y,hx⟩:∃x y,l[k]=(x,y):=⟨_,_,rfl⟩;have e0:=(a5 k n).1;have e1:=(a5 k n).2;rw[hx] at e0 e1;have a3:=ja1 a5;have ao:=ja1 hx;have hn:=dr (hH.out.2.2 (x,y) (by rw[<-hx];exact gM n));have bs:=bF (ri hH.out.2.1 hH.out.2.2 k hk) x hn.1 hn.2.1;have kc:=f.clk hn.1 hn.2.1;have kf:=f.fz x.toNat;simp only at hn;by_cases h1:y<=clk (aA c l k) x
   ·have E:Z (aA c l (k+1)=aA c l k):=by
     cases k with
     | zero=>show aA c l 1=_;rw[ij n ao.out];exact sA h1
     | succ m=>show aA c l (m+2)=_;rw[fI n ao.out rfl];exact sA h1
    go_wp2;go_roundw;exact ⟨k+1,by omega,by go_num,by rw[E.out];exact f.gr ((gR _).alloc _),d.alloc (by omega) _⟩;simp[intOf];omega
   ·by_cases h2:y=clk (aA c l k) x+1
    ·have E:Z (aA c l (k+1)=setClk (aA c l k) x y):=by
      cases k with
      | zero=>show aA c l 1=_;rw[ij n ao.out];exact sz h2
      | succ m=>show aA c l (m+2)=_;rw[fI n ao.out rfl];exact sz h2
     have bc:decide (y<=clk (aA c l k) x)=false:=(by simpa using h1);have bd:(y==clk (aA c l k) x+1)=true:=by simpa using h2
     clear h2 h1;go_wp2;go_roundw;exact ⟨k+1,by omega,by go_num,by rw[E.out];exact (f.setClk hn.1 hn.2.1 y).gr ((gR _).alloc _),(d.setCell (nR _) _).alloc (by simp only[World.setCell,Array.size_modify];omega) _⟩;simp[intOf];omega
    ·have bc:decide (y<=clk (aA c l k) x)=false:=(by simpa using h1);have bd:(y==clk (aA c l k) x+1)=false:=by simpa using h2
     have ap:=ja2 h1 h2;clear h1 h2;obtain ⟨v,k4,aL⟩:=f.v;have ah:=ja1 aL;have a1:=iX c l k;have a8:Z (((aA c l k).l.length+[(x,y)].length)*16<=140737488355328):=by have:=hH.out.1;rw[this] at a1;simp only[List.length_nil,List.length_cons] at a1 ⊢;show _<=_;omega
     clear aL a1;cases k with
     | zero =>
      have E:Z (aA c l 1={ aA c l 0 with l:=(aA c l 0).l++[(x,y)] }):=(by show aA c l 1=_;rw[ij n ao.out];exact qx ap.out.1 ap.out.2 (by simp));simp only[Nat.zero_mul,Nat.add_zero] at e0 e1;go_wp2;go_quiet (fail);go_wp2_with (at_builtin;refine al _ rfl (.tmp 53) (.tmp 55) rfl (w.heap.size+1+1+1) v (aA c l 0).l [(x,y)] (jb4 (wr.heap.size+1) 0) 1 rfl rfl ?ho ?hr (fun h=>by cases h) a8.out ?hs ?_);case ho=>exact ah.out.gr ((((gR wr).alloc _).drewN nq).alloc _)
      case hr=>exact ed (by simp) x y _
      case hs=>simp;omega
      intro v1 w1 g ad _;obtain ⟨C,cp,rfl,hC,-,-⟩:=g.row;have r:Gr wr (((wr.alloc (S #[V I x,V I y] 89)).drewN nq).alloc (S #[V I x,V I y] 89)):=(((gR wr).alloc _).drewN nq).alloc _;have u:X (w.heap.size+1+1+1) (((wr.alloc (S #[V I x,V I y] 89)).drewN nq).alloc (S #[V I x,V I y] 89)) w1:=Own.grown_below (ah.out.gr r) ad (by simp;omega);have R:=(f.gr r).setL u g;have D:X (w.heap.size+1+1) ((w.alloc (S #[V I c.c0,V I c.c1,V I c.c2,V I c.c3] 29)).alloc (S #[V I 0,V I 0,V I 0,V I 0,O none 0 0] 32)) w1:=(d.trans (r.below.mono (by omega))).trans (u.mono (by omega));have c4:jb1 w1 (w.heap.size+1+1) 4 v:=(u.cell (p:=(jb5 (w.heap.size+1+1) 4)) (by simp)).trans ((r.cell (p:=(jb5 (w.heap.size+1+1) 4)) a2).trans k4);have f4:w1.frozen? (jb5 (w.heap.size+1+1) 4)=false:=(u.frozen (p:=(jb5 (w.heap.size+1+1) 4)) (by simp)).trans ((f.gr r).fz 4);have an:=ja1 R;have ak:=ja1 D;clear R D u r ad g d f k4 kc kf e0 e1;go_wp2;go_roundw;exact ⟨1,n,by go_num,by rw[E.out];have:=an.out;simp only[List.length_append,List.length_cons,List.length_nil,Nat.zero_add] at this;exact this,ak.out.setCell (nR _) _⟩;simp[intOf];omega
     | succ m =>
      obtain ⟨x',y',a6⟩:∃x' y',l[m]=(x',y'):=⟨_,_,rfl⟩;have g0:=(a3.out m (by omega)).1;have g1:=(a3.out m (by omega)).2;rw[a6] at g0 g1;have a4:=ja1 a6;clear a6;have bt:((m:Int)+1==0)=false:=by simp;omega
      cases hq:(x'==x && y'==y)
      ·have E:Z (aA c l (m+2)={ aA c l (m+1) with l:=(aA c l (m+1)).l++[(x,y)] }):=(by show aA c l (m+2)=_;rw[fI n ao.out a4.out];refine qx ap.out.1 ap.out.2 ?_;intro h;injection h with h;injection h with h1 h2;subst h1 h2;simp at hq);go_wp2;go_quiet (fail);go_wp2_with (at_builtin;refine al _ rfl (.tmp 53) (.tmp 55) rfl (w.heap.size+1+1+1) v (aA c l (m+1)).l [(x,y)] (jb4 (wr.heap.size+1) 0) 1 rfl rfl ?ho ?hr (fun h=>by cases h) a8.out ?hs ?_);case ho=>exact ah.out.gr ((((gR wr).alloc _).drewN nq).alloc _)
       case hr=>exact ed (by simp) x y _
       case hs=>simp;omega
       intro v1 w1 g ad _;obtain ⟨C,cp,rfl,hC,-,-⟩:=g.row;have r:Gr wr (((wr.alloc (S #[V I x,V I y] 89)).drewN nq).alloc (S #[V I x,V I y] 89)):=(((gR wr).alloc _).drewN nq).alloc _;have u:X (w.heap.size+1+1+1) (((wr.alloc (S #[V I x,V I y] 89)).drewN nq).alloc (S #[V I x,V I y] 89)) w1:=Own.grown_below (ah.out.gr r) ad (by simp;omega);have R:=(f.gr r).setL u g;have D:X (w.heap.size+1+1) ((w.alloc (S #[V I c.c0,V I c.c1,V I c.c2,V I c.c3] 29)).alloc (S #[V I 0,V I 0,V I 0,V I 0,O none 0 0] 32)) w1:=(d.trans (r.below.mono (by omega))).trans (u.mono (by omega));have c4:jb1 w1 (w.heap.size+1+1) 4 v:=(u.cell (p:=(jb5 (w.heap.size+1+1) 4)) (by simp)).trans ((r.cell (p:=(jb5 (w.heap.size+1+1) 4)) a2).trans k4);have f4:w1.frozen? (jb5 (w.heap.size+1+1) 4)=false:=(u.frozen (p:=(jb5 (w.heap.size+1+1) 4)) (by simp)).trans ((f.gr r).fz 4);have an:=ja1 R;have ak:=ja1 D;clear R D u r ad g d f k4 kc kf e0 e1;go_wp2;go_roundw;exact ⟨m+2,n,by go_num,by rw[E.out];have:=an.out;simp only[List.length_append,List.length_cons,List.length_nil,Nat.zero_add] at this;exact this,ak.out.setCell (nR _) _⟩;simp[intOf];omega
      ·have E:Z (aA c l (m+2)=aA c l (m+1)):=(by show aA c l (m+2)=_;rw[fI n ao.out a4.out];simp only[Bool.and_eq_true,beq_iff_eq] at hq;rw[hq.1,hq.2];exact xw ap.out.1 ap.out.2);go_wp2;go_quiet (fail);go_wp2;go_roundw;exact ⟨m+2,n,by go_num,by rw[E.out];exact f.gr (((gR _).alloc _).drewN nq),(d.alloc (by omega) _).trans ((((gR _).drewN nq).below).mono (by simp;omega))⟩;simp[intOf];omega
  ·have ba:¬(k:Int)<(l.length:Int):=(by omega);obtain rfl:k=l.length:=by omega
   obtain ⟨F,hF⟩:=jb0 (aA c l l.length);rw[hF] at f;have HF:=ja1 hF;clear hF;obtain ⟨v,k0,k1,k2,k3,k4,aL,hf,bo,bp⟩:=f;obtain ⟨C,cp,rfl,hC,bb,a7⟩:=aL.row;have r0:=(d.cell (p:=(jb5 (w.heap.size+1) 0)) (by simp)).trans (show _=some (V I 0) by go_simp);have r1:=(d.cell (p:=(jb5 (w.heap.size+1) 1)) (by simp)).trans (show _=some (V I 0) by go_simp);have r2:=(d.cell (p:=(jb5 (w.heap.size+1) 2)) (by simp)).trans (show _=some (V I 0) by go_simp);have r3:=(d.cell (p:=(jb5 (w.heap.size+1) 3)) (by simp)).trans (show _=some (V I 0) by go_simp);have r4:=(d.cell (p:=(jb5 (w.heap.size+1) 4)) (by simp)).trans (show _=some (O none 0 0) by go_simp);have rf:∀j,wr.frozen? (jb5 (w.heap.size+1) j)=false:=fun j=>(d.frozen (p:=(jb5 (w.heap.size+1) j)) (by simp)).trans (by simp);have ah:=ja1 aL;clear aL hf;have a0:∀a,C=some a->a.block≠w.heap.size+1:=fun a ha=>by have:=(a7 a ha).1;omega
   go_wp2;rw[HF.out];refine bodyPost_ret (v:= L (ja7 F C cp)) (by simp[results,Tryz.results90,go_sem,r0,r1,r2,r3,r4]) rfl ⟨C,cp,rfl,?_,hC,fun a ha=>by have:=(a7 a ha).1;omega,?_⟩
   ·exact ((((bb.setCell _ a0).setCell _ a0).setCell _ a0).setCell _ a0).setCell _ a0
   ·exact ((((a9.out.setCell (by simp) _).setCell (by simp) _).setCell (by simp) _).setCell (by simp) _).setCell (by simp) _
end Go.Proofs.YtbkjgjjpnfhkhaaGreatDoor

namespace Go.Proofs
open Go.Shelf
def Tryz.sortDot_ren:Go.Shelf.Ren:=⟨fun|6=>115|15=>95|14=>140|28=>126|29=>127|20=>162|21=>163|22=>164|23=>165|24=>166|25=>167|26=>168|27=>169|46=>202|47=>145|48=>146|49=>203|50=>204|57=>228|n=>n,fun|22=>30|24=>89|25=>155|3=>3|39=>149|0=>0|53=>173|55=>175|4=>4|46=>167|45=>166|50=>142|5=>5|9=>9|66=>189|70=>193|76=>211|77=>212|n=>n,fun|n=>n⟩
theorem Tryz.sortDot:Go.Proofs.SlLaysF0.n6 J Tryz.sortDot_ren:={
 mixed:=by kernel_rfl
 f6:=⟨Tryz.f115.name,by decide,Tryz.func115.trans (congrArg some (by kernel_rfl))⟩
 f14:=⟨Tryz.f140.name,by decide,Tryz.func140.trans (congrArg some (by kernel_rfl))⟩
 f15:=Tryz.func95.trans (congrArg some (by kernel_rfl))
 f20:=⟨Tryz.f162.name,by decide,Tryz.func162.trans (congrArg some (by kernel_rfl))⟩
 f21:=⟨Tryz.f163.name,by decide,Tryz.func163.trans (congrArg some (by kernel_rfl))⟩
 f22:=⟨Tryz.f164.name,by decide,Tryz.func164.trans (congrArg some (by kernel_rfl))⟩
 f23:=⟨Tryz.f165.name,by decide,Tryz.func165.trans (congrArg some (by kernel_rfl))⟩
 f24:=⟨Tryz.f166.name,by decide,Tryz.func166.trans (congrArg some (by kernel_rfl))⟩
 f25:=⟨Tryz.f167.name,by decide,Tryz.func167.trans (congrArg some (by kernel_rfl))⟩
 f26:=⟨Tryz.f168.name,by decide,Tryz.func168.trans (congrArg some (by kernel_rfl))⟩
 f27:=⟨Tryz.f169.name,by decide,Tryz.func169.trans (congrArg some (by kernel_rfl))⟩
 f28:=Tryz.func126.trans (congrArg some (by kernel_rfl))
 f29:=Tryz.func127.trans (congrArg some (by kernel_rfl))
 f46:=⟨Tryz.f202.name,by decide,Tryz.func202.trans (congrArg some (by kernel_rfl))⟩
 f47:=Tryz.func145.trans (congrArg some (by kernel_rfl))
 f48:=Tryz.func146.trans (congrArg some (by kernel_rfl))
 f49:=⟨Tryz.f203.name,by decide,Tryz.func203.trans (congrArg some (by kernel_rfl))⟩
 f50:=⟨Tryz.f204.name,by decide,Tryz.func204.trans (congrArg some (by kernel_rfl))⟩
 f57:=⟨Tryz.f228.name,by decide,Tryz.func228.trans (congrArg some (by kernel_rfl))⟩
 t0:=Tryz.underlying0
 a0:=Tryz.isAgg0
 z0:=Tryz.sizeOf0
 v0:=Tryz.zeroValue0
 t3:=Tryz.underlying3
 a3:=Tryz.isAgg3
 z3:=Tryz.sizeOf3
 v3:=Tryz.zeroValue3
 t4:=Tryz.underlying4
 a4:=Tryz.isAgg4
 z4:=Tryz.sizeOf4
 v4:=Tryz.zeroValue4
 t5:=Tryz.underlying5
 a5:=Tryz.isAgg5
 z5:=Tryz.sizeOf5
 v5:=Tryz.zeroValue5
 t9:=Tryz.underlying9
 a9:=Tryz.isAgg9
 z9:=Tryz.sizeOf9
 v9:=Tryz.zeroValue9
 t22:=Tryz.underlying30
 a22:=Tryz.isAgg30
 z22:=Tryz.sizeOf30
 v22:=Tryz.zeroValue30
 t25:=Tryz.underlying155
 a25:=Tryz.isAgg155
 z25:=Tryz.sizeOf155
 v25:=Tryz.zeroValue155
 t39:=Tryz.underlying149
 a39:=Tryz.isAgg149
 z39:=Tryz.sizeOf149
 v39:=Tryz.zeroValue149
 t45:=Tryz.underlying166
 a45:=Tryz.isAgg166
 z45:=Tryz.sizeOf166
 v45:=Tryz.zeroValue166
 t46:=Tryz.underlying167
 a46:=Tryz.isAgg167
 z46:=Tryz.sizeOf167
 v46:=Tryz.zeroValue167
 t50:=Tryz.underlying142
 a50:=Tryz.isAgg142
 z50:=Tryz.sizeOf142
 v50:=Tryz.zeroValue142
 t53:=Tryz.underlying173
 a53:=Tryz.isAgg173
 z53:=Tryz.sizeOf173
 v53:=Tryz.zeroValue173
 t55:=Tryz.underlying175
 a55:=Tryz.isAgg175
 z55:=Tryz.sizeOf175
 v55:=Tryz.zeroValue175
 t66:=Tryz.underlying189
 a66:=Tryz.isAgg189
 z66:=Tryz.sizeOf189
 v66:=Tryz.zeroValue189
 t70:=Tryz.underlying193
 a70:=Tryz.isAgg193
 z70:=Tryz.sizeOf193
 v70:=Tryz.zeroValue193
 t76:=Tryz.underlying211
 a76:=Tryz.isAgg211
 z76:=Tryz.sizeOf211
 v76:=Tryz.zeroValue211
 t77:=Tryz.underlying212
 a77:=Tryz.isAgg212
 z77:=Tryz.sizeOf212
 v77:=Tryz.zeroValue212 }
end Go.Proofs

namespace Go.Proofs.YtbkjgjjpnfhkhaaGreatDoor
open Go.RowKit Go.Sort Go.Shelf Go.Lib

def mI (x:Int×Int):List Value:=[V I x.1,V I x.2]

theorem ltD (x y:Int×Int):ltOf eM x y=bj x y:=by
 unfold ltOf;cases h:bj x y
 ·have:=iq h;simp;omega
 ·rw[ip h];simp

theorem i8 (x y:Int×Int):bj x y=true↔x.1<y.1\/(x.1=y.1/\x.2<y.2):=by simp[bj]
theorem lf (x y:Int×Int):bj x y=false↔y.1<x.1\/(x.1=y.1/\y.2<=x.2):=by simp[bj];omega

theorem Bs:SWO (ltOf eM) where
 irrefl x:=by rw[ltD];simp[bj]
 trans x y z h1 h2:=by rw[ltD,i8] at *;omega
 ntrans x y z h1 h2:=by rw[ltD,lf] at *;omega

theorem Bu (x y:Int×Int) (c:ltOf eM x y=false) (d:ltOf eM y x=false):x=y:=by rw[ltD,lf] at *;exact Prod.ext (by omega) (by omega)

def srt (l:List (Int×Int)):List (Int×Int):=l.mergeSort fun x y=> !ltOf eM y x

theorem fA (l:List (Int×Int)):(srt l).length=l.length:=by simp[srt]

theorem Bg (c d size:Nat) (w:H):CmpLays J 105 #[] mI 2 eM c d size w :=
 fun _ _ _ _ x y=>jQ x y _

theorem zZ {w:H} {g c:Nat} {l:List (Int×Int)} (k:∀j (h:j<l.length),jb1 w g (c+j*2) (V I l[j].1)/\jb1 w g (c+j*2+1) (V I l[j].2)) (n:∀j,w.frozen? (jb5 g j)=false):HoldsK mI 2 w g c l.toArray:=by
 intro t d;rw[size_flatK] at d;rw[get_flatK _ _ _ t d];simp only[List.size_toArray] at d;have f:t / 2<l.length:=by omega
 refine ⟨?_,n _⟩;have e:l.toArray[t / 2]! = l[t / 2]:=by simp[f]
 rw[e];have:=k (t / 2) f;by_cases m:t % 2=0
 ·rw[m,show c+t=c+t / 2*2 from by omega,this.1];rfl
 ·rw[show t % 2=1 from by omega,show c+t=c+t / 2*2+1 from by omega,this.2];rfl

theorem Bp {w:H} {g c:Nat} {l:List (Int×Int)} (h:HoldsK mI 2 w g c l.toArray) (k:g<w.heap.size):Row w (jb4 g c) l:=by
 refine oR ⟨g,c,rfl,k,fun j m=> ?_⟩;have d:=(h (j*2) (by rw[size_flatK];simp;omega)).1;have f:=(h (j*2+1) (by rw[size_flatK];simp;omega)).1;rw[get_flatK _ _ _ _ (by simp;omega)] at d f;rw[show j*2 / 2=j from by omega,show j*2 % 2=0 from by omega] at d;rw[show (j*2+1) / 2=j from by omega,show (j*2+1) % 2=1 from by omega] at f;have e:l.toArray[j]! = l[j]:=by simp[m]
 rw[e] at d f;exact ⟨d,f⟩

theorem qH {w:H} {g n c:Nat} {os:Array Obj} {d:Array (Int×Int)} (f:c<=g) (j:c<=w.heap.size):X c w (sortWorldK mI 2 w g 0 n d os):=by refine ⟨rfl,rfl,rfl,by simp[sortWorldK,grow,putRowK],fun k h=> ?_⟩;show ((putRowK mI 2 (Sort.ahead w n) g 0 d).heap++os)[k]? = _;rw[Array.getElem?_append_left (by simp[putRowK];omega)];show ((Sort.ahead w n).heap.modify g _)[k]? = _;rw[Array.getElem?_modify,if_neg (by omega)];rfl

theorem B5 (g cap:Nat) (l:List (Int×Int)) (w:H) (m:HoldsK mI 2 w g 0 l.toArray) (r:g<w.heap.size) (j:l.length<4611686018427387904) :
  U J 115 #[O (jb4 g 0) l.length cap,.func (.func 105) #[] #[]] w fun e w'=>e= Y (.tuple #[])/\Row w' (jb4 g 0) (srt l)/\∀c,c<=g->c<=w.heap.size->X c w w':=by
 have C:∀f w,(callFunc 105 f).run J w= .ok (.enter 105 f) w:=enters_of Tryz.func105 (by kernel_rfl) rfl;have d:=AnyQ.slices_SortFunc_total Tryz.sortDot 2 Tryz.isAgg89 Tryz.sizeOf89 mI (fun _=>rfl) (fun x v u=>by simp[mI] at u;rcases u with rfl|rfl<;>rfl) eM Bs 105 #[] g 0 cap l.toArray w C (Bg g 0 _ w) m r (by simpa using j) Bu;change U J 115 _ _ _ at d;simp only[List.size_toArray] at d;refine d.mono ?_;rintro e w' ⟨F,n,R,k⟩;refine ⟨F,?_,fun c D E=>by rw[k];exact qH D E⟩;have h:HoldsK mI 2 w' g 0 (srt l).toArray:=by rw[k];refine holdsK_grow _ _ _ _ _ _ _ (by simp[putRowK];exact r) ?_;exact holdsK_putRowK _ _ _ _ _ l.toArray _ (holdsK_ahead _ _ _ _ _ _ _ m) (by simp)
 refine Bp h ?_;rw[k];simp[sortWorldK,grow,putRowK];omega

theorem zc (c:Nat) (v:Value) (l:List (Int×Int)) (w:H) (d:Own w c v l) (hb:c<=w.heap.size) (u:l.length<4611686018427387904) :
  U J 115 #[v,.func (.func 105) #[] #[]] w fun e w'=>e= Y (.tuple #[])/\(∃C cap,v= O C (srt l).length cap/\Row w' C (srt l))/\X c w w':=by
 rcases d.2 with ⟨m,hn⟩|⟨g,cap,cur,m,hbg,hg,_⟩
 ·obtain rfl:l=[]:=List.eq_nil_of_length_eq_zero hn;have f:=AnyF.slices_SortFunc_none Tryz.sortDot none 0 (.func (.func 105) #[] #[]) w;change U J 115 _ _ _ at f;rw[m];refine f.mono ?_;rintro e w' ⟨n,rfl⟩;exact ⟨n,⟨none,0,by simp[srt],oL (by simp[srt])⟩,bR _ _⟩
 ·have r:g<w.heap.size:=(Array.getElem?_eq_some_iff.1 hg).1;have F:=d.cells (g:=g) (by rw[m];rfl);have R:HoldsK mI 2 w g 0 l.toArray:=by
   refine zZ (fun j hj=> ?_) (fun j=> ?_)
   ·have e:=lJ l j hj;have D:=F _ _ e.1;have E:=F _ _ e.2;rw[Addr.add_lit] at D E;exact ⟨D,E⟩
   ·have:=World.ownsRow.frozenAt (by rw[<-m];exact d) (g:=g) (cap:=cap) j;exact this
  rw[m];refine (B5 g cap l w R r u).mono ?_;rintro e w' ⟨n,k,h⟩;exact ⟨n,⟨_,cap,by rw[fA],k⟩,h c hbg hb⟩

theorem mn (a b:List (Int×Int)) (A B:Option K) (ca cb:Nat) (w:H) (ha:Row w A a) (hb:Row w B b) (hA:A=none->ca=0) (hB:B=none->cb=0) (ah:a.length<=400) (ak:b.length<=400) :
  U J 91 #[O A a.length ca,O B b.length cb] w fun e w'=>∃C cap,e= Y (O C (srt (a++b)).length cap)/\Row w' C (srt (a++b))/\jb2 w w':=by
 obtain ⟨i0,hi,F,R,ad⟩:=info_parts Tryz.info89;go_enter Tryz.func91,Tryz.ntmps91;have E:(a.length+b.length)*16<=140737488355328:=by omega
 have n:(([]:List (Int×Int)).length+a.length)*16<=140737488355328:=by simp;omega
 go_wp2_with (first|(at_make;refine wpList_make_own _ rfl _ (.tmp 10) 30 rfl w.heap.size 89 i0 _ 2 Tryz.underlying30 hi F R I I _ (a.length+b.length) rfl rfl (by omega) (by rw[ad];omega) (by unfold maxLen;omega) (nR _) ?_;intro w1 d c)|(at_builtin;refine al _ rfl (.tmp 12) (.tmp 13) rfl w.heap.size (O (jb4 w.heap.size 0) 0 (a.length+b.length)) [] a A ca rfl rfl d (ha.below ((bR _ w).grown c (nR _) (fun k e=>by cases e))) hA n c.size ?_;intro v2 w2 f g _;simp only[List.nil_append] at f)|(at_builtin;refine al _ rfl (.tmp 15) (.tmp 16) rfl w.heap.size v2 a b B cb rfl rfl f (hb.below (((bR _ w).grown c (nR _) (fun k e=>by cases e)).trans (Own.grown_below (l:=[]) d g c.size))) hB E (nT c.size g.size) ?_;intro v3 w3 j u _)|fail);have m:jb2 w w3:=(((bR _ w).grown c (nR _) (fun k e=>by cases e)).trans (Own.grown_below (l:=[]) d g c.size)).trans (f.grown_below u (nT c.size g.size));refine (zc w.heap.size v3 (a++b) w3 j m.size (by rw[List.length_append];omega)).mono ?_;rintro e w4 ⟨rfl,⟨C,cap,hv,D⟩,r⟩;have h:=m.trans r;go_wp2;go_ret;exact ⟨C,cap,by rw[<-hv];rfl,D,h⟩
end Go.Proofs.YtbkjgjjpnfhkhaaGreatDoor
