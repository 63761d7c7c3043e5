/-
  dot.Has: whether a context has a dot. dot.Next: the next dot of a node.
  table.Check: it says what is wrong with a table.
  dot.fold: what it makes of a clock and of dots that are right and in order, step by step.
  The library's slices.SortFunc at dots: where its functions and types stand in this program.
  dot.rising: the dots of two lists, sorted, in memory of its own.
-/
import Derived.Test.YtkefkplnamkicaaGreatDoorM02
set_option maxRecDepth 100000
set_option maxHeartbeats 8000000
open Go.Ending renaming returned → Z
open Go.IntKind renaming i64 → I
open Go.Obj renaming cells → S
open Go.Proofs.Tryz renaming prog → J
open Go.Value renaming int → V, slice → O, agg → H
namespace Go.Proofs.YtkefkplnamkicaaGreatDoor
open Go.RowKit Go.Sort

theorem wZ {c:Ctx} {a b:Int} (h1:inB a 0 3=true) (h2:1≤b) (h3:b≤clk c a):ai c (a,b)=true:=by simp[ai,h1,h2,h3]
theorem mv {c:Ctx} {x:Int×Int} (h:¬(inB x.1 0 3=true∧1≤x.2∧x.2≤clk c x.1)):ai c x=mA c.l x:=by
 unfold ai mA
 cases h1:inB x.1 0 3
 ·simp
 ·by_cases h2:1≤x.2
  ·have h3:¬x.2≤clk c x.1:=fun h3=>h ⟨h1,h2,h3⟩
   simp[h2,h3]
  ·simp[h2]

theorem jL (c:Ctx) (A:Option Addr) (cap:Nat) (x:Int×Int) (w:World) (hl:c.l.length≤maxLen) (hr:Row w A c.l) :
  Calls J 66 #[H #[V I c.c0,V I c.c1,V I c.c2,V I c.c3,O A c.l.length cap],H #[V I x.1,V I x.2]] w fun e w'=>e= Z (.bool (ai c x))∧Gr w w':=by
 obtain ⟨a,b⟩:=x
 have hgr:=((gR ((w.alloc (S #[V I c.c0,V I c.c1,V I c.c2,V I c.c3,O A c.l.length cap] 38)).alloc (S #[V I a,V I b] 95))))
 have k4:=ab (iE hgr) (j:=4) rfl
 have d0:=nA hgr (j:=0) rfl
 have d1:=nA hgr (j:=1) rfl
 have hrow:=hr.gr (ci (ci hgr))
 have hgw:=ci (ci hgr)
 go_enter Tryz.func66,Tryz.ntmps66
 cases h1:inB a 0 3
 ·have hfin:Hid (ai c (a,b)=mA c.l (a,b)):=mv (by simp[h1])
  go_wp2
  generalize (w.alloc (S #[V I c.c0,V I c.c1,V I c.c2,V I c.c3,O A c.l.length cap] 38)).alloc (S #[V I a,V I b] 95)=W at k4 d0 d1 hrow hgw ⊢
  clear hgr
  go_quiet ((go_at_call 92;exact Calls.quiet_of_same (fX h1 _)))
  go_wp2_with fail
  refine (gz c.l A cap (a,b) _ hl (hrow.gr ⟨nq,#[],by rw[grow_empty]⟩)).mono ?_
  rintro e w' ⟨rfl,hg⟩
  go_wp2
  go_ret
  rw[hfin.out]
  exact ⟨rfl,(hgw.trans ⟨nq,#[],by rw[grow_empty]⟩).trans hg⟩
 ·have hn:0≤a∧a<4:=by simp[inB] at h1;omega
  have kc:=ab (iE hgr) (iI (c:=c) hn.1 hn.2)
  by_cases h2:1≤b
  ·by_cases h3:b≤clk c a
   ·have hfin:Hid (ai c (a,b)=true):=wZ h1 h2 h3
    go_wp2
    generalize (w.alloc (S #[V I c.c0,V I c.c1,V I c.c2,V I c.c3,O A c.l.length cap] 38)).alloc (S #[V I a,V I b] 95)=W at k4 d0 d1 hrow hgw kc ⊢
    clear hgr
    go_quiet ((go_at_call 92;exact Calls.quiet_of_same (fX h1 _)))
    go_wp2
    go_ret
    rw[hfin.out]
    exact ⟨rfl,(hgw.trans ⟨nq,#[],by rw[grow_empty]⟩)⟩
   ·have hfin:Hid (ai c (a,b)=mA c.l (a,b)):=mv (by simp[h3])
    have h3b:decide (b≤clk c a)=false:=by simpa using h3
    go_wp2
    generalize (w.alloc (S #[V I c.c0,V I c.c1,V I c.c2,V I c.c3,O A c.l.length cap] 38)).alloc (S #[V I a,V I b] 95)=W at k4 d0 d1 hrow hgw kc ⊢
    clear hgr
    go_quiet ((go_at_call 92;exact Calls.quiet_of_same (fX h1 _)))
    go_wp2_with fail
    refine (gz c.l A cap (a,b) _ hl (hrow.gr ⟨nq,#[],by rw[grow_empty]⟩)).mono ?_
    rintro e w' ⟨rfl,hg⟩
    go_wp2
    go_ret
    rw[hfin.out]
    exact ⟨rfl,(hgw.trans ⟨nq,#[],by rw[grow_empty]⟩).trans hg⟩
  ·have hfin:Hid (ai c (a,b)=mA c.l (a,b)):=mv (by simp[h2])
   have h2b:decide (1≤b)=false:=by simpa using h2
   clear h2
   go_wp2
   generalize (w.alloc (S #[V I c.c0,V I c.c1,V I c.c2,V I c.c3,O A c.l.length cap] 38)).alloc (S #[V I a,V I b] 95)=W at k4 d0 d1 hrow hgw kc ⊢
   clear hgr
   go_quiet ((go_at_call 92;exact Calls.quiet_of_same (fX h1 _)))
   go_wp2_with fail
   refine (gz c.l A cap (a,b) _ hl (hrow.gr ⟨nq,#[],by rw[grow_empty]⟩)).mono ?_
   rintro e w' ⟨rfl,hg⟩
   go_wp2
   go_ret
   rw[hfin.out]
   exact ⟨rfl,(hgw.trans ⟨nq,#[],by rw[grow_empty]⟩).trans hg⟩


theorem eE (t:Tab) (A:Option Addr) (ca:Nat) (D:Option Addr) (cd:Nat) (w:World) (hl:t.c.l.length≤maxLen) (hel:t.e.length≤maxLen) (hr:Row w A t.c.l) (hd:bw w D t.e) :
  Calls J 43 #[H (T6 t A ca D cd).toArray] w fun e w'=>e= Z (V I (am t))∧Gr w w':=by
 have mixed:Tryz.prog.follows .mixedOrders=true:=by kernel_rfl
 have hg0:Gr w (w.alloc (S #[V I t.c.c0,V I t.c.c1,V I t.c.c2,V I t.c.c3,O A t.c.l.length ca,O D t.e.length cd] 41)):=(gR w).alloc _
 have ht0:TabAt (w.alloc (S #[V I t.c.c0,V I t.c.c1,V I t.c.c2,V I t.c.c3,O A t.c.l.length ca,O D t.e.length cd] 41)) w.heap.size t A ca D cd:=TabAt.new 41 hr hd rfl
 have hck:=fb t.c A ca (w.alloc (S #[V I t.c.c0,V I t.c.c1,V I t.c.c2,V I t.c.c3,O A t.c.l.length ca,O D t.e.length cd] 41)) hl ht0.row
 have hckH:Hid _:=hck
 have hlH:Hid (t.c.l.length≤maxLen):=hl
 clear hck hl
 unfold maxLen at hel
 go_enter Tryz.func43,Tryz.ntmps43
 go_wp2_with fail
 refine cM (show Calls _ _ _ _ _ from hckH.out) ?_
 rintro e w1 ⟨rfl,hg1⟩
 clear hckH
 have ht1:=ht0.gr hg1
 have hgw1:Gr w w1:=hg0.trans hg1
 clear ht0 hg0 hg1
 by_cases he:aP t.c=0
 ·have heb:(aP t.c != 0)=false:=by simpa using he
  have heH:Hid (aP t.c=0):=he
  clear he
  obtain ⟨k0,k1,k2,k3,k4,k5,klt,krow,krowC⟩:=(show TabAt _ _ _ _ _ _ _ from ht1)
  by_cases h400:400<t.e.length
  ·have h400z:(400:Int)<(t.e.length:Int):=by omega
   have hfin:Hid (am t=2):=sj heH.out h400
   go_wp2
   go_ret
   rw[hfin.out]
   exact ⟨rfl,hgw1⟩
  ·have h400z:¬(400:Int)<(t.e.length:Int):=by omega
   go_wp2
   clear k0 k1 k2 k3 k4 k5 krow krowC
   go_loopw [19] (fun i wr=>∃k:Nat,k≤t.e.length∧i= V I k∧Hid (∀j,j<k→ew t j=true)∧Gr w1 wr) (fun i _=>t.e.length-(intOf i).toNat)
   case atStart=>exact ⟨0,by omega,rfl,fun j h=>by omega,gR _⟩
   case round =>
    rename World=>wr0
    obtain ⟨k,hk,rfl,hall,hgr⟩:=hrel
    by_cases hlt:k<t.e.length
    ·have hltz:(k:Int)<(t.e.length:Int):=by omega
     have htR:=ht1.gr hgr
     obtain ⟨b,off,rfl,hb,hcs⟩:=bw.get htR.rowC hlt
     obtain ⟨x,hx⟩:∃x,t.e[k]=x:=⟨_,rfl⟩
     obtain ⟨e0,e1,e2,e3,e4⟩:=hcs k hlt
     rw[hx] at e0 e1 e2 e3 e4
     have hcsH:Hid (∀j (h:j<t.e.length),_):=hcs
     have hxH:Hid (t.e[k]=x):=hx
     clear hcs hx
     have hgX:Gr wr0 (wr0.alloc (S #[V I x.1.1,V I x.1.2,V I x.2.1,V I x.2.2.1,V I x.2.2.2] 97)):=(gR _).alloc _
     have hxX:=CelAt.new (w:=wr0) x 97 rfl
     have htX:=htR.gr hgX
     obtain ⟨t0,t1,t2,t3,t4,t5,tlt,trow,trowC⟩:=(show TabAt _ _ _ _ _ _ _ from htX)
     obtain ⟨x0,x1,x2,x3,x4,xlt⟩:=(show CelAt _ _ _ from hxX)
     have hhas:=jL t.c A ca x.1 (wr0.alloc (S #[V I x.1.1,V I x.1.2,V I x.2.1,V I x.2.2.1,V I x.2.2.2] 97)) hlH.out trow
     have hhasH:Hid _:=hhas
     clear hhas
     go_wp2_with fail
     refine cM (show Calls _ _ _ _ _ from hhasH.out) ?_
     rintro e w2 ⟨rfl,hg2⟩
     clear hhasH t0 t1 t2 t3 t4 t5 x0 x1 x2 x3 x4 xlt tlt trow trowC
     have hgw2:Gr w1 w2:=(hgr.trans hgX).trans hg2
     have hx2:=hxX.gr hg2
     have ht2:=htX.gr hg2
     obtain ⟨x0,x1,x2,x3,x4,xlt⟩:=(show CelAt _ _ _ from hx2)
     cases hhb:ai t.c x.1
     ·have hfin:Hid (am t=5):=by
       refine ku heH.out (by omega) hlt ?_
       cases k with
       | zero=>rw[gI hlt hxH.out,hhb];rfl
       | succ m=>rw[eI hlt hxH.out rfl,hhb];rfl
      go_wp2
      go_ret
      rw[hfin.out]
      exact ⟨rfl,hgw1.trans hgw2⟩
     ·cases hpl:bj x.2.1 x.2.2.1 x.2.2.2
      ·have hfin:Hid (am t=5):=by
        refine ku heH.out (by omega) hlt ?_
        cases k with
        | zero=>rw[gI hlt hxH.out,hpl];simp
        | succ m=>rw[eI hlt hxH.out rfl,hpl];simp
       go_wp2_with (go_at_call 67;refine (fW hpl _).mono ?_;rintro e w' ⟨rfl,rfl⟩)
       go_ret
       rw[hfin.out]
       exact ⟨rfl,hgw1.trans hgw2⟩
      ·cases k with
       | zero =>
        have hoka:Hid (ew t 0=true):=by
         show ew t 0=true
         rw[gI hlt hxH.out,hhb,hpl];rfl
        go_wp2_with (first|(go_at_call 67;refine (fW hpl _).mono ?_;rintro e w2 ⟨rfl,rfl⟩)|fail)
        refine wp_region_quiet_grown mixed (by kernel_rfl) ?_
        repeat (go_big_quiet_step (fail))
        refine wpQuiet_nil ?_
        rintro _ ⟨⟨nq2,osq2⟩,rfl⟩
        go_wp2
        go_roundw
        case rel =>
         refine ⟨_,hlt,by go_num,?_,hgw2.trans ⟨nq2,osq2,rfl⟩⟩
         intro j hj
         by_cases e:j=0
         ·rw[e];exact hoka.out
         ·exact hall j (by omega)
        case measure=>simp[intOf];omega
       | succ m =>
        obtain ⟨y,hy⟩:∃y,t.e[m]=y:=⟨_,rfl⟩
        obtain ⟨f0,f1,f2,f3,f4⟩:=hcsH.out m (by omega)
        rw[hy] at f0 f1 f2 f3 f4
        have hyH:Hid (t.e[m]=y):=hy
        clear hy
        have hg02:Gr wr0 w2:=hgX.trans hg2
        have q0:=hg02.cellG (a:=⟨b,off+m*5,none⟩) hb f0
        have q1:=hg02.cellG (a:=⟨b,off+m*5+1,none⟩) hb f1
        have q2:=hg02.cellG (a:=⟨b,off+m*5+2,none⟩) hb f2
        have q3:=hg02.cellG (a:=⟨b,off+m*5+3,none⟩) hb f3
        have q4:=hg02.cellG (a:=⟨b,off+m*5+4,none⟩) hb f4
        have p5:=(gR w2).cellG (a:=⟨w.heap.size,5,none⟩) ht2.lt ht2.k5
        have p0:=(gR w2).cellG (a:=⟨wr0.heap.size,0,none⟩) xlt x0
        have p1:=(gR w2).cellG (a:=⟨wr0.heap.size,1,none⟩) xlt x1
        have p2:=(gR w2).cellG (a:=⟨wr0.heap.size,2,none⟩) xlt x2
        have p3:=(gR w2).cellG (a:=⟨wr0.heap.size,3,none⟩) xlt x3
        have p4:=(gR w2).cellG (a:=⟨wr0.heap.size,4,none⟩) xlt x4
        clear f0 f1 f2 f3 f4
        cases hbe:bD y.1 x.1
        ·have hfin:Hid (am t=5):=ku heH.out (by omega) hlt (by rw[eI hlt hxH.out hyH.out,hhb,hpl,hbe];rfl)
         have hge:=iu hbe
         go_wp2_with (first|(go_at_call 67;refine (fW hpl _).mono ?_;rintro e w2 ⟨rfl,rfl⟩)|fail)
         refine wp_region_quiet_grown mixed (by kernel_rfl) ?_
         repeat (go_big_quiet_step ((go_at_call 68;refine Calls.grown_of (gh rfl _))))
         refine wpQuiet_nil ?_
         rintro _ ⟨⟨nq2,osq2⟩,rfl⟩
         go_wp2
         go_ret
         rw[hfin.out]
         exact ⟨rfl,hgw1.trans (hgw2.trans ⟨nq2,osq2,rfl⟩)⟩
        ·have hge:=ir hbe
         have hoka:Hid (ew t (m+1)=true):=by
          show ew t (m+1)=true
          rw[eI hlt hxH.out hyH.out,hhb,hpl,hbe];rfl
         go_wp2_with (first|(go_at_call 67;refine (fW hpl _).mono ?_;rintro e w2 ⟨rfl,rfl⟩)|fail)
         refine wp_region_quiet_grown mixed (by kernel_rfl) ?_
         repeat (go_big_quiet_step ((go_at_call 68;refine Calls.grown_of (gh hge _))))
         refine wpQuiet_nil ?_
         rintro _ ⟨⟨nq2,osq2⟩,rfl⟩
         go_wp2
         go_roundw
         case rel =>
          refine ⟨_,hlt,by go_num,?_,hgw2.trans ⟨nq2,osq2,rfl⟩⟩
          intro j hj
          by_cases e:j=m+1
          ·rw[e];exact hoka.out
          ·exact hall j (by omega)
         case measure=>simp[intOf];omega
    ·have hltz:¬(k:Int)<(t.e.length:Int):=by omega
     have hfin:Hid (am t=0):=tH heH.out (by omega) fun j hj=>hall j (by omega)
     go_wp2
     go_ret
     rw[hfin.out]
     exact ⟨rfl,hgw1.trans hgr⟩
 ·have heb:(aP t.c != 0)=true:=by simpa using he
  have hfin:Hid (am t=aP t.c):=wM he
  clear he
  go_wp2
  go_ret
  rw[hfin.out]
  exact ⟨rfl,hgw1⟩


theorem qN (c:Ctx) (l:List (Int×Int)) (A:Option Addr) (cap:Nat) (w:World) (hc0:c.l=[]) (hok:bF c=true) (hl:l.length≤800) (hri:∀x∈l,ar x=true) (hr:Row w A l) :
  Calls J 163 #[H #[V I c.c0,V I c.c1,V I c.c2,V I c.c3],O A l.length cap] w fun e w'=>∃C cp,e= Z (H #[V I (av c l l.length).c0,V I (av c l l.length).c1,V I (av c l l.length).c2,V I (av c l l.length).c3,O C (av c l l.length).l.length cp])∧Row w' C (av c l l.length).l∧(C=none→cp=0)∧(∀a,C=some a→w.heap.size≤a.block)∧Below w.heap.size w w':=by
 have hE:=xA
 have hG:=mu
 have hH:Hid (c.l=[]∧bF c=true∧(∀x∈l,ar x=true)):=⟨hc0,hok,hri⟩
 clear hc0 hok hri
 go_enter Tryz.func163,Tryz.ntmps163
 go_wp2
 go_loopw [13] (fun i wr=>∃k:Nat,k≤l.length∧i= V I k∧CB wr (w.heap.size+1+1) (w.heap.size+1+1+1) (av c l k)∧Below (w.heap.size+1+1) ((w.alloc (S #[V I c.c0,V I c.c1,V I c.c2,V I c.c3] 35)).alloc (S #[V I 0,V I 0,V I 0,V I 0,O none 0 0] 38)) wr) (fun i _=>l.length-(intOf i).toNat)
 case atStart =>
  refine ⟨0,nZ _,rfl,?_,(bR _ _).alloc (by simp) _⟩
  have:=CB.start ((w.alloc (S #[V I c.c0,V I c.c1,V I c.c2,V I c.c3] 35)).alloc (S #[V I 0,V I 0,V I 0,V I 0,O none 0 0] 38)) hH.out.1 38
  show CB _ _ _ c
  simpa using this
 case round =>
  obtain ⟨k,hk,rfl,hCB,hbel⟩:=hrel
  have hbw:Hid (Below w.heap.size w wr):=(((bR _ w).alloc (nR _) _).alloc (by simp) _).trans (hbel.mono (by omega))
  have hBlt:=hCB.lt
  by_cases hlt:k<l.length
  ·have hltz:(k:Int)<(l.length:Int):=by omega
   obtain ⟨b,off,rfl,hb,hcs⟩:=(hr.below hbw.out).at hlt
   obtain ⟨x,y,hx⟩:∃x y,l[k]=(x,y):=⟨_,_,rfl⟩
   have e0:=(hcs k hlt).1
   have e1:=(hcs k hlt).2
   rw[hx] at e0 e1
   have hcsH:Hid (∀j (h:j<l.length),_):=hcs
   have hxH:Hid (l[k]=(x,y)):=hx
   have hn:=dY (hH.out.2.2 (x,y) (by rw[←hx];exact gM hlt))
   have hFc:=cE (sv hH.out.2.1 hH.out.2.2 k hk) x hn.1 hn.2.1
   have kc:=hCB.clk hn.1 hn.2.1
   have kf:=hCB.fz x.toNat
   simp only at hn
   clear hcs hx
   by_cases h1:y≤clk (av c l k) x
   ·have hst:Hid (av c l (k+1)=av c l k):=by
     cases k with
     | zero=>show av c l 1=_;rw[il hlt hxH.out];exact ua h1
     | succ m=>show av c l (m+2)=_;rw[fB hlt hxH.out rfl];exact ua h1
    go_wp2
    go_roundw
    case rel=>exact ⟨k+1,by omega,by go_num,by rw[hst.out];exact hCB.gr ((gR _).alloc _),hbel.alloc (by omega) _⟩
    case measure=>simp[intOf];omega
   ·by_cases h2:y=clk (av c l k) x+1
    ·have hst:Hid (av c l (k+1)=setClk (av c l k) x y):=by
      cases k with
      | zero=>show av c l 1=_;rw[il hlt hxH.out];exact tZ h2
      | succ m=>show av c l (m+2)=_;rw[fB hlt hxH.out rfl];exact tZ h2
     have h1b:decide (y≤clk (av c l k) x)=false:=by simpa using h1
     have h2b:(y==clk (av c l k) x+1)=true:=by simpa using h2
     have h2H:Hid (y=clk (av c l k) x+1):=h2
     clear h2 h1
     go_wp2
     go_roundw
     case rel=>exact ⟨k+1,by omega,by go_num,by rw[hst.out];exact (hCB.setClk hn.1 hn.2.1 y).gr ((gR _).alloc _),(hbel.setCell (nR _) _).alloc (by simp only[World.setCell,Array.size_modify];omega) _⟩
     case measure=>simp[intOf];omega
    ·have h1b:decide (y≤clk (av c l k) x)=false:=by simpa using h1
     have h2b:(y==clk (av c l k) x+1)=false:=by simpa using h2
     have h12:Hid (¬y≤clk (av c l k) x∧¬y=clk (av c l k) x+1):=⟨h1,h2⟩
     clear h1 h2
     obtain ⟨v,k4,hov⟩:=hCB.v
     have hovH:Hid (Own wr (w.heap.size+1+1+1) v (av c l k).l):=hov
     have hlen:=jm c l k
     have hbd:Hid (((av c l k).l.length+[(x,y)].length)*16≤140737488355328):=by
      have:=hH.out.1
      rw[this] at hlen
      simp only[List.length_nil,List.length_cons] at hlen ⊢
      show _≤_
      omega
     clear hov hlen
     cases k with
     | zero =>
      have hst:Hid (av c l 1={ av c l 0 with l:=(av c l 0).l++[(x,y)] }):=by
       show av c l 1=_
       rw[il hlt hxH.out]
       exact rF h12.out.1 h12.out.2 (by simp)
      simp only[Nat.zero_mul,Nat.add_zero] at e0 e1
      go_wp2
      go_quiet (fail)
      go_wp2_with (at_builtin;refine aJ _ rfl (.tmp 53) (.tmp 55) rfl (w.heap.size+1+1+1) v (av c l 0).l [(x,y)] (some ⟨wr.heap.size+1,0,none⟩) 1 rfl rfl ?ho ?hr (fun h=>by cases h) hbd.out ?hs ?_)
      case ho=>exact hovH.out.gr ((((gR wr).alloc _).drewN nq).alloc _)
      case hr=>exact iz (by simp) x y _
      case hs=>simp;omega
      intro v1 w1 hown1 hgr1 _
      obtain ⟨C,cp,rfl,hC,-,-⟩:=hown1.row
      have hgA:Gr wr (((wr.alloc (S #[V I x,V I y] 95)).drewN nq).alloc (S #[V I x,V I y] 95)):=(((gR wr).alloc _).drewN nq).alloc _
      have hb1:Below (w.heap.size+1+1+1) (((wr.alloc (S #[V I x,V I y] 95)).drewN nq).alloc (S #[V I x,V I y] 95)) w1:=Own.grown_below (hovH.out.gr hgA) hgr1 (by simp;omega)
      have hfin:=(hCB.gr hgA).setL hb1 hown1
      have hbel1:Below (w.heap.size+1+1) ((w.alloc (S #[V I c.c0,V I c.c1,V I c.c2,V I c.c3] 35)).alloc (S #[V I 0,V I 0,V I 0,V I 0,O none 0 0] 38)) w1:=(hbel.trans (hgA.below.mono (by omega))).trans (hb1.mono (by omega))
      have c4:w1.cell? ⟨w.heap.size+1+1,4,none⟩=some v:=(hb1.cell (p:=⟨w.heap.size+1+1,4,none⟩) (by simp)).trans ((hgA.cell (p:=⟨w.heap.size+1+1,4,none⟩) hBlt).trans k4)
      have f4:w1.frozen? ⟨w.heap.size+1+1,4,none⟩=false:=(hb1.frozen (p:=⟨w.heap.size+1+1,4,none⟩) (by simp)).trans ((hCB.gr hgA).fz 4)
      have hfinH:Hid (CB _ _ _ _):=hfin
      have hbelH:Hid (Below _ _ _):=hbel1
      clear hfin hbel1 hb1 hgA hgr1 hown1 hbel hCB k4 kc kf e0 e1
      go_wp2
      go_roundw
      case rel=>exact ⟨1,hlt,by go_num,by rw[hst.out];have:=hfinH.out;simp only[List.length_append,List.length_cons,List.length_nil,Nat.zero_add] at this;exact this,hbelH.out.setCell (nR _) _⟩
      case measure=>simp[intOf];omega
     | succ m =>
      obtain ⟨x',y',hx'⟩:∃x' y',l[m]=(x',y'):=⟨_,_,rfl⟩
      have g0:=(hcsH.out m (by omega)).1
      have g1:=(hcsH.out m (by omega)).2
      rw[hx'] at g0 g1
      have hxH':Hid (l[m]=(x',y')):=hx'
      clear hx'
      have hm0:((m:Int)+1==0)=false:=by simp;omega
      cases hq:(x'==x && y'==y)
      ·have hst:Hid (av c l (m+2)={ av c l (m+1) with l:=(av c l (m+1)).l++[(x,y)] }):=by
        show av c l (m+2)=_
        rw[fB hlt hxH.out hxH'.out]
        refine rF h12.out.1 h12.out.2 ?_
        intro h
        injection h with h
        injection h with h1 h2
        subst h1 h2
        simp at hq
       go_wp2
       go_quiet (fail)
       go_wp2_with (at_builtin;refine aJ _ rfl (.tmp 53) (.tmp 55) rfl (w.heap.size+1+1+1) v (av c l (m+1)).l [(x,y)] (some ⟨wr.heap.size+1,0,none⟩) 1 rfl rfl ?ho ?hr (fun h=>by cases h) hbd.out ?hs ?_)
       case ho=>exact hovH.out.gr ((((gR wr).alloc _).drewN nq).alloc _)
       case hr=>exact iz (by simp) x y _
       case hs=>simp;omega
       intro v1 w1 hown1 hgr1 _
       obtain ⟨C,cp,rfl,hC,-,-⟩:=hown1.row
       have hgA:Gr wr (((wr.alloc (S #[V I x,V I y] 95)).drewN nq).alloc (S #[V I x,V I y] 95)):=(((gR wr).alloc _).drewN nq).alloc _
       have hb1:Below (w.heap.size+1+1+1) (((wr.alloc (S #[V I x,V I y] 95)).drewN nq).alloc (S #[V I x,V I y] 95)) w1:=Own.grown_below (hovH.out.gr hgA) hgr1 (by simp;omega)
       have hfin:=(hCB.gr hgA).setL hb1 hown1
       have hbel1:Below (w.heap.size+1+1) ((w.alloc (S #[V I c.c0,V I c.c1,V I c.c2,V I c.c3] 35)).alloc (S #[V I 0,V I 0,V I 0,V I 0,O none 0 0] 38)) w1:=(hbel.trans (hgA.below.mono (by omega))).trans (hb1.mono (by omega))
       have c4:w1.cell? ⟨w.heap.size+1+1,4,none⟩=some v:=(hb1.cell (p:=⟨w.heap.size+1+1,4,none⟩) (by simp)).trans ((hgA.cell (p:=⟨w.heap.size+1+1,4,none⟩) hBlt).trans k4)
       have f4:w1.frozen? ⟨w.heap.size+1+1,4,none⟩=false:=(hb1.frozen (p:=⟨w.heap.size+1+1,4,none⟩) (by simp)).trans ((hCB.gr hgA).fz 4)
       have hfinH:Hid (CB _ _ _ _):=hfin
       have hbelH:Hid (Below _ _ _):=hbel1
       clear hfin hbel1 hb1 hgA hgr1 hown1 hbel hCB k4 kc kf e0 e1
       go_wp2
       go_roundw
       case rel=>exact ⟨m+2,hlt,by go_num,by rw[hst.out];have:=hfinH.out;simp only[List.length_append,List.length_cons,List.length_nil,Nat.zero_add] at this;exact this,hbelH.out.setCell (nR _) _⟩
       case measure=>simp[intOf];omega
      ·have hst:Hid (av c l (m+2)=av c l (m+1)):=by
        show av c l (m+2)=_
        rw[fB hlt hxH.out hxH'.out]
        simp only[Bool.and_eq_true,beq_iff_eq] at hq
        rw[hq.1,hq.2]
        exact yd h12.out.1 h12.out.2
       go_wp2
       go_quiet (fail)
       go_wp2
       go_roundw
       case rel=>exact ⟨m+2,hlt,by go_num,by rw[hst.out];exact hCB.gr (((gR _).alloc _).drewN nq),(hbel.alloc (by omega) _).trans ((((gR _).drewN nq).below).mono (by simp;omega))⟩
       case measure=>simp[intOf];omega
  ·have hltz:¬(k:Int)<(l.length:Int):=by omega
   obtain rfl:k=l.length:=by omega
   obtain ⟨F,hF⟩:∃F,av c l l.length=F:=⟨_,rfl⟩
   rw[hF] at hCB
   have HF:Hid (av c l l.length=F):=hF
   clear hF
   obtain ⟨v,k0,k1,k2,k3,k4,hov,hf,hBb,hBs⟩:=hCB
   obtain ⟨C,cp,rfl,hC,hrow,hCb⟩:=hov.row
   have r0:=(hbel.cell (p:=⟨w.heap.size+1,0,none⟩) (by simp)).trans (show _=some (V I 0) by go_simp)
   have r1:=(hbel.cell (p:=⟨w.heap.size+1,1,none⟩) (by simp)).trans (show _=some (V I 0) by go_simp)
   have r2:=(hbel.cell (p:=⟨w.heap.size+1,2,none⟩) (by simp)).trans (show _=some (V I 0) by go_simp)
   have r3:=(hbel.cell (p:=⟨w.heap.size+1,3,none⟩) (by simp)).trans (show _=some (V I 0) by go_simp)
   have r4:=(hbel.cell (p:=⟨w.heap.size+1,4,none⟩) (by simp)).trans (show _=some (O none 0 0) by go_simp)
   have rf:∀j,wr.frozen? ⟨w.heap.size+1,j,none⟩=false:=fun j=>(hbel.frozen (p:=⟨w.heap.size+1,j,none⟩) (by simp)).trans (by simp)
   have hovH:Hid (Own _ _ _ _):=hov
   clear hov hf
   have hCn:∀a,C=some a→a.block≠w.heap.size+1:=fun a ha=>by have:=(hCb a ha).1;omega
   go_wp2
   rw[HF.out]
   refine bodyPost_ret (v:= H #[V I F.c0,V I F.c1,V I F.c2,V I F.c3,O C F.l.length cp]) (by simp[results,Tryz.results163,go_sem,r0,r1,r2,r3,r4]) rfl ⟨C,cp,rfl,?_,hC,fun a ha=>by have:=(hCb a ha).1;omega,?_⟩
   ·exact ((((hrow.setCell _ hCn).setCell _ hCn).setCell _ hCn).setCell _ hCn).setCell _ hCn
   ·exact ((((hbw.out.setCell (by simp) _).setCell (by simp) _).setCell (by simp) _).setCell (by simp) _).setCell (by simp) _
end Go.Proofs.YtkefkplnamkicaaGreatDoor

namespace Go.Proofs
open Go.Shelf
def Tryz.sortDot_ren:Go.Shelf.Ren:=⟨fun|6=>196|15=>103|14=>211|28=>152|29=>153|20=>236|21=>237|22=>238|23=>239|24=>240|25=>241|26=>242|27=>243|46=>256|47=>191|48=>192|49=>257|50=>258|57=>263|n=>n,fun|22=>36|24=>95|25=>168|3=>3|39=>179|0=>0|53=>227|55=>229|4=>4|46=>221|45=>220|50=>162|5=>5|9=>9|66=>253|70=>164|76=>274|77=>275|n=>n,fun|n=>n⟩
theorem Tryz.sortDot:Go.Proofs.SlLaysF0.n6 J Tryz.sortDot_ren:={
 mixed:=by kernel_rfl
 f6:=⟨Tryz.f196.name,by decide,Tryz.func196.trans (congrArg some (by kernel_rfl))⟩
 f14:=⟨Tryz.f211.name,by decide,Tryz.func211.trans (congrArg some (by kernel_rfl))⟩
 f15:=Tryz.func103.trans (congrArg some (by kernel_rfl))
 f20:=⟨Tryz.f236.name,by decide,Tryz.func236.trans (congrArg some (by kernel_rfl))⟩
 f21:=⟨Tryz.f237.name,by decide,Tryz.func237.trans (congrArg some (by kernel_rfl))⟩
 f22:=⟨Tryz.f238.name,by decide,Tryz.func238.trans (congrArg some (by kernel_rfl))⟩
 f23:=⟨Tryz.f239.name,by decide,Tryz.func239.trans (congrArg some (by kernel_rfl))⟩
 f24:=⟨Tryz.f240.name,by decide,Tryz.func240.trans (congrArg some (by kernel_rfl))⟩
 f25:=⟨Tryz.f241.name,by decide,Tryz.func241.trans (congrArg some (by kernel_rfl))⟩
 f26:=⟨Tryz.f242.name,by decide,Tryz.func242.trans (congrArg some (by kernel_rfl))⟩
 f27:=⟨Tryz.f243.name,by decide,Tryz.func243.trans (congrArg some (by kernel_rfl))⟩
 f28:=Tryz.func152.trans (congrArg some (by kernel_rfl))
 f29:=Tryz.func153.trans (congrArg some (by kernel_rfl))
 f46:=⟨Tryz.f256.name,by decide,Tryz.func256.trans (congrArg some (by kernel_rfl))⟩
 f47:=Tryz.func191.trans (congrArg some (by kernel_rfl))
 f48:=Tryz.func192.trans (congrArg some (by kernel_rfl))
 f49:=⟨Tryz.f257.name,by decide,Tryz.func257.trans (congrArg some (by kernel_rfl))⟩
 f50:=⟨Tryz.f258.name,by decide,Tryz.func258.trans (congrArg some (by kernel_rfl))⟩
 f57:=⟨Tryz.f263.name,by decide,Tryz.func263.trans (congrArg some (by kernel_rfl))⟩
 t0:=Tryz.underlying0
 a0:=Tryz.isAgg0
 z0:=Tryz.sizeOf0
 v0:=Tryz.zeroValue0
 t3:=Tryz.underlying3
 a3:=Tryz.isAgg3
 z3:=Tryz.sizeOf3
 v3:=Tryz.zeroValue3
 t4:=Tryz.underlying4
 a4:=Tryz.isAgg4
 z4:=Tryz.sizeOf4
 v4:=Tryz.zeroValue4
 t5:=Tryz.underlying5
 a5:=Tryz.isAgg5
 z5:=Tryz.sizeOf5
 v5:=Tryz.zeroValue5
 t9:=Tryz.underlying9
 a9:=Tryz.isAgg9
 z9:=Tryz.sizeOf9
 v9:=Tryz.zeroValue9
 t22:=Tryz.underlying36
 a22:=Tryz.isAgg36
 z22:=Tryz.sizeOf36
 v22:=Tryz.zeroValue36
 t25:=Tryz.underlying168
 a25:=Tryz.isAgg168
 z25:=Tryz.sizeOf168
 v25:=Tryz.zeroValue168
 t39:=Tryz.underlying179
 a39:=Tryz.isAgg179
 z39:=Tryz.sizeOf179
 v39:=Tryz.zeroValue179
 t45:=Tryz.underlying220
 a45:=Tryz.isAgg220
 z45:=Tryz.sizeOf220
 v45:=Tryz.zeroValue220
 t46:=Tryz.underlying221
 a46:=Tryz.isAgg221
 z46:=Tryz.sizeOf221
 v46:=Tryz.zeroValue221
 t50:=Tryz.underlying162
 a50:=Tryz.isAgg162
 z50:=Tryz.sizeOf162
 v50:=Tryz.zeroValue162
 t53:=Tryz.underlying227
 a53:=Tryz.isAgg227
 z53:=Tryz.sizeOf227
 v53:=Tryz.zeroValue227
 t55:=Tryz.underlying229
 a55:=Tryz.isAgg229
 z55:=Tryz.sizeOf229
 v55:=Tryz.zeroValue229
 t66:=Tryz.underlying253
 a66:=Tryz.isAgg253
 z66:=Tryz.sizeOf253
 v66:=Tryz.zeroValue253
 t70:=Tryz.underlying164
 a70:=Tryz.isAgg164
 z70:=Tryz.sizeOf164
 v70:=Tryz.zeroValue164
 t76:=Tryz.underlying274
 a76:=Tryz.isAgg274
 z76:=Tryz.sizeOf274
 v76:=Tryz.zeroValue274
 t77:=Tryz.underlying275
 a77:=Tryz.isAgg275
 z77:=Tryz.sizeOf275
 v77:=Tryz.zeroValue275 }
end Go.Proofs

namespace Go.Proofs.YtkefkplnamkicaaGreatDoor
open Go.RowKit Go.Sort Go.Shelf Go.Lib

def nD (x:Int×Int):List Value:=[V I x.1,V I x.2]

theorem ltD (x y:Int×Int):ltOf eh x y=bD x y:=by
 unfold ltOf
 cases h:bD x y
 ·have:=iu h
  simp;omega
 ·rw[ir h];simp

theorem jD (x y:Int×Int):bD x y=true↔x.1<y.1∨(x.1=y.1∧x.2<y.2):=by simp[bD]
theorem lQ (x y:Int×Int):bD x y=false↔y.1<x.1∨(x.1=y.1∧y.2≤x.2):=by
 simp[bD];omega

theorem BT:SWO (ltOf eh) where
 irrefl x:=by rw[ltD];simp[bD]
 trans x y z h1 h2:=by rw[ltD,jD] at *;omega
 ntrans x y z h1 h2:=by rw[ltD,lQ] at *;omega

theorem BU (x y:Int×Int) (h1:ltOf eh x y=false) (h2:ltOf eh y x=false):x=y:=by
 rw[ltD,lQ] at *
 exact Prod.ext (by omega) (by omega)

def srt (l:List (Int×Int)):List (Int×Int):=l.mergeSort fun x y=> !ltOf eh y x

theorem fm (l:List (Int×Int)):(srt l).length=l.length:=by simp[srt]

theorem BL (blk off size:Nat) (w:World):CmpLays J 91 #[] nD 2 eh blk off size w :=
 fun _ _ _ _ x y=>kE x y _

theorem At {w:World} {g off:Nat} {l:List (Int×Int)} (hc:∀j (h:j<l.length),w.cell? ⟨g,off+j*2,none⟩=some (V I l[j].1)∧w.cell? ⟨g,off+j*2+1,none⟩=some (V I l[j].2)) (hf:∀j,w.frozen? ⟨g,j,none⟩=false):HoldsK nD 2 w g off l.toArray:=by
 intro t ht
 rw[size_flatK] at ht
 rw[get_flatK _ _ _ t ht]
 simp only[List.size_toArray] at ht
 have hk:t / 2<l.length:=by omega
 refine ⟨?_,hf _⟩
 have e:l.toArray[t / 2]! = l[t / 2]:=by simp[hk]
 rw[e]
 have:=hc (t / 2) hk
 by_cases he:t % 2=0
 ·rw[he,show off+t=off+t / 2*2 from by omega,this.1];rfl
 ·rw[show t % 2=1 from by omega,show off+t=off+t / 2*2+1 from by omega,this.2];rfl

theorem BQ {w:World} {g off:Nat} {l:List (Int×Int)} (h:HoldsK nD 2 w g off l.toArray) (hg:g<w.heap.size):Row w (some ⟨g,off,none⟩) l:=by
 refine oR ⟨g,off,rfl,hg,fun j hj=> ?_⟩
 have h0:=(h (j*2) (by rw[size_flatK];simp;omega)).1
 have h1:=(h (j*2+1) (by rw[size_flatK];simp;omega)).1
 rw[get_flatK _ _ _ _ (by simp;omega)] at h0 h1
 rw[show j*2 / 2=j from by omega,show j*2 % 2=0 from by omega] at h0
 rw[show (j*2+1) / 2=j from by omega,show (j*2+1) % 2=1 from by omega] at h1
 have e:l.toArray[j]! = l[j]:=by simp[hj]
 rw[e] at h0 h1
 exact ⟨h0,h1⟩

theorem rU {w:World} {g n base:Nat} {os:Array Obj} {d:Array (Int×Int)} (hb:base≤g) (hs:base≤w.heap.size):Below base w (sortWorldK nD 2 w g 0 n d os):=by
 refine ⟨rfl,rfl,rfl,by simp[sortWorldK,grow,putRowK],fun k hk=> ?_⟩
 show ((putRowK nD 2 (Sort.ahead w n) g 0 d).heap++os)[k]? = _
 rw[Array.getElem?_append_left (by simp[putRowK];omega)]
 show ((Sort.ahead w n).heap.modify g _)[k]? = _
 rw[Array.getElem?_modify,if_neg (by omega)]
 rfl

theorem Bn (g cap:Nat) (l:List (Int×Int)) (w:World) (hH:HoldsK nD 2 w g 0 l.toArray) (hg:g<w.heap.size) (hsz:l.length<4611686018427387904) :
  Calls J 196 #[O (some ⟨g,0,none⟩) l.length cap,.func (.func 91) #[] #[]] w fun e w'=>e= Z (.tuple #[])∧Row w' (some ⟨g,0,none⟩) (srt l)∧∀base,base≤g→base≤w.heap.size→Below base w w':=by
 have eg:∀args w,(callFunc 91 args).run J w= .ok (.enter 91 args) w:=enters_of Tryz.func91 (by kernel_rfl) rfl
 have hcon:=AnyQ.slices_SortFunc_total Tryz.sortDot 2 Tryz.isAgg95 Tryz.sizeOf95 nD (fun _=>rfl) (fun x v hv=>by simp[nD] at hv;rcases hv with rfl|rfl<;>rfl) eh BT 91 #[] g 0 cap l.toArray w eg (BL g 0 _ w) hH hg (by simpa using hsz) BU
 change Calls J 196 _ _ _ at hcon
 simp only[List.size_toArray] at hcon
 refine hcon.mono ?_
 rintro e w' ⟨he,n,os,hw⟩
 refine ⟨he,?_,fun base h1 h2=>by rw[hw];exact rU h1 h2⟩
 have hH':HoldsK nD 2 w' g 0 (srt l).toArray:=by
  rw[hw]
  refine holdsK_grow _ _ _ _ _ _ _ (by simp[putRowK];exact hg) ?_
  exact holdsK_putRowK _ _ _ _ _ l.toArray _ (holdsK_ahead _ _ _ _ _ _ _ hH) (by simp)
 refine BQ hH' ?_
 rw[hw]
 simp[sortWorldK,grow,putRowK]
 omega

theorem zO (base:Nat) (v:Value) (l:List (Int×Int)) (w:World) (hown:Own w base v l) (hb:base≤w.heap.size) (hsz:l.length<4611686018427387904) :
  Calls J 196 #[v,.func (.func 91) #[] #[]] w fun e w'=>e= Z (.tuple #[])∧(∃C cap,v= O C (srt l).length cap∧Row w' C (srt l))∧Below base w w':=by
 rcases hown.2 with ⟨hv,hn⟩|⟨g,cap,cur,hv,hbg,hg,_⟩
 ·obtain rfl:l=[]:=List.eq_nil_of_length_eq_zero hn
  have hcon:=AnyF.slices_SortFunc_none Tryz.sortDot none 0 (.func (.func 91) #[] #[]) w
  change Calls J 196 _ _ _ at hcon
  rw[hv]
  refine hcon.mono ?_
  rintro e w' ⟨he,rfl⟩
  exact ⟨he,⟨none,0,by simp[srt],oL (by simp[srt])⟩,bR _ _⟩
 ·have hlt:g<w.heap.size:=(Array.getElem?_eq_some_iff.1 hg).1
  have hc:=hown.cells (g:=g) (by rw[hv];rfl)
  have hH:HoldsK nD 2 w g 0 l.toArray:=by
   refine At (fun j hj=> ?_) (fun j=> ?_)
   ·have e:=ml l j hj
    have c0:=hc _ _ e.1
    have c1:=hc _ _ e.2
    rw[Addr.add_lit] at c0 c1
    exact ⟨c0,c1⟩
   ·have:=World.ownsRow.frozenAt (by rw[←hv];exact hown) (g:=g) (cap:=cap) j
    exact this
  rw[hv]
  refine (Bn g cap l w hH hlt hsz).mono ?_
  rintro e w' ⟨he,hrow,hbel⟩
  exact ⟨he,⟨_,cap,by rw[fm],hrow⟩,hbel base hbg hb⟩

theorem mU (a b:List (Int×Int)) (A B:Option Addr) (ca cb:Nat) (w:World) (ha:Row w A a) (hb:Row w B b) (hA:A=none→ca=0) (hB:B=none→cb=0) (hal:a.length≤400) (hbl:b.length≤400) :
  Calls J 164 #[O A a.length ca,O B b.length cb] w fun e w'=>∃C cap,e= Z (O C (srt (a++b)).length cap)∧Row w' C (srt (a++b))∧Below w.heap.size w w':=by
 obtain ⟨i0,hi,hz0,hz1,hz2⟩:=info_parts Tryz.info95
 go_enter Tryz.func164,Tryz.ntmps164
 have hbd:(a.length+b.length)*16≤140737488355328:=by omega
 have hbd0:(([]:List (Int×Int)).length+a.length)*16≤140737488355328:=by simp;omega
 go_wp2_with (first|(at_make;refine wpList_make_own _ rfl _ (.tmp 10) 36 rfl w.heap.size 95 i0 _ 2 Tryz.underlying36 hi hz0 hz1 I I _ (a.length+b.length) rfl rfl (by omega) (by rw[hz2];omega) (by unfold maxLen;omega) (nR _) ?_;intro w1 hown1 hgr1)|(at_builtin;refine aJ _ rfl (.tmp 12) (.tmp 13) rfl w.heap.size (O (some ⟨w.heap.size,0,none⟩) 0 (a.length+b.length)) [] a A ca rfl rfl hown1 (ha.below ((bR _ w).grown hgr1 (nR _) (fun k e=>by cases e))) hA hbd0 hgr1.size ?_;intro v2 w2 hown2 hgr2 _;simp only[List.nil_append] at hown2)|(at_builtin;refine aJ _ rfl (.tmp 15) (.tmp 16) rfl w.heap.size v2 a b B cb rfl rfl hown2 (hb.below (((bR _ w).grown hgr1 (nR _) (fun k e=>by cases e)).trans (Own.grown_below (l:=[]) hown1 hgr2 hgr1.size))) hB hbd (nT hgr1.size hgr2.size) ?_;intro v3 w3 hown3 hgr3 _)|fail)
 have hb3:Below w.heap.size w w3:=(((bR _ w).grown hgr1 (nR _) (fun k e=>by cases e)).trans (Own.grown_below (l:=[]) hown1 hgr2 hgr1.size)).trans (hown2.grown_below hgr3 (nT hgr1.size hgr2.size))
 refine (zO w.heap.size v3 (a++b) w3 hown3 hb3.size (by rw[List.length_append];omega)).mono ?_
 rintro e w4 ⟨rfl,⟨C,cap,hv,hrow⟩,hbel⟩
 have hbel4:=hb3.trans hbel
 clear hown1 hgr1 hown2 hgr2 hown3 hgr3 hb3 hbel
 go_wp2
 go_ret
 exact ⟨C,cap,by rw[←hv];rfl,hrow,hbel4⟩
end Go.Proofs.YtkefkplnamkicaaGreatDoor
