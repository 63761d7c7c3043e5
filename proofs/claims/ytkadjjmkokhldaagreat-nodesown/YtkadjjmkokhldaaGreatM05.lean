/-
  table.Check: it says what is wrong with a table.
  dot.fold: what it makes of a clock and of dots that are right and in order, step by step.
  The library's slices.SortFunc at dots: where its functions and types stand in this program.
-/
import Derived.Test.YtkadjjmkokhldaaGreatM03
import Derived.Test.YtkadjjmkokhldaaGreatM04
import Derived.Test.YtkadjjmkokhldaaGreatM02
import Derived.Shelf.SlSortCmp.NoneTotal
import Derived.Shelf.SlGeneric
import Derived.Test.YtkadjjmkokhldaaGreatProg
namespace Go.Proofs.YtkadjjmkokhldaaGreat
open Go.RowKit Go.Sort

set_option maxHeartbeats 4000000 in
theorem checkT_any (t:Tab) (A:Option Addr) (ca:Nat) (D:Option Addr) (cd:Nat) (w:World) (hl:t.c.l.length≤maxLen) (hel:t.e.length≤maxLen) (hr:Row w A t.c.l) (hd:RowC w D t.e) :
  Calls Tryz.prog 38 #[.agg #[.int .i64 t.c.c0,.int .i64 t.c.c1,.int .i64 t.c.c2,.int .i64 t.c.c3,.slice A t.c.l.length ca,.slice D t.e.length cd]] w fun e w'=>e= .returned (.int .i64 (errT t))∧Gr w w':=by
 have mixed:Tryz.prog.follows .mixedOrders=true:=by kernel_rfl
 have hg0:Gr w (w.alloc (.cells #[.int .i64 t.c.c0,.int .i64 t.c.c1,.int .i64 t.c.c2,.int .i64 t.c.c3,.slice A t.c.l.length ca,.slice D t.e.length cd] 37)):=(Gr.refl w).alloc _
 have ht0:TabAt (w.alloc (.cells #[.int .i64 t.c.c0,.int .i64 t.c.c1,.int .i64 t.c.c2,.int .i64 t.c.c3,.slice A t.c.l.length ca,.slice D t.e.length cd] 37)) w.heap.size t A ca D cd:=TabAt.new 37 hr hd rfl
 have hck:=check_any t.c A ca (w.alloc (.cells #[.int .i64 t.c.c0,.int .i64 t.c.c1,.int .i64 t.c.c2,.int .i64 t.c.c3,.slice A t.c.l.length ca,.slice D t.e.length cd] 37)) hl ht0.row
 have hckH:Hid _:=hck
 have hlH:Hid (t.c.l.length≤maxLen):=hl
 clear hck hl
 unfold maxLen at hel
 go_enter Tryz.func38,Tryz.ntmps38
 go_wp2_with fail
 refine Calls.mono (show Calls _ _ _ _ _ from hckH.out) ?_
 rintro e w1 ⟨rfl,hg1⟩
 clear hckH
 have ht1:=ht0.gr hg1
 have hgw1:Gr w w1:=hg0.trans hg1
 clear ht0 hg0 hg1
 by_cases he:errC t.c=0
 ·have heb:(errC t.c != 0)=false:=by simpa using he
  have heH:Hid (errC t.c=0):=he
  clear he
  obtain ⟨k0,k1,k2,k3,k4,k5,klt,krow,krowC⟩:=(show TabAt _ _ _ _ _ _ _ from ht1)
  by_cases h400:400<t.e.length
  ·have h400z:(400:Int)<(t.e.length:Int):=by omega
   have hfin:Hid (errT t=2):=errT_large heH.out h400
   go_wp2
   go_ret
   rw[hfin.out]
   exact ⟨rfl,hgw1⟩
  ·have h400z:¬(400:Int)<(t.e.length:Int):=by omega
   go_wp2
   clear k0 k1 k2 k3 k4 k5 krow krowC
   go_loopw [19] (fun i wr=>∃k:Nat,k≤t.e.length∧i= .int .i64 k∧Hid (∀j,j<k→okCel t j=true)∧Gr w1 wr) (fun i _=>t.e.length-(intOf i).toNat)
   case atStart=>exact ⟨0,by omega,rfl,fun j h=>by omega,Gr.refl _⟩
   case round =>
    rename World=>wr0
    obtain ⟨k,hk,rfl,hall,hgr⟩:=hrel
    by_cases hlt:k<t.e.length
    ·have hltz:(k:Int)<(t.e.length:Int):=by omega
     have htR:=ht1.gr hgr
     obtain ⟨b,off,rfl,hb,hcs⟩:=RowC.get htR.rowC hlt
     obtain ⟨x,hx⟩:∃x,t.e[k]=x:=⟨_,rfl⟩
     obtain ⟨e0,e1,e2,e3,e4⟩:=hcs k hlt
     rw[hx] at e0 e1 e2 e3 e4
     have hcsH:Hid (∀j (h:j<t.e.length),_):=hcs
     have hxH:Hid (t.e[k]=x):=hx
     clear hcs hx
     have hgX:Gr wr0 (wr0.alloc (.cells #[.int .i64 x.1.1,.int .i64 x.1.2,.int .i64 x.2.1,.int .i64 x.2.2.1,.int .i64 x.2.2.2] 55)):=(Gr.refl _).alloc _
     have hxX:=CelAt.new (w:=wr0) x 55 rfl
     have htX:=htR.gr hgX
     obtain ⟨t0,t1,t2,t3,t4,t5,tlt,trow,trowC⟩:=(show TabAt _ _ _ _ _ _ _ from htX)
     obtain ⟨x0,x1,x2,x3,x4,xlt⟩:=(show CelAt _ _ _ from hxX)
     have hhas:=has_any t.c A ca x.1 (wr0.alloc (.cells #[.int .i64 x.1.1,.int .i64 x.1.2,.int .i64 x.2.1,.int .i64 x.2.2.1,.int .i64 x.2.2.2] 55)) hlH.out trow
     have hhasH:Hid _:=hhas
     clear hhas
     go_wp2_with fail
     refine Calls.mono (show Calls _ _ _ _ _ from hhasH.out) ?_
     rintro e w2 ⟨rfl,hg2⟩
     clear hhasH t0 t1 t2 t3 t4 t5 x0 x1 x2 x3 x4 xlt tlt trow trowC
     have hgw2:Gr w1 w2:=(hgr.trans hgX).trans hg2
     have hx2:=hxX.gr hg2
     have ht2:=htX.gr hg2
     obtain ⟨x0,x1,x2,x3,x4,xlt⟩:=(show CelAt _ _ _ from hx2)
     cases hhb:hasB t.c x.1
     ·have hfin:Hid (errT t=5):=by
       refine errT_form heH.out (by omega) hlt ?_
       cases k with
       | zero=>rw[okCel_zero hlt hxH.out,hhb];rfl
       | succ m=>rw[okCel_succ hlt hxH.out rfl,hhb];rfl
      go_wp2
      go_ret
      rw[hfin.out]
      exact ⟨rfl,hgw1.trans hgw2⟩
     ·cases hpl:okPlace x.2.1 x.2.2.1 x.2.2.2
      ·have hfin:Hid (errT t=5):=by
        refine errT_form heH.out (by omega) hlt ?_
        cases k with
        | zero=>rw[okCel_zero hlt hxH.out,hpl];simp
        | succ m=>rw[okCel_succ hlt hxH.out rfl,hpl];simp
       go_wp2_with (go_at_call 50;refine (isCell_g hpl _).mono ?_;rintro e w' ⟨rfl,rfl⟩)
       go_ret
       rw[hfin.out]
       exact ⟨rfl,hgw1.trans hgw2⟩
      ·cases k with
       | zero =>
        have hoka:Hid (okCel t 0=true):=by
         show okCel t 0=true
         rw[okCel_zero hlt hxH.out,hhb,hpl];rfl
        go_wp2_with (first|(go_at_call 50;refine (isCell_g hpl _).mono ?_;rintro e w2 ⟨rfl,rfl⟩)|fail)
        refine wp_region_quiet_grown mixed (by kernel_rfl) ?_
        repeat (go_big_quiet_step (fail))
        refine wpQuiet_nil ?_
        rintro _ ⟨⟨nq2,osq2⟩,rfl⟩
        go_wp2
        go_roundw
        case rel =>
         refine ⟨_,hlt,by go_num,?_,hgw2.trans ⟨nq2,osq2,rfl⟩⟩
         intro j hj
         by_cases e:j=0
         ·rw[e];exact hoka.out
         ·exact hall j (by omega)
        case measure=>simp[intOf];omega
       | succ m =>
        obtain ⟨y,hy⟩:∃y,t.e[m]=y:=⟨_,rfl⟩
        obtain ⟨f0,f1,f2,f3,f4⟩:=hcsH.out m (by omega)
        rw[hy] at f0 f1 f2 f3 f4
        have hyH:Hid (t.e[m]=y):=hy
        clear hy
        have hg02:Gr wr0 w2:=hgX.trans hg2
        have q0:=hg02.cellG (a:=⟨b,off+m*5,none⟩) hb f0
        have q1:=hg02.cellG (a:=⟨b,off+m*5+1,none⟩) hb f1
        have q2:=hg02.cellG (a:=⟨b,off+m*5+2,none⟩) hb f2
        have q3:=hg02.cellG (a:=⟨b,off+m*5+3,none⟩) hb f3
        have q4:=hg02.cellG (a:=⟨b,off+m*5+4,none⟩) hb f4
        have p5:=(Gr.refl w2).cellG (a:=⟨w.heap.size,5,none⟩) ht2.lt ht2.k5
        have p0:=(Gr.refl w2).cellG (a:=⟨wr0.heap.size,0,none⟩) xlt x0
        have p1:=(Gr.refl w2).cellG (a:=⟨wr0.heap.size,1,none⟩) xlt x1
        have p2:=(Gr.refl w2).cellG (a:=⟨wr0.heap.size,2,none⟩) xlt x2
        have p3:=(Gr.refl w2).cellG (a:=⟨wr0.heap.size,3,none⟩) xlt x3
        have p4:=(Gr.refl w2).cellG (a:=⟨wr0.heap.size,4,none⟩) xlt x4
        clear f0 f1 f2 f3 f4
        cases hbe:befB y.1 x.1
        ·have hfin:Hid (errT t=5):=errT_form heH.out (by omega) hlt (by rw[okCel_succ hlt hxH.out hyH.out,hhb,hpl,hbe];rfl)
         have hge:=ordI_not hbe
         go_wp2_with (first|(go_at_call 50;refine (isCell_g hpl _).mono ?_;rintro e w2 ⟨rfl,rfl⟩)|fail)
         refine wp_region_quiet_grown mixed (by kernel_rfl) ?_
         repeat (go_big_quiet_step ((go_at_call 60;refine Calls.grown_of (orderC_g rfl _))))
         refine wpQuiet_nil ?_
         rintro _ ⟨⟨nq2,osq2⟩,rfl⟩
         go_wp2
         go_ret
         rw[hfin.out]
         exact ⟨rfl,hgw1.trans (hgw2.trans ⟨nq2,osq2,rfl⟩)⟩
        ·have hge:=ordI_bef hbe
         have hoka:Hid (okCel t (m+1)=true):=by
          show okCel t (m+1)=true
          rw[okCel_succ hlt hxH.out hyH.out,hhb,hpl,hbe];rfl
         go_wp2_with (first|(go_at_call 50;refine (isCell_g hpl _).mono ?_;rintro e w2 ⟨rfl,rfl⟩)|fail)
         refine wp_region_quiet_grown mixed (by kernel_rfl) ?_
         repeat (go_big_quiet_step ((go_at_call 60;refine Calls.grown_of (orderC_g hge _))))
         refine wpQuiet_nil ?_
         rintro _ ⟨⟨nq2,osq2⟩,rfl⟩
         go_wp2
         go_roundw
         case rel =>
          refine ⟨_,hlt,by go_num,?_,hgw2.trans ⟨nq2,osq2,rfl⟩⟩
          intro j hj
          by_cases e:j=m+1
          ·rw[e];exact hoka.out
          ·exact hall j (by omega)
         case measure=>simp[intOf];omega
    ·have hltz:¬(k:Int)<(t.e.length:Int):=by omega
     have hfin:Hid (errT t=0):=errT_ok heH.out (by omega) fun j hj=>hall j (by omega)
     go_wp2
     go_ret
     rw[hfin.out]
     exact ⟨rfl,hgw1.trans hgr⟩
 ·have heb:(errC t.c != 0)=true:=by simpa using he
  have hfin:Hid (errT t=errC t.c):=errT_ctx he
  clear he
  go_wp2
  go_ret
  rw[hfin.out]
  exact ⟨rfl,hgw1⟩

end Go.Proofs.YtkadjjmkokhldaaGreat

namespace Go.Proofs.YtkadjjmkokhldaaGreat
open Go.RowKit Go.Sort

set_option maxHeartbeats 4000000 in
theorem fold_any (c:Ctx) (l:List (Int×Int)) (A:Option Addr) (cap:Nat) (w:World) (hc0:c.l=[]) (hok:okClk c=true) (hl:l.length≤800) (hri:∀x∈l,rightB x=true) (hr:Row w A l) :
  Calls Tryz.prog 64 #[.agg #[.int .i64 c.c0,.int .i64 c.c1,.int .i64 c.c2,.int .i64 c.c3],.slice A l.length cap] w fun e w'=>∃C cp,e= .returned (.agg #[.int .i64 (foldTo c l l.length).c0,.int .i64 (foldTo c l l.length).c1,.int .i64 (foldTo c l l.length).c2,.int .i64 (foldTo c l l.length).c3,.slice C (foldTo c l l.length).l.length cp])∧Row w' C (foldTo c l l.length).l∧(C=none→cp=0)∧(∀a,C=some a→w.heap.size≤a.block)∧Below w.heap.size w w':=by
 have hE:=neqDot
 have hG:=guardDot
 have hH:Hid (c.l=[]∧okClk c=true∧(∀x∈l,rightB x=true)):=⟨hc0,hok,hri⟩
 clear hc0 hok hri
 go_enter Tryz.func64,Tryz.ntmps64
 go_wp2
 go_loopw [13] (fun i wr=>∃k:Nat,k≤l.length∧i= .int .i64 k∧CB wr (w.heap.size+1+1) (w.heap.size+1+1+1) (foldTo c l k)∧Below (w.heap.size+1+1) ((w.alloc (.cells #[.int .i64 c.c0,.int .i64 c.c1,.int .i64 c.c2,.int .i64 c.c3] 31)).alloc (.cells #[.int .i64 0,.int .i64 0,.int .i64 0,.int .i64 0,.slice none 0 0] 34)) wr) (fun i _=>l.length-(intOf i).toNat)
 case atStart =>
  refine ⟨0,Nat.zero_le _,rfl,?_,(Below.refl _ _).alloc (by simp) _⟩
  have:=CB.start ((w.alloc (.cells #[.int .i64 c.c0,.int .i64 c.c1,.int .i64 c.c2,.int .i64 c.c3] 31)).alloc (.cells #[.int .i64 0,.int .i64 0,.int .i64 0,.int .i64 0,.slice none 0 0] 34)) hH.out.1 34
  show CB _ _ _ c
  simpa using this
 case round =>
  obtain ⟨k,hk,rfl,hCB,hbel⟩:=hrel
  have hbw:Hid (Below w.heap.size w wr):=(((Below.refl _ w).alloc (Nat.le_refl _) _).alloc (by simp) _).trans (hbel.mono (by omega))
  have hBlt:=hCB.lt
  by_cases hlt:k<l.length
  ·have hltz:(k:Int)<(l.length:Int):=by omega
   obtain ⟨b,off,rfl,hb,hcs⟩:=(hr.below hbw.out).at hlt
   obtain ⟨x,y,hx⟩:∃x y,l[k]=(x,y):=⟨_,_,rfl⟩
   have e0:=(hcs k hlt).1
   have e1:=(hcs k hlt).2
   rw[hx] at e0 e1
   have hcsH:Hid (∀j (h:j<l.length),_):=hcs
   have hxH:Hid (l[k]=(x,y)):=hx
   have hn:=rightB_node (hH.out.2.2 (x,y) (by rw[←hx];exact List.getElem_mem hlt))
   have hFc:=clk_of_ok (foldTo_clk hH.out.2.1 hH.out.2.2 k hk) x hn.1 hn.2.1
   have kc:=hCB.clk hn.1 hn.2.1
   have kf:=hCB.fz x.toNat
   simp only at hn
   clear hcs hx
   by_cases h1:y≤clk (foldTo c l k) x
   ·have hst:Hid (foldTo c l (k+1)=foldTo c l k):=by
     cases k with
     | zero=>show foldTo c l 1=_;rw[foldTo_zero hlt hxH.out];exact step_le h1
     | succ m=>show foldTo c l (m+2)=_;rw[foldTo_succ hlt hxH.out rfl];exact step_le h1
    go_wp2
    go_roundw
    case rel=>exact ⟨k+1,by omega,by go_num,by rw[hst.out];exact hCB.gr ((Gr.refl _).alloc _),hbel.alloc (by omega) _⟩
    case measure=>simp[intOf];omega
   ·by_cases h2:y=clk (foldTo c l k) x+1
    ·have hst:Hid (foldTo c l (k+1)=setClk (foldTo c l k) x y):=by
      cases k with
      | zero=>show foldTo c l 1=_;rw[foldTo_zero hlt hxH.out];exact step_eq h2
      | succ m=>show foldTo c l (m+2)=_;rw[foldTo_succ hlt hxH.out rfl];exact step_eq h2
     have h1b:decide (y≤clk (foldTo c l k) x)=false:=by simpa using h1
     have h2b:(y==clk (foldTo c l k) x+1)=true:=by simpa using h2
     have h2H:Hid (y=clk (foldTo c l k) x+1):=h2
     clear h2 h1
     go_wp2
     go_roundw
     case rel=>exact ⟨k+1,by omega,by go_num,by rw[hst.out];exact (hCB.setClk hn.1 hn.2.1 y).gr ((Gr.refl _).alloc _),(hbel.setCell (Nat.le_refl _) _).alloc (by simp only[World.setCell,Array.size_modify];omega) _⟩
     case measure=>simp[intOf];omega
    ·have h1b:decide (y≤clk (foldTo c l k) x)=false:=by simpa using h1
     have h2b:(y==clk (foldTo c l k) x+1)=false:=by simpa using h2
     have h12:Hid (¬y≤clk (foldTo c l k) x∧¬y=clk (foldTo c l k) x+1):=⟨h1,h2⟩
     clear h1 h2
     obtain ⟨v,k4,hov⟩:=hCB.v
     have hovH:Hid (Own wr (w.heap.size+1+1+1) v (foldTo c l k).l):=hov
     have hlen:=foldTo_len c l k
     have hbd:Hid (((foldTo c l k).l.length+[(x,y)].length)*16≤140737488355328):=by
      have:=hH.out.1
      rw[this] at hlen
      simp only[List.length_nil,List.length_cons] at hlen ⊢
      show _≤_
      omega
     clear hov hlen
     cases k with
     | zero =>
      have hst:Hid (foldTo c l 1={ foldTo c l 0 with l:=(foldTo c l 0).l++[(x,y)] }):=by
       show foldTo c l 1=_
       rw[foldTo_zero hlt hxH.out]
       exact step_new h12.out.1 h12.out.2 (by simp)
      simp only[Nat.zero_mul,Nat.add_zero] at e0 e1
      go_wp2
      go_quiet (fail)
      go_wp2_with (at_builtin;refine wpList_append_dots _ rfl (.tmp 53) (.tmp 55) rfl (w.heap.size+1+1+1) v (foldTo c l 0).l [(x,y)] (some ⟨wr.heap.size+1,0,none⟩) 1 rfl rfl ?ho ?hr (fun h=>by cases h) hbd.out ?hs ?_)
      case ho=>exact hovH.out.gr ((((Gr.refl wr).alloc _).drewN nq).alloc _)
      case hr=>exact rowNew (by simp) x y _
      case hs=>simp;omega
      intro v1 w1 hown1 hgr1 _
      obtain ⟨C,cp,rfl,hC,-,-⟩:=hown1.row
      have hgA:Gr wr (((wr.alloc (.cells #[.int .i64 x,.int .i64 y] 52)).drewN nq).alloc (.cells #[.int .i64 x,.int .i64 y] 52)):=(((Gr.refl wr).alloc _).drewN nq).alloc _
      have hb1:Below (w.heap.size+1+1+1) (((wr.alloc (.cells #[.int .i64 x,.int .i64 y] 52)).drewN nq).alloc (.cells #[.int .i64 x,.int .i64 y] 52)) w1:=Own.grown_below (hovH.out.gr hgA) hgr1 (by simp;omega)
      have hfin:=(hCB.gr hgA).setL hb1 hown1
      have hbel1:Below (w.heap.size+1+1) ((w.alloc (.cells #[.int .i64 c.c0,.int .i64 c.c1,.int .i64 c.c2,.int .i64 c.c3] 31)).alloc (.cells #[.int .i64 0,.int .i64 0,.int .i64 0,.int .i64 0,.slice none 0 0] 34)) w1:=(hbel.trans (hgA.below.mono (by omega))).trans (hb1.mono (by omega))
      have c4:w1.cell? ⟨w.heap.size+1+1,4,none⟩=some v:=(hb1.cell (p:=⟨w.heap.size+1+1,4,none⟩) (by simp)).trans ((hgA.cell (p:=⟨w.heap.size+1+1,4,none⟩) hBlt).trans k4)
      have f4:w1.frozen? ⟨w.heap.size+1+1,4,none⟩=false:=(hb1.frozen (p:=⟨w.heap.size+1+1,4,none⟩) (by simp)).trans ((hCB.gr hgA).fz 4)
      have hfinH:Hid (CB _ _ _ _):=hfin
      have hbelH:Hid (Below _ _ _):=hbel1
      clear hfin hbel1 hb1 hgA hgr1 hown1 hbel hCB k4 kc kf e0 e1
      go_wp2
      go_roundw
      case rel=>exact ⟨1,hlt,by go_num,by rw[hst.out];have:=hfinH.out;simp only[List.length_append,List.length_cons,List.length_nil,Nat.zero_add] at this;exact this,hbelH.out.setCell (Nat.le_refl _) _⟩
      case measure=>simp[intOf];omega
     | succ m =>
      obtain ⟨x',y',hx'⟩:∃x' y',l[m]=(x',y'):=⟨_,_,rfl⟩
      have g0:=(hcsH.out m (by omega)).1
      have g1:=(hcsH.out m (by omega)).2
      rw[hx'] at g0 g1
      have hxH':Hid (l[m]=(x',y')):=hx'
      clear hx'
      have hm0:((m:Int)+1==0)=false:=by simp;omega
      cases hq:(x'==x && y'==y)
      ·have hst:Hid (foldTo c l (m+2)={ foldTo c l (m+1) with l:=(foldTo c l (m+1)).l++[(x,y)] }):=by
        show foldTo c l (m+2)=_
        rw[foldTo_succ hlt hxH.out hxH'.out]
        refine step_new h12.out.1 h12.out.2 ?_
        intro h
        injection h with h
        injection h with h1 h2
        subst h1 h2
        simp at hq
       go_wp2
       go_quiet (fail)
       go_wp2_with (at_builtin;refine wpList_append_dots _ rfl (.tmp 53) (.tmp 55) rfl (w.heap.size+1+1+1) v (foldTo c l (m+1)).l [(x,y)] (some ⟨wr.heap.size+1,0,none⟩) 1 rfl rfl ?ho ?hr (fun h=>by cases h) hbd.out ?hs ?_)
       case ho=>exact hovH.out.gr ((((Gr.refl wr).alloc _).drewN nq).alloc _)
       case hr=>exact rowNew (by simp) x y _
       case hs=>simp;omega
       intro v1 w1 hown1 hgr1 _
       obtain ⟨C,cp,rfl,hC,-,-⟩:=hown1.row
       have hgA:Gr wr (((wr.alloc (.cells #[.int .i64 x,.int .i64 y] 52)).drewN nq).alloc (.cells #[.int .i64 x,.int .i64 y] 52)):=(((Gr.refl wr).alloc _).drewN nq).alloc _
       have hb1:Below (w.heap.size+1+1+1) (((wr.alloc (.cells #[.int .i64 x,.int .i64 y] 52)).drewN nq).alloc (.cells #[.int .i64 x,.int .i64 y] 52)) w1:=Own.grown_below (hovH.out.gr hgA) hgr1 (by simp;omega)
       have hfin:=(hCB.gr hgA).setL hb1 hown1
       have hbel1:Below (w.heap.size+1+1) ((w.alloc (.cells #[.int .i64 c.c0,.int .i64 c.c1,.int .i64 c.c2,.int .i64 c.c3] 31)).alloc (.cells #[.int .i64 0,.int .i64 0,.int .i64 0,.int .i64 0,.slice none 0 0] 34)) w1:=(hbel.trans (hgA.below.mono (by omega))).trans (hb1.mono (by omega))
       have c4:w1.cell? ⟨w.heap.size+1+1,4,none⟩=some v:=(hb1.cell (p:=⟨w.heap.size+1+1,4,none⟩) (by simp)).trans ((hgA.cell (p:=⟨w.heap.size+1+1,4,none⟩) hBlt).trans k4)
       have f4:w1.frozen? ⟨w.heap.size+1+1,4,none⟩=false:=(hb1.frozen (p:=⟨w.heap.size+1+1,4,none⟩) (by simp)).trans ((hCB.gr hgA).fz 4)
       have hfinH:Hid (CB _ _ _ _):=hfin
       have hbelH:Hid (Below _ _ _):=hbel1
       clear hfin hbel1 hb1 hgA hgr1 hown1 hbel hCB k4 kc kf e0 e1
       go_wp2
       go_roundw
       case rel=>exact ⟨m+2,hlt,by go_num,by rw[hst.out];have:=hfinH.out;simp only[List.length_append,List.length_cons,List.length_nil,Nat.zero_add] at this;exact this,hbelH.out.setCell (Nat.le_refl _) _⟩
       case measure=>simp[intOf];omega
      ·have hst:Hid (foldTo c l (m+2)=foldTo c l (m+1)):=by
        show foldTo c l (m+2)=_
        rw[foldTo_succ hlt hxH.out hxH'.out]
        simp only[Bool.and_eq_true,beq_iff_eq] at hq
        rw[hq.1,hq.2]
        exact step_dup h12.out.1 h12.out.2
       go_wp2
       go_quiet (fail)
       go_wp2
       go_roundw
       case rel=>exact ⟨m+2,hlt,by go_num,by rw[hst.out];exact hCB.gr (((Gr.refl _).alloc _).drewN nq),(hbel.alloc (by omega) _).trans ((((Gr.refl _).drewN nq).below).mono (by simp;omega))⟩
       case measure=>simp[intOf];omega
  ·have hltz:¬(k:Int)<(l.length:Int):=by omega
   obtain rfl:k=l.length:=by omega
   obtain ⟨F,hF⟩:∃F,foldTo c l l.length=F:=⟨_,rfl⟩
   rw[hF] at hCB
   have HF:Hid (foldTo c l l.length=F):=hF
   clear hF
   obtain ⟨v,k0,k1,k2,k3,k4,hov,hf,hBb,hBs⟩:=hCB
   obtain ⟨C,cp,rfl,hC,hrow,hCb⟩:=hov.row
   have r0:=(hbel.cell (p:=⟨w.heap.size+1,0,none⟩) (by simp)).trans (show _=some (.int .i64 0) by go_simp)
   have r1:=(hbel.cell (p:=⟨w.heap.size+1,1,none⟩) (by simp)).trans (show _=some (.int .i64 0) by go_simp)
   have r2:=(hbel.cell (p:=⟨w.heap.size+1,2,none⟩) (by simp)).trans (show _=some (.int .i64 0) by go_simp)
   have r3:=(hbel.cell (p:=⟨w.heap.size+1,3,none⟩) (by simp)).trans (show _=some (.int .i64 0) by go_simp)
   have r4:=(hbel.cell (p:=⟨w.heap.size+1,4,none⟩) (by simp)).trans (show _=some (.slice none 0 0) by go_simp)
   have rf:∀j,wr.frozen? ⟨w.heap.size+1,j,none⟩=false:=fun j=>(hbel.frozen (p:=⟨w.heap.size+1,j,none⟩) (by simp)).trans (by simp)
   have hovH:Hid (Own _ _ _ _):=hov
   clear hov hf
   have hCn:∀a,C=some a→a.block≠w.heap.size+1:=fun a ha=>by have:=(hCb a ha).1;omega
   go_wp2
   rw[HF.out]
   refine bodyPost_ret (v:= .agg #[.int .i64 F.c0,.int .i64 F.c1,.int .i64 F.c2,.int .i64 F.c3,.slice C F.l.length cp]) (by simp[results,Tryz.results64,go_sem,r0,r1,r2,r3,r4]) rfl ⟨C,cp,rfl,?_,hC,fun a ha=>by have:=(hCb a ha).1;omega,?_⟩
   ·exact ((((hrow.setCell _ hCn).setCell _ hCn).setCell _ hCn).setCell _ hCn).setCell _ hCn
   ·exact ((((hbw.out.setCell (by simp) _).setCell (by simp) _).setCell (by simp) _).setCell (by simp) _).setCell (by simp) _
end Go.Proofs.YtkadjjmkokhldaaGreat

namespace Go.Proofs
open Go.Shelf
def Tryz.sortDot_ren:Go.Shelf.Ren:=⟨fun|6=>81|15=>83|14=>93|28=>102|29=>103|20=>118|21=>119|22=>120|23=>121|24=>122|25=>123|26=>124|27=>125|46=>145|47=>127|48=>128|49=>146|50=>147|57=>174|n=>n,fun|22=>32|24=>52|25=>137|3=>3|39=>139|0=>0|53=>161|55=>163|4=>4|46=>155|45=>154|50=>121|5=>5|9=>9|66=>180|70=>184|76=>199|77=>200|n=>n,fun|n=>n⟩
theorem Tryz.sortDot:Go.Proofs.SlLaysF0.n6 Tryz.prog Tryz.sortDot_ren:={
 mixed:=by kernel_rfl
 f6:=⟨Tryz.f81.name,by decide,Tryz.func81.trans (congrArg some (by kernel_rfl))⟩
 f14:=⟨Tryz.f93.name,by decide,Tryz.func93.trans (congrArg some (by kernel_rfl))⟩
 f15:=Tryz.func83.trans (congrArg some (by kernel_rfl))
 f20:=⟨Tryz.f118.name,by decide,Tryz.func118.trans (congrArg some (by kernel_rfl))⟩
 f21:=⟨Tryz.f119.name,by decide,Tryz.func119.trans (congrArg some (by kernel_rfl))⟩
 f22:=⟨Tryz.f120.name,by decide,Tryz.func120.trans (congrArg some (by kernel_rfl))⟩
 f23:=⟨Tryz.f121.name,by decide,Tryz.func121.trans (congrArg some (by kernel_rfl))⟩
 f24:=⟨Tryz.f122.name,by decide,Tryz.func122.trans (congrArg some (by kernel_rfl))⟩
 f25:=⟨Tryz.f123.name,by decide,Tryz.func123.trans (congrArg some (by kernel_rfl))⟩
 f26:=⟨Tryz.f124.name,by decide,Tryz.func124.trans (congrArg some (by kernel_rfl))⟩
 f27:=⟨Tryz.f125.name,by decide,Tryz.func125.trans (congrArg some (by kernel_rfl))⟩
 f28:=Tryz.func102.trans (congrArg some (by kernel_rfl))
 f29:=Tryz.func103.trans (congrArg some (by kernel_rfl))
 f46:=⟨Tryz.f145.name,by decide,Tryz.func145.trans (congrArg some (by kernel_rfl))⟩
 f47:=Tryz.func127.trans (congrArg some (by kernel_rfl))
 f48:=Tryz.func128.trans (congrArg some (by kernel_rfl))
 f49:=⟨Tryz.f146.name,by decide,Tryz.func146.trans (congrArg some (by kernel_rfl))⟩
 f50:=⟨Tryz.f147.name,by decide,Tryz.func147.trans (congrArg some (by kernel_rfl))⟩
 f57:=⟨Tryz.f174.name,by decide,Tryz.func174.trans (congrArg some (by kernel_rfl))⟩
 t0:=Tryz.underlying0
 a0:=Tryz.isAgg0
 z0:=Tryz.sizeOf0
 v0:=Tryz.zeroValue0
 t3:=Tryz.underlying3
 a3:=Tryz.isAgg3
 z3:=Tryz.sizeOf3
 v3:=Tryz.zeroValue3
 t4:=Tryz.underlying4
 a4:=Tryz.isAgg4
 z4:=Tryz.sizeOf4
 v4:=Tryz.zeroValue4
 t5:=Tryz.underlying5
 a5:=Tryz.isAgg5
 z5:=Tryz.sizeOf5
 v5:=Tryz.zeroValue5
 t9:=Tryz.underlying9
 a9:=Tryz.isAgg9
 z9:=Tryz.sizeOf9
 v9:=Tryz.zeroValue9
 t22:=Tryz.underlying32
 a22:=Tryz.isAgg32
 z22:=Tryz.sizeOf32
 v22:=Tryz.zeroValue32
 t25:=Tryz.underlying137
 a25:=Tryz.isAgg137
 z25:=Tryz.sizeOf137
 v25:=Tryz.zeroValue137
 t39:=Tryz.underlying139
 a39:=Tryz.isAgg139
 z39:=Tryz.sizeOf139
 v39:=Tryz.zeroValue139
 t45:=Tryz.underlying154
 a45:=Tryz.isAgg154
 z45:=Tryz.sizeOf154
 v45:=Tryz.zeroValue154
 t46:=Tryz.underlying155
 a46:=Tryz.isAgg155
 z46:=Tryz.sizeOf155
 v46:=Tryz.zeroValue155
 t50:=Tryz.underlying121
 a50:=Tryz.isAgg121
 z50:=Tryz.sizeOf121
 v50:=Tryz.zeroValue121
 t53:=Tryz.underlying161
 a53:=Tryz.isAgg161
 z53:=Tryz.sizeOf161
 v53:=Tryz.zeroValue161
 t55:=Tryz.underlying163
 a55:=Tryz.isAgg163
 z55:=Tryz.sizeOf163
 v55:=Tryz.zeroValue163
 t66:=Tryz.underlying180
 a66:=Tryz.isAgg180
 z66:=Tryz.sizeOf180
 v66:=Tryz.zeroValue180
 t70:=Tryz.underlying184
 a70:=Tryz.isAgg184
 z70:=Tryz.sizeOf184
 v70:=Tryz.zeroValue184
 t76:=Tryz.underlying199
 a76:=Tryz.isAgg199
 z76:=Tryz.sizeOf199
 v76:=Tryz.zeroValue199
 t77:=Tryz.underlying200
 a77:=Tryz.isAgg200
 z77:=Tryz.sizeOf200
 v77:=Tryz.zeroValue200 }
end Go.Proofs
