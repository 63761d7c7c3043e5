/-
  dot.Check: it says what is wrong with a context.
  slices.Index, Contains and Equal at dots: whether a list has a dot; whether two lists are the same.
  dot.Has: whether a context has a dot. dot.Next: the next dot of a node.
-/
import Derived.Test.YtkadjjmkokhldaaGreatM03
import Derived.Test.YtkadjjmkokhldaaGreatM01
namespace Go.Proofs.YtkadjjmkokhldaaGreat
open Go.RowKit Go.Sort

/-- The box of a dot, in a world that has grown of the one in which it was laid. -/
theorem dotBox {w W:World} {x y:Int} {T:TypeId} (h:Gr (w.alloc (.cells #[.int .i64 x,.int .i64 y] T)) W):(∀n os,(grow (W.drewN n) os).cell? ⟨w.heap.size,0,none⟩=some (.int .i64 x))∧(∀n os,(grow (W.drewN n) os).cell? ⟨w.heap.size,1,none⟩=some (.int .i64 y)) :=
 ⟨box1G h rfl,box1G h rfl⟩

set_option maxHeartbeats 2000000 in
theorem check_any (c:Ctx) (A:Option Addr) (cap:Nat) (w:World) (hl:c.l.length≤maxLen) (hr:Row w A c.l) :
  Calls Tryz.prog 58 #[.agg #[.int .i64 c.c0,.int .i64 c.c1,.int .i64 c.c2,.int .i64 c.c3,.slice A c.l.length cap]] w fun e w'=>e= .returned (.int .i64 (errC c))∧Gr w w':=by
 unfold maxLen at hl
 have mixed:Tryz.prog.follows .mixedOrders=true:=by kernel_rfl
 have i0:∀w,(Instr.index 31 (.agg #[.int .i64 c.c0,.int .i64 c.c1,.int .i64 c.c2,.int .i64 c.c3]) (.int .i64 0)).run Tryz.prog w= .ok (.int .i64 (clk c 0)) w:=fun _=>by kernel_rfl
 have i1:∀w,(Instr.index 31 (.agg #[.int .i64 c.c0,.int .i64 c.c1,.int .i64 c.c2,.int .i64 c.c3]) (.int .i64 1)).run Tryz.prog w= .ok (.int .i64 (clk c 1)) w:=fun _=>by kernel_rfl
 have i2:∀w,(Instr.index 31 (.agg #[.int .i64 c.c0,.int .i64 c.c1,.int .i64 c.c2,.int .i64 c.c3]) (.int .i64 2)).run Tryz.prog w= .ok (.int .i64 (clk c 2)) w:=fun _=>by kernel_rfl
 have i3:∀w,(Instr.index 31 (.agg #[.int .i64 c.c0,.int .i64 c.c1,.int .i64 c.c2,.int .i64 c.c3]) (.int .i64 3)).run Tryz.prog w= .ok (.int .i64 (clk c 3)) w:=fun _=>by kernel_rfl
 go_enter Tryz.func58,Tryz.ntmps58
 go_wp2
 go_loopw [9] (fun i wr=>∃k:Nat,k≤4∧i= .int .i64 k∧Hid (∀a:Int,0≤a→a<k→inB (clk c a) 0 1099511627776=true)∧Gr (w.alloc (.cells #[.int .i64 c.c0,.int .i64 c.c1,.int .i64 c.c2,.int .i64 c.c3,.slice A c.l.length cap] 34)) wr) (fun i _=>4-(intOf i).toNat)
 case atStart=>exact ⟨0,by omega,rfl,fun a h0 h1=>by omega,Gr.refl _⟩
 case round =>
  obtain ⟨k,hk,rfl,hin,hgr⟩:=hrel
  by_cases hlt:k<4
  ·have hltz:(k:Int)<4:=by omega
   have ik:∀w,(Instr.index 31 (.agg #[.int .i64 c.c0,.int .i64 c.c1,.int .i64 c.c2,.int .i64 c.c3]) (.int .i64 k)).run Tryz.prog w= .ok (.int .i64 (clk c k)) w:=by
    have h4:k=0∨k=1∨k=2∨k=3:=by omega
    rcases h4 with rfl|rfl|rfl|rfl
    ·exact i0
    ·exact i1
    ·exact i2
    ·exact i3
   clear i0 i1 i2 i3
   have hpos:clk c (k:Int)<0∨1099511627776<clk c (k:Int)∨(¬clk c (k:Int)<0∧¬ 1099511627776<clk c (k:Int)):=by omega
   rcases hpos with h1|h1|⟨h1,h2⟩
   ·have hfin:Hid (errC c=1):=errC_clk (by omega) hltz (by simp[inB];omega)
    go_wp2
    go_ret
    rw[hfin.out]
    exact ⟨rfl,unbox hgr⟩
   ·have hfin:Hid (errC c=1):=errC_clk (by omega) hltz (by simp[inB];omega)
    have h1b:¬clk c (k:Int)<0:=by omega
    go_wp2
    go_ret
    rw[hfin.out]
    exact ⟨rfl,unbox hgr⟩
   ·have hi:Hid (inB (clk c (k:Int)) 0 1099511627776=true):=by show inB _ _ _=true;simp[inB];omega
    go_wp2
    go_roundw
    case rel =>
     refine ⟨k+1,by omega,by go_num,?_,hgr⟩
     intro a h0 h1
     by_cases e:a=(k:Int)
     ·rw[e];exact hi
     ·exact hin a h0 (by omega)
    case measure=>simp[intOf];omega
  ·clear i0 i1 i2 i3
   obtain rfl:k=4:=by omega
   have k4:=box1 hgr (j:=4) rfl
   have hok:okClk c=true:=okClk_of fun a h0 h4=>hin a h0 (by omega)
   by_cases h400:400<c.l.length
   ·have h400z:(400:Int)<(c.l.length:Int):=by omega
    have hfin:Hid (errC c=2):=errC_large hok h400
    go_wp2
    go_ret
    rw[hfin.out]
    exact ⟨rfl,unbox hgr⟩
   ·have h400z:¬(400:Int)<(c.l.length:Int):=by omega
    have hokH:Hid (okClk c=true):=hok
    clear hok
    go_wp2
    clear k4 hin
    go_loopw [26] (fun i wr=>∃k:Nat,k≤c.l.length∧i= .int .i64 k∧Hid (∀j,j<k→okAt c j=true)∧Gr (w.alloc (.cells #[.int .i64 c.c0,.int .i64 c.c1,.int .i64 c.c2,.int .i64 c.c3,.slice A c.l.length cap] 34)) wr) (fun i _=>c.l.length-(intOf i).toNat)
    case atStart=>exact ⟨0,by omega,rfl,fun j h=>by omega,hgr⟩
    case round =>
     clear hgr
     rename World=>wr0
     obtain ⟨k,hk,rfl,hall,hgr⟩:=hrel
     by_cases hlt:k<c.l.length
     ·have hltz:(k:Int)<(c.l.length:Int):=by omega
      obtain ⟨b,off,rfl,hb,hcs⟩:=(hr.gr (unbox hgr)).at hlt
      obtain ⟨x,y,hx⟩:∃x y,c.l[k]=(x,y):=⟨_,_,rfl⟩
      have e0:=(hcs k hlt).1
      have e1:=(hcs k hlt).2
      rw[hx] at e0 e1
      have hcsH:Hid (∀j (h:j<c.l.length),_):=hcs
      have hxH:Hid (c.l[k]=(x,y)):=hx
      clear hcs hx
      cases hri:rightB (x,y)
      ·have hfin:Hid (errC c=5):=by
        refine errC_form hokH.out (by omega) hlt ?_
        cases k with
        | zero=>rw[okAt_zero hlt hxH.out,hri];rfl
        | succ m=>rw[okAt_succ hlt hxH.out rfl,hri];rfl
       go_wp2
       have d0:=box1G (Gr.refl (wr0.alloc (.cells #[.int .i64 x,.int .i64 y] 52))) (j:=0) rfl
       have d1:=box1G (Gr.refl (wr0.alloc (.cells #[.int .i64 x,.int .i64 y] 52))) (j:=1) rfl
       have hgW:=(hgr.alloc (.cells #[.int .i64 x,.int .i64 y] 52))
       have rG:=((Gr.refl wr0).alloc (.cells #[.int .i64 x,.int .i64 y] 52))
       have dG:=fun X (hX:Gr (wr0.alloc (.cells #[.int .i64 x,.int .i64 y] 52)) X)=>dotBox hX
       have g4:=box1G hgW (j:=4) rfl
       have hsz:wr0.heap.size<(wr0.alloc (.cells #[.int .i64 x,.int .i64 y] 52)).heap.size:=by simp
       generalize wr0.alloc (.cells #[.int .i64 x,.int .i64 y] 52)=W at d0 d1 hgW rG dG g4 hsz ⊢
       refine wp_region_quiet_grown mixed (by kernel_rfl) ?_
       repeat (go_big_quiet_step ((go_at_call 77;refine Calls.grown_of (dright_g hri _))))
       refine wpQuiet_nil ?_
       rintro _ ⟨⟨nq,osq⟩,rfl⟩
       go_wp2
       go_ret
       rw[hfin.out]
       exact ⟨rfl,(unbox hgW).trans ⟨nq,osq,rfl⟩⟩
      ·have hn:=rightB_node hri
       have hcb:=clk_of_ok hokH.out x hn.1 hn.2.1
       by_cases hs:y≤clk c x+1
       ·have hfin:Hid (errC c=5):=by
         refine errC_form hokH.out (by omega) hlt ?_
         cases k with
         | zero=>rw[okAt_zero hlt hxH.out,hri];simp;omega
         | succ m=>rw[okAt_succ hlt hxH.out rfl,hri];simp;omega
        go_wp2
        have d0:=box1G (Gr.refl (wr0.alloc (.cells #[.int .i64 x,.int .i64 y] 52))) (j:=0) rfl
        have d1:=box1G (Gr.refl (wr0.alloc (.cells #[.int .i64 x,.int .i64 y] 52))) (j:=1) rfl
        have hgW:=(hgr.alloc (.cells #[.int .i64 x,.int .i64 y] 52))
        have rG:=((Gr.refl wr0).alloc (.cells #[.int .i64 x,.int .i64 y] 52))
        have dG:=fun X (hX:Gr (wr0.alloc (.cells #[.int .i64 x,.int .i64 y] 52)) X)=>dotBox hX
        have g4:=box1G hgW (j:=4) rfl
        have gc:=box1G hgW (clkCell (c:=c) hn.1 hn.2.1)
        have hsz:wr0.heap.size<(wr0.alloc (.cells #[.int .i64 x,.int .i64 y] 52)).heap.size:=by simp
        generalize wr0.alloc (.cells #[.int .i64 x,.int .i64 y] 52)=W at d0 d1 hgW rG dG g4 gc hsz ⊢
        refine wp_region_quiet_grown mixed (by kernel_rfl) ?_
        repeat (go_big_quiet_step ((go_at_call 77;refine Calls.grown_of (dright_g hri _))))
        refine wpQuiet_nil ?_
        rintro _ ⟨⟨nq,osq⟩,rfl⟩
        go_wp2
        go_ret
        rw[hfin.out]
        exact ⟨rfl,(unbox hgW).trans ⟨nq,osq,rfl⟩⟩
       ·have hsb:decide (y≤clk c x+1)=false:=by simpa using hs
        go_wp2
        have d0:=box1G (Gr.refl (wr0.alloc (.cells #[.int .i64 x,.int .i64 y] 52))) (j:=0) rfl
        have d1:=box1G (Gr.refl (wr0.alloc (.cells #[.int .i64 x,.int .i64 y] 52))) (j:=1) rfl
        have hgW:=(hgr.alloc (.cells #[.int .i64 x,.int .i64 y] 52))
        have rG:=((Gr.refl wr0).alloc (.cells #[.int .i64 x,.int .i64 y] 52))
        have dG:=fun X (hX:Gr (wr0.alloc (.cells #[.int .i64 x,.int .i64 y] 52)) X)=>dotBox hX
        have g4:=box1G hgW (j:=4) rfl
        have gc:=box1G hgW (clkCell (c:=c) hn.1 hn.2.1)
        have hsz:wr0.heap.size<(wr0.alloc (.cells #[.int .i64 x,.int .i64 y] 52)).heap.size:=by simp
        generalize wr0.alloc (.cells #[.int .i64 x,.int .i64 y] 52)=W at d0 d1 hgW rG dG g4 gc hsz ⊢
        refine wp_region_quiet_grown mixed (by kernel_rfl) ?_
        repeat (go_big_quiet_step ((go_at_call 77;refine Calls.grown_of (dright_g hri _))))
        refine wpQuiet_nil ?_
        rintro _ ⟨⟨nq,osq⟩,rfl⟩
        have hg2:Gr W (grow (W.drewN nq) osq):=⟨nq,osq,rfl⟩
        have hbx:=dG _ hg2
        have g42:=box1G (hgW.trans hg2) (j:=4) rfl
        have hgW2:=hgW.trans hg2
        clear d0 d1 g4 gc
        cases k with
        | zero =>
         have hoka:Hid (okAt c 0=true):=by
          show okAt c 0=true
          rw[okAt_zero hlt hxH.out,hri];simp;omega
         obtain ⟨b0,b1⟩:=hbx
         generalize grow (W.drewN nq) osq=W2 at b0 b1 g42 hgW2 ⊢
         go_wp2
         refine wp_region_quiet_grown mixed (by kernel_rfl) ?_
         repeat (go_big_quiet_step (fail))
         refine wpQuiet_nil ?_
         rintro _ ⟨⟨nq2,osq2⟩,rfl⟩
         go_wp2
         go_roundw
         case rel =>
          refine ⟨_,hlt,by go_num,?_,hgW2.trans ⟨nq2,osq2,rfl⟩⟩
          intro j hj
          by_cases e:j=0
          ·rw[e];exact hoka.out
          ·exact hall j (by omega)
         case measure=>simp[intOf];omega
        | succ m =>
         obtain ⟨x',y',hx'⟩:∃x' y',c.l[m]=(x',y'):=⟨_,_,rfl⟩
         have f0:=(hcsH.out m (by omega)).1
         have f1:=(hcsH.out m (by omega)).2
         rw[hx'] at f0 f1
         have hxH':Hid (c.l[m]=(x',y')):=hx'
         clear hx'
         have g0:=(rG.trans hg2).cellG (a:=⟨b,off+m*2,none⟩) hb f0
         have g1:=(rG.trans hg2).cellG (a:=⟨b,off+m*2+1,none⟩) hb f1
         obtain ⟨b0,b1⟩:=hbx
         clear f0 f1
         generalize grow (W.drewN nq) osq=W2 at b0 b1 g42 hgW2 g0 g1 ⊢
         cases hbe:befB (x',y') (x,y)
         ·have hfin:Hid (errC c=5):=errC_form hokH.out (by omega) hlt (by rw[okAt_succ hlt hxH.out hxH'.out,hri,hbe];rfl)
          have hge:=ordI_not hbe
          go_wp2
          refine wp_region_quiet_grown mixed (by kernel_rfl) ?_
          repeat (go_big_quiet_step ((go_at_call 79;refine Calls.grown_of (order_g rfl _))))
          refine wpQuiet_nil ?_
          rintro _ ⟨⟨nq2,osq2⟩,rfl⟩
          go_wp2
          go_ret
          rw[hfin.out]
          exact ⟨rfl,(unbox hgW2).trans ⟨nq2,osq2,rfl⟩⟩
         ·have hge:=ordI_bef hbe
          have hoka:Hid (okAt c (m+1)=true):=by
           show okAt c (m+1)=true
           rw[okAt_succ hlt hxH.out hxH'.out,hri,hbe];simp;omega
          go_wp2
          refine wp_region_quiet_grown mixed (by kernel_rfl) ?_
          repeat (go_big_quiet_step ((go_at_call 79;refine Calls.grown_of (order_g hge _))))
          refine wpQuiet_nil ?_
          rintro _ ⟨⟨nq2,osq2⟩,rfl⟩
          go_wp2
          go_roundw
          case rel =>
           refine ⟨_,hlt,by go_num,?_,hgW2.trans ⟨nq2,osq2,rfl⟩⟩
           intro j hj
           by_cases e:j=m+1
           ·rw[e];exact hoka.out
           ·exact hall j (by omega)
          case measure=>simp[intOf];omega
     ·have hltz:¬(k:Int)<(c.l.length:Int):=by omega
      have hfin:Hid (errC c=0):=errC_ok hokH.out (by omega) fun j hj=>hall j (by omega)
      go_wp2
      go_ret
      rw[hfin.out]
      exact ⟨rfl,unbox hgr⟩

end Go.Proofs.YtkadjjmkokhldaaGreat

namespace Go.Proofs.YtkadjjmkokhldaaGreat
open Go.RowKit Go.Sort

set_option maxHeartbeats 1000000 in
theorem index_any (l:List (Int×Int)) (A:Option Addr) (cap:Nat) (x:Int×Int) (w:World) (hl:l.length≤maxLen) (hr:Row w A l) :
  Calls Tryz.prog 92 #[.slice A l.length cap,.agg #[.int .i64 x.1,.int .i64 x.2]] w fun e w'=>∃r:Int,e= .returned (.int .i64 r)∧Hid (decide (0≤r)=memB l x)∧Gr w w':=by
 obtain ⟨a,b⟩:=x
 unfold maxLen at hl
 have hE:=eqDot
 have hG:=guardDot
 go_enter Tryz.func92,Tryz.ntmps92
 go_wp2
 go_loopw [8] (fun i wr=>∃k:Nat,k≤l.length∧i= .int .i64 k∧Hid (∀j (h:j<l.length),j<k→l[j]≠(a,b))∧Gr (w.alloc (.cells #[.int .i64 a,.int .i64 b] 52)) wr) (fun i _=>l.length-(intOf i).toNat)
 case atStart=>exact ⟨0,Nat.zero_le _,rfl,fun j _ hj=>absurd hj (Nat.not_lt_zero _),Gr.refl _⟩
 case round =>
  obtain ⟨k,hk,rfl,hno,hgr⟩:=hrel
  have d0:=box1 hgr (j:=0) rfl
  have d1:=box1 hgr (j:=1) rfl
  by_cases hlt:k<l.length
  ·have hltz:(k:Int)<(l.length:Int):=by omega
   obtain ⟨bb,off,rfl,hb,hcs⟩:=(hr.gr (unbox hgr)).at hlt
   have e0:=(hcs k hlt).1
   have e1:=(hcs k hlt).2
   clear hcs
   cases hq:(a==(l[k]).1 && b==(l[k]).2)
   ·have hne:Hid (l[k]≠(a,b)):=by
     intro h
     rw[h] at hq
     simp at hq
    go_wp2
    go_quiet (fail)
    go_wp2
    go_roundw
    case rel =>
     refine ⟨k+1,by omega,by go_num,?_,hgr.trans ⟨nq,#[],by rw[grow_empty]⟩⟩
     intro j hj hjk
     by_cases e:j=k
     ·subst e;exact hne
     ·exact hno j hj (by omega)
    case measure=>simp[intOf];omega
   ·have hfin:Hid (decide ((0:Int)≤(k:Int))=memB l (a,b)):=by
     have:(a,b)∈l:=by
      have h:l[k]=(a,b):=by
       simp only[Bool.and_eq_true,beq_iff_eq] at hq
       exact Prod.ext hq.1.symm hq.2.symm
      rw[←h];exact List.getElem_mem hlt
     show decide _=_
     simp[memB,this]
    go_wp2
    go_quiet (fail)
    go_wp2
    go_ret
    exact ⟨_,rfl,hfin,(unbox hgr).trans ⟨nq,#[],by rw[grow_empty]⟩⟩
  ·have hltz:¬(k:Int)<(l.length:Int):=by omega
   have hfin:Hid (decide ((0:Int)≤ -1)=memB l (a,b)):=by
    have:(a,b) ∉ l:=by
     intro h
     obtain ⟨j,hj,e⟩:=List.getElem_of_mem h
     exact hno j hj (by omega) e
    show decide _=_
    simp[memB,this]
   go_wp2
   go_ret
   exact ⟨_,rfl,hfin,unbox hgr⟩

set_option maxHeartbeats 1000000 in
theorem contains_any (l:List (Int×Int)) (A:Option Addr) (cap:Nat) (x:Int×Int) (w:World) (hl:l.length≤maxLen) (hr:Row w A l) :
  Calls Tryz.prog 80 #[.slice A l.length cap,.agg #[.int .i64 x.1,.int .i64 x.2]] w fun e w'=>e= .returned (.bool (memB l x))∧Gr w w':=by
 go_enter Tryz.func80,Tryz.ntmps80
 go_wp2_with fail
 refine (index_any l A cap x _ hl (hr.gr ((Gr.refl _).alloc _))).mono ?_
 rintro e w' ⟨r,rfl,hrr,hg⟩
 go_wp2
 go_ret
 exact ⟨by rw[←hrr.out];rfl,unbox hg⟩

set_option maxHeartbeats 1000000 in
theorem equal_any (l m:List (Int×Int)) (A B:Option Addr) (cap dap:Nat) (w:World) (hl:l.length≤maxLen) (hm:m.length≤maxLen) (hr:Row w A l) (hs:Row w B m) :
  Calls Tryz.prog 49 #[.slice A l.length cap,.slice B m.length dap] w fun e w'=>e= .returned (.bool (eqL l m))∧Gr w w':=by
 unfold maxLen at hl hm
 have hE:=neqDot
 have hG:=guardDot
 by_cases hlen:l.length=m.length
 ·have hlz:((l.length:Int) != (m.length:Int))=false:=by rw[hlen];simp
  have hlH:Hid (l.length=m.length):=hlen
  clear hlen
  go_enter Tryz.func49,Tryz.ntmps49
  go_wp2
  go_loopw [13] (fun i wr=>∃k:Nat,k≤l.length∧i= .int .i64 k∧Hid (∀j (h:j<l.length) (h':j<m.length),j<k→l[j]=m[j])∧Gr w wr) (fun i _=>l.length-(intOf i).toNat)
  case atStart=>exact ⟨0,Nat.zero_le _,rfl,fun j _ _ hj=>absurd hj (Nat.not_lt_zero _),Gr.refl _⟩
  case round =>
   obtain ⟨k,hk,rfl,hno,hgr⟩:=hrel
   by_cases hlt:k<l.length
   ·have hltz:(k:Int)<(l.length:Int):=by omega
    have hlt2:k<m.length:=by have:=hlH.out;omega
    have hltz2:(k:Int)<(m.length:Int):=by omega
    obtain ⟨bb,off,rfl,hb,hcs⟩:=(hr.gr hgr).at hlt
    obtain ⟨bb2,off2,rfl,hb2,hcs2⟩:=(hs.gr hgr).at hlt2
    have e0:=(hcs k hlt).1
    have e1:=(hcs k hlt).2
    have f0:=(hcs2 k hlt2).1
    have f1:=(hcs2 k hlt2).2
    clear hcs hcs2
    cases hq:((l[k]).1==(m[k]).1 && (l[k]).2==(m[k]).2)
    ·have hfin:Hid (eqL l m=false):=by
      show eqL l m=false
      simp only[eqL,decide_eq_false_iff_not]
      intro h
      subst h
      simp at hq
     go_wp2
     go_quiet (fail)
     go_wp2
     go_ret
     rw[hfin.out]
     exact ⟨rfl,hgr.trans ⟨nq,#[],by rw[grow_empty]⟩⟩
    ·have hne:Hid (l[k]=m[k]):=by
      simp only[Bool.and_eq_true,beq_iff_eq] at hq
      exact Prod.ext hq.1 hq.2
     go_wp2
     go_quiet (fail)
     go_wp2
     go_roundw
     case rel =>
      refine ⟨k+1,by omega,by go_num,?_,hgr.trans ⟨nq,#[],by rw[grow_empty]⟩⟩
      intro j hj hj' hjk
      by_cases e:j=k
      ·subst e;exact hne
      ·exact hno j hj hj' (by omega)
     case measure=>simp[intOf];omega
   ·have hltz:¬(k:Int)<(l.length:Int):=by omega
    have hfin:Hid (eqL l m=true):=by
     show eqL l m=true
     simp only[eqL,decide_eq_true_eq]
     exact List.ext_getElem hlH.out fun j h1 h2=>hno j h1 h2 (by omega)
    go_wp2
    go_ret
    rw[hfin.out]
    exact ⟨rfl,hgr⟩
 ·have hlz:((l.length:Int) != (m.length:Int))=true:=by simp;omega
  have hfin:Hid (eqL l m=false):=by
   show eqL l m=false
   simp only[eqL,decide_eq_false_iff_not]
   intro h
   exact hlen (by rw[h])
  clear hlen
  go_enter Tryz.func49,Tryz.ntmps49
  go_wp2
  go_ret
  rw[hfin.out]
  exact ⟨rfl,Gr.refl _⟩

end Go.Proofs.YtkadjjmkokhldaaGreat

namespace Go.Proofs.YtkadjjmkokhldaaGreat
open Go.RowKit Go.Sort

theorem hasB_clk {c:Ctx} {a b:Int} (h1:inB a 0 3=true) (h2:1≤b) (h3:b≤clk c a):hasB c (a,b)=true:=by simp[hasB,h1,h2,h3]
theorem hasB_mem {c:Ctx} {x:Int×Int} (h:¬(inB x.1 0 3=true∧1≤x.2∧x.2≤clk c x.1)):hasB c x=memB c.l x:=by
 unfold hasB memB
 cases h1:inB x.1 0 3
 ·simp
 ·by_cases h2:1≤x.2
  ·have h3:¬x.2≤clk c x.1:=fun h3=>h ⟨h1,h2,h3⟩
   simp[h2,h3]
  ·simp[h2]

set_option maxHeartbeats 1000000 in
theorem has_any (c:Ctx) (A:Option Addr) (cap:Nat) (x:Int×Int) (w:World) (hl:c.l.length≤maxLen) (hr:Row w A c.l) :
  Calls Tryz.prog 59 #[.agg #[.int .i64 c.c0,.int .i64 c.c1,.int .i64 c.c2,.int .i64 c.c3,.slice A c.l.length cap],.agg #[.int .i64 x.1,.int .i64 x.2]] w fun e w'=>e= .returned (.bool (hasB c x))∧Gr w w':=by
 obtain ⟨a,b⟩:=x
 have hgr:=((Gr.refl ((w.alloc (.cells #[.int .i64 c.c0,.int .i64 c.c1,.int .i64 c.c2,.int .i64 c.c3,.slice A c.l.length cap] 34)).alloc (.cells #[.int .i64 a,.int .i64 b] 52))))
 have k4:=box1 (unbox_in hgr) (j:=4) rfl
 have d0:=box2 hgr (j:=0) rfl
 have d1:=box2 hgr (j:=1) rfl
 have hrow:=hr.gr (unbox (unbox hgr))
 have hgw:=unbox (unbox hgr)
 go_enter Tryz.func59,Tryz.ntmps59
 cases h1:inB a 0 3
 ·have hfin:Hid (hasB c (a,b)=memB c.l (a,b)):=hasB_mem (by simp[h1])
  go_wp2
  generalize (w.alloc (.cells #[.int .i64 c.c0,.int .i64 c.c1,.int .i64 c.c2,.int .i64 c.c3,.slice A c.l.length cap] 34)).alloc (.cells #[.int .i64 a,.int .i64 b] 52)=W at k4 d0 d1 hrow hgw ⊢
  clear hgr
  go_quiet ((go_at_call 76;exact Calls.quiet_of_same (isNode_g h1 _)))
  go_wp2_with fail
  refine (contains_any c.l A cap (a,b) _ hl (hrow.gr ⟨nq,#[],by rw[grow_empty]⟩)).mono ?_
  rintro e w' ⟨rfl,hg⟩
  go_wp2
  go_ret
  rw[hfin.out]
  exact ⟨rfl,(hgw.trans ⟨nq,#[],by rw[grow_empty]⟩).trans hg⟩
 ·have hn:0≤a∧a<4:=by simp[inB] at h1;omega
  have kc:=box1 (unbox_in hgr) (clkCell (c:=c) hn.1 hn.2)
  by_cases h2:1≤b
  ·by_cases h3:b≤clk c a
   ·have hfin:Hid (hasB c (a,b)=true):=hasB_clk h1 h2 h3
    go_wp2
    generalize (w.alloc (.cells #[.int .i64 c.c0,.int .i64 c.c1,.int .i64 c.c2,.int .i64 c.c3,.slice A c.l.length cap] 34)).alloc (.cells #[.int .i64 a,.int .i64 b] 52)=W at k4 d0 d1 hrow hgw kc ⊢
    clear hgr
    go_quiet ((go_at_call 76;exact Calls.quiet_of_same (isNode_g h1 _)))
    go_wp2
    go_ret
    rw[hfin.out]
    exact ⟨rfl,(hgw.trans ⟨nq,#[],by rw[grow_empty]⟩)⟩
   ·have hfin:Hid (hasB c (a,b)=memB c.l (a,b)):=hasB_mem (by simp[h3])
    have h3b:decide (b≤clk c a)=false:=by simpa using h3
    go_wp2
    generalize (w.alloc (.cells #[.int .i64 c.c0,.int .i64 c.c1,.int .i64 c.c2,.int .i64 c.c3,.slice A c.l.length cap] 34)).alloc (.cells #[.int .i64 a,.int .i64 b] 52)=W at k4 d0 d1 hrow hgw kc ⊢
    clear hgr
    go_quiet ((go_at_call 76;exact Calls.quiet_of_same (isNode_g h1 _)))
    go_wp2_with fail
    refine (contains_any c.l A cap (a,b) _ hl (hrow.gr ⟨nq,#[],by rw[grow_empty]⟩)).mono ?_
    rintro e w' ⟨rfl,hg⟩
    go_wp2
    go_ret
    rw[hfin.out]
    exact ⟨rfl,(hgw.trans ⟨nq,#[],by rw[grow_empty]⟩).trans hg⟩
  ·have hfin:Hid (hasB c (a,b)=memB c.l (a,b)):=hasB_mem (by simp[h2])
   have h2b:decide (1≤b)=false:=by simpa using h2
   clear h2
   go_wp2
   generalize (w.alloc (.cells #[.int .i64 c.c0,.int .i64 c.c1,.int .i64 c.c2,.int .i64 c.c3,.slice A c.l.length cap] 34)).alloc (.cells #[.int .i64 a,.int .i64 b] 52)=W at k4 d0 d1 hrow hgw kc ⊢
   clear hgr
   go_quiet ((go_at_call 76;exact Calls.quiet_of_same (isNode_g h1 _)))
   go_wp2_with fail
   refine (contains_any c.l A cap (a,b) _ hl (hrow.gr ⟨nq,#[],by rw[grow_empty]⟩)).mono ?_
   rintro e w' ⟨rfl,hg⟩
   go_wp2
   go_ret
   rw[hfin.out]
   exact ⟨rfl,(hgw.trans ⟨nq,#[],by rw[grow_empty]⟩).trans hg⟩

end Go.Proofs.YtkadjjmkokhldaaGreat
