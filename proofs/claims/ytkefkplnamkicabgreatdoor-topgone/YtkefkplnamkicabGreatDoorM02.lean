import Derived.Test.YtkefkplnamkicabGreatDoorM01
set_option maxRecDepth 100000
set_option maxHeartbeats 8000000
open Go.Ending renaming returned → Z
open Go.IntKind renaming i64 → I
open Go.Obj renaming cells → S
open Go.Proofs.Tryz renaming prog → O
open Go.Value renaming int → V, slice → J, agg → H, bool → Y
namespace Go.Proofs.YtkefkplnamkicabGreatDoor
open Go.RowKit Go.Sort

theorem eh (n:Int) (w:World) :
  Calls O 66 #[V I n] w fun e w'=>e= Z (Y (inB n 0 49))∧w'=w:=by
 by_cases h1:0≤n
 ·by_cases h2:n<50
  ·have e:inB n 0 49=true:=by simp[inB];omega
   rw[e];clear e
   go_enter Tryz.func66,Tryz.ntmps66
   go_wp2
   go_ret
   exact ⟨rfl,rfl⟩
  ·have e:inB n 0 49=false:=by simp[inB];omega
   rw[e];clear e
   go_enter Tryz.func66,Tryz.ntmps66
   go_wp2
   go_ret
   exact ⟨rfl,rfl⟩
 ·have e:inB n 0 49=false:=by simp[inB];omega
  rw[e];clear e
  go_enter Tryz.func66,Tryz.ntmps66
  go_wp2
  go_ret
  exact ⟨rfl,rfl⟩

theorem qw (k c v:Int) (w:World) :
  Calls O 46 #[V I k,V I c,V I v] w fun e w'=>e= Z (Y (aU k c v))∧w'=w:=by
 cases h1:inB k 0 49
 ·have e:aU k c v=false:=by simp[aU,h1]
  rw[e];clear e
  go_enter Tryz.func46,Tryz.ntmps46
  go_wp2_with (go_at_call 66;refine (eh _ _).mono ?_;rintro e w' ⟨rfl,rfl⟩;rw[h1])
  go_ret
  exact ⟨rfl,rfl⟩
 ·by_cases h2:0≤c
  ·by_cases h3:c<3
   ·by_cases h4: -1000≤v
    ·by_cases h5:v≤1000
     ·have e:aU k c v=true:=by unfold aU;rw[h1];simp[inB];omega
      rw[e];clear e
      go_enter Tryz.func46,Tryz.ntmps46
      go_wp2_with (go_at_call 66;refine (eh _ _).mono ?_;rintro e w' ⟨rfl,rfl⟩;rw[h1])
      go_ret
      exact ⟨rfl,rfl⟩
     ·have e:aU k c v=false:=by unfold aU;rw[h1];simp[inB];omega
      rw[e];clear e
      have h5b:decide (v≤1000)=false:=by simpa using h5
      go_enter Tryz.func46,Tryz.ntmps46
      go_wp2_with (go_at_call 66;refine (eh _ _).mono ?_;rintro e w' ⟨rfl,rfl⟩;rw[h1])
      go_ret
      exact ⟨rfl,rfl⟩
    ·have e:aU k c v=false:=by unfold aU;rw[h1];simp[inB];omega
     rw[e];clear e
     have h4b:decide (-1000≤v)=false:=by simpa using h4
     go_enter Tryz.func46,Tryz.ntmps46
     go_wp2_with (go_at_call 66;refine (eh _ _).mono ?_;rintro e w' ⟨rfl,rfl⟩;rw[h1])
     go_ret
     exact ⟨rfl,rfl⟩
   ·have e:aU k c v=false:=by unfold aU;rw[h1];simp[inB];omega
    rw[e];clear e
    have h3b:decide (c<3)=false:=by simpa using h3
    go_enter Tryz.func46,Tryz.ntmps46
    go_wp2_with (go_at_call 66;refine (eh _ _).mono ?_;rintro e w' ⟨rfl,rfl⟩;rw[h1])
    go_ret
    exact ⟨rfl,rfl⟩
  ·have e:aU k c v=false:=by unfold aU;rw[h1];simp[inB];omega
   rw[e];clear e
   have h2b:decide (0≤c)=false:=by simpa using h2
   go_enter Tryz.func46,Tryz.ntmps46
   go_wp2_with (go_at_call 66;refine (eh _ _).mono ?_;rintro e w' ⟨rfl,rfl⟩;rw[h1])
   go_ret
   exact ⟨rfl,rfl⟩

theorem lG (x y:Cel) (w:World) :
  Calls O 47 #[H #[V I x.1.1,V I x.1.2,V I x.2.1,V I x.2.2.1,V I x.2.2.2],H #[V I y.1.1,V I y.1.2,V I y.2.1,V I y.2.2.1,V I y.2.2.2]] w fun e w'=>e= Z (V I (dY x.1 y.1))∧Gr w w':=by
 go_enter Tryz.func47,Tryz.ntmps47
 go_wp2_with fail
 refine (jQ x.1 y.1 _).mono ?_
 rintro e w' ⟨rfl,hg⟩
 go_wp2
 go_ret
 exact ⟨rfl,(((gR w).alloc _).alloc _).trans hg⟩

theorem fH {x y:Cel} {r:Int} (h:dY x.1 y.1=r) (w:World):Calls O 47 #[H #[V I x.1.1,V I x.1.2,V I x.2.1,V I x.2.2.1,V I x.2.2.2],H #[V I y.1.1,V I y.1.2,V I y.2.1,V I y.2.2.1,V I y.2.2.2]] w fun e w'=>e= Z (V I r)∧∃q os',w'=grow (w.drewN q) os':=by
 rw[←h];exact lG x y w
theorem fA {k c v:Int} {r:Bool} (h:aU k c v=r) (w:World) :
  Calls O 46 #[V I k,V I c,V I v] w fun e w'=>e= Z (Y r)∧w'=w:=by
 rw[←h];exact qw k c v w
theorem rJ {n:Int} {r:Bool} (h:inB n 0 49=r) (w:World) :
  Calls O 66 #[V I n] w fun e w'=>e= Z (Y r)∧w'=w:=by
 rw[←h];exact eh n w


theorem qh {w W:World} {x y:Int} {T:TypeId} (h:Gr (w.alloc (S #[V I x,V I y] T)) W):(∀n os,(grow (W.drewN n) os).cell? ⟨w.heap.size,0,none⟩=some (V I x))∧(∀n os,(grow (W.drewN n) os).cell? ⟨w.heap.size,1,none⟩=some (V I y)) :=
 ⟨fb h rfl,fb h rfl⟩

theorem eO (c:Ctx) (A:Option Addr) (cap:Nat) (w:World) (hl:c.l.length≤maxLen) (hr:Row w A c.l) :
  Calls O 44 #[H #[V I c.c0,V I c.c1,V I c.c2,V I c.c3,J A c.l.length cap]] w fun e w'=>e= Z (V I (aO c))∧Gr w w':=by
 unfold maxLen at hl
 have mixed:Tryz.prog.follows .mixedOrders=true:=by kernel_rfl
 have i0:∀w,(Instr.index 36 (H #[V I c.c0,V I c.c1,V I c.c2,V I c.c3]) (V I 0)).run O w= .ok (V I (clk c 0)) w:=fun _=>by kernel_rfl
 have i1:∀w,(Instr.index 36 (H #[V I c.c0,V I c.c1,V I c.c2,V I c.c3]) (V I 1)).run O w= .ok (V I (clk c 1)) w:=fun _=>by kernel_rfl
 have i2:∀w,(Instr.index 36 (H #[V I c.c0,V I c.c1,V I c.c2,V I c.c3]) (V I 2)).run O w= .ok (V I (clk c 2)) w:=fun _=>by kernel_rfl
 have i3:∀w,(Instr.index 36 (H #[V I c.c0,V I c.c1,V I c.c2,V I c.c3]) (V I 3)).run O w= .ok (V I (clk c 3)) w:=fun _=>by kernel_rfl
 go_enter Tryz.func44,Tryz.ntmps44
 go_wp2
 go_loopw [9] (fun i wr=>∃k:Nat,k≤4∧i= V I k∧Hid (∀a:Int,0≤a→a<k→inB (clk c a) 0 1099511627776=true)∧Gr (w.alloc (S #[V I c.c0,V I c.c1,V I c.c2,V I c.c3,J A c.l.length cap] 39)) wr) (fun i _=>4-(intOf i).toNat)
 case atStart=>exact ⟨0,by omega,rfl,fun a h0 h1=>by omega,gR _⟩
 case round =>
  obtain ⟨k,hk,rfl,hin,hgr⟩:=hrel
  by_cases hlt:k<4
  ·have hltz:(k:Int)<4:=by omega
   have ik:∀w,(Instr.index 36 (H #[V I c.c0,V I c.c1,V I c.c2,V I c.c3]) (V I k)).run O w= .ok (V I (clk c k)) w:=by
    have h4:k=0∨k=1∨k=2∨k=3:=by omega
    rcases h4 with rfl|rfl|rfl|rfl
    ·exact i0
    ·exact i1
    ·exact i2
    ·exact i3
   clear i0 i1 i2 i3
   have hpos:clk c (k:Int)<0∨1099511627776<clk c (k:Int)∨(¬clk c (k:Int)<0∧¬ 1099511627776<clk c (k:Int)):=by omega
   rcases hpos with h1|h1|⟨h1,h2⟩
   ·have hfin:Hid (aO c=1):=oG (by omega) hltz (by simp[inB];omega)
    go_wp2
    go_ret
    rw[hfin.out]
    exact ⟨rfl,cv hgr⟩
   ·have hfin:Hid (aO c=1):=oG (by omega) hltz (by simp[inB];omega)
    have h1b:¬clk c (k:Int)<0:=by omega
    go_wp2
    go_ret
    rw[hfin.out]
    exact ⟨rfl,cv hgr⟩
   ·have hi:Hid (inB (clk c (k:Int)) 0 1099511627776=true):=by show inB _ _ _=true;simp[inB];omega
    go_wp2
    go_roundw
    case rel =>
     refine ⟨k+1,by omega,by go_num,?_,hgr⟩
     intro a h0 h1
     by_cases e:a=(k:Int)
     ·rw[e];exact hi
     ·exact hin a h0 (by omega)
    case measure=>simp[intOf];omega
  ·clear i0 i1 i2 i3
   obtain rfl:k=4:=by omega
   have k4:=ab hgr (j:=4) rfl
   have hok:bw c=true:=lE fun a h0 h4=>hin a h0 (by omega)
   by_cases h400:400<c.l.length
   ·have h400z:(400:Int)<(c.l.length:Int):=by omega
    have hfin:Hid (aO c=2):=qk hok h400
    go_wp2
    go_ret
    rw[hfin.out]
    exact ⟨rfl,cv hgr⟩
   ·have h400z:¬(400:Int)<(c.l.length:Int):=by omega
    have hokH:Hid (bw c=true):=hok
    clear hok
    go_wp2
    clear k4 hin
    go_loopw [26] (fun i wr=>∃k:Nat,k≤c.l.length∧i= V I k∧Hid (∀j,j<k→iu c j=true)∧Gr (w.alloc (S #[V I c.c0,V I c.c1,V I c.c2,V I c.c3,J A c.l.length cap] 39)) wr) (fun i _=>c.l.length-(intOf i).toNat)
    case atStart=>exact ⟨0,by omega,rfl,fun j h=>by omega,hgr⟩
    case round =>
     clear hgr
     rename World=>wr0
     obtain ⟨k,hk,rfl,hall,hgr⟩:=hrel
     by_cases hlt:k<c.l.length
     ·have hltz:(k:Int)<(c.l.length:Int):=by omega
      obtain ⟨b,off,rfl,hb,hcs⟩:=(hr.gr (cv hgr)).at hlt
      obtain ⟨x,y,hx⟩:∃x y,c.l[k]=(x,y):=⟨_,_,rfl⟩
      have e0:=(hcs k hlt).1
      have e1:=(hcs k hlt).2
      rw[hx] at e0 e1
      have hcsH:Hid (∀j (h:j<c.l.length),_):=hcs
      have hxH:Hid (c.l[k]=(x,y)):=hx
      clear hcs hx
      cases hri:al (x,y)
      ·have hfin:Hid (aO c=5):=by
        refine jH hokH.out (by omega) hlt ?_
        cases k with
        | zero=>rw[eR hlt hxH.out,hri];rfl
        | succ m=>rw[dN hlt hxH.out rfl,hri];rfl
       go_wp2
       have d0:=fb (gR (wr0.alloc (S #[V I x,V I y] 83))) (j:=0) rfl
       have d1:=fb (gR (wr0.alloc (S #[V I x,V I y] 83))) (j:=1) rfl
       have hgW:=(hgr.alloc (S #[V I x,V I y] 83))
       have rG:=((gR wr0).alloc (S #[V I x,V I y] 83))
       have dG:=fun X (hX:Gr (wr0.alloc (S #[V I x,V I y] 83)) X)=>qh hX
       have g4:=fb hgW (j:=4) rfl
       have hsz:wr0.heap.size<(wr0.alloc (S #[V I x,V I y] 83)).heap.size:=by simp
       generalize wr0.alloc (S #[V I x,V I y] 83)=W at d0 d1 hgW rG dG g4 hsz ⊢
       refine wp_region_quiet_grown mixed (by kernel_rfl) ?_
       repeat (go_big_quiet_step ((go_at_call 62;refine Calls.grown_of (gA hri _))))
       refine wpQuiet_nil ?_
       rintro _ ⟨⟨nq,osq⟩,rfl⟩
       go_wp2
       go_ret
       rw[hfin.out]
       exact ⟨rfl,(cv hgW).trans ⟨nq,osq,rfl⟩⟩
      ·have hn:=dO hri
       have hcb:=cz hokH.out x hn.1 hn.2.1
       by_cases hs:y≤clk c x+1
       ·have hfin:Hid (aO c=5):=by
         refine jH hokH.out (by omega) hlt ?_
         cases k with
         | zero=>rw[eR hlt hxH.out,hri];simp;omega
         | succ m=>rw[dN hlt hxH.out rfl,hri];simp;omega
        go_wp2
        have d0:=fb (gR (wr0.alloc (S #[V I x,V I y] 83))) (j:=0) rfl
        have d1:=fb (gR (wr0.alloc (S #[V I x,V I y] 83))) (j:=1) rfl
        have hgW:=(hgr.alloc (S #[V I x,V I y] 83))
        have rG:=((gR wr0).alloc (S #[V I x,V I y] 83))
        have dG:=fun X (hX:Gr (wr0.alloc (S #[V I x,V I y] 83)) X)=>qh hX
        have g4:=fb hgW (j:=4) rfl
        have gc:=fb hgW (gW (c:=c) hn.1 hn.2.1)
        have hsz:wr0.heap.size<(wr0.alloc (S #[V I x,V I y] 83)).heap.size:=by simp
        generalize wr0.alloc (S #[V I x,V I y] 83)=W at d0 d1 hgW rG dG g4 gc hsz ⊢
        refine wp_region_quiet_grown mixed (by kernel_rfl) ?_
        repeat (go_big_quiet_step ((go_at_call 62;refine Calls.grown_of (gA hri _))))
        refine wpQuiet_nil ?_
        rintro _ ⟨⟨nq,osq⟩,rfl⟩
        go_wp2
        go_ret
        rw[hfin.out]
        exact ⟨rfl,(cv hgW).trans ⟨nq,osq,rfl⟩⟩
       ·have hsb:decide (y≤clk c x+1)=false:=by simpa using hs
        go_wp2
        have d0:=fb (gR (wr0.alloc (S #[V I x,V I y] 83))) (j:=0) rfl
        have d1:=fb (gR (wr0.alloc (S #[V I x,V I y] 83))) (j:=1) rfl
        have hgW:=(hgr.alloc (S #[V I x,V I y] 83))
        have rG:=((gR wr0).alloc (S #[V I x,V I y] 83))
        have dG:=fun X (hX:Gr (wr0.alloc (S #[V I x,V I y] 83)) X)=>qh hX
        have g4:=fb hgW (j:=4) rfl
        have gc:=fb hgW (gW (c:=c) hn.1 hn.2.1)
        have hsz:wr0.heap.size<(wr0.alloc (S #[V I x,V I y] 83)).heap.size:=by simp
        generalize wr0.alloc (S #[V I x,V I y] 83)=W at d0 d1 hgW rG dG g4 gc hsz ⊢
        refine wp_region_quiet_grown mixed (by kernel_rfl) ?_
        repeat (go_big_quiet_step ((go_at_call 62;refine Calls.grown_of (gA hri _))))
        refine wpQuiet_nil ?_
        rintro _ ⟨⟨nq,osq⟩,rfl⟩
        have hg2:Gr W (grow (W.drewN nq) osq):=⟨nq,osq,rfl⟩
        have hbx:=dG _ hg2
        have g42:=fb (hgW.trans hg2) (j:=4) rfl
        have hgW2:=hgW.trans hg2
        clear d0 d1 g4 gc
        cases k with
        | zero =>
         have hoka:Hid (iu c 0=true):=by
          show iu c 0=true
          rw[eR hlt hxH.out,hri];simp;omega
         obtain ⟨b0,b1⟩:=hbx
         generalize grow (W.drewN nq) osq=W2 at b0 b1 g42 hgW2 ⊢
         go_wp2
         refine wp_region_quiet_grown mixed (by kernel_rfl) ?_
         repeat (go_big_quiet_step (fail))
         refine wpQuiet_nil ?_
         rintro _ ⟨⟨nq2,osq2⟩,rfl⟩
         go_wp2
         go_roundw
         case rel =>
          refine ⟨_,hlt,by go_num,?_,hgW2.trans ⟨nq2,osq2,rfl⟩⟩
          intro j hj
          by_cases e:j=0
          ·rw[e];exact hoka.out
          ·exact hall j (by omega)
         case measure=>simp[intOf];omega
        | succ m =>
         obtain ⟨x',y',hx'⟩:∃x' y',c.l[m]=(x',y'):=⟨_,_,rfl⟩
         have f0:=(hcsH.out m (by omega)).1
         have f1:=(hcsH.out m (by omega)).2
         rw[hx'] at f0 f1
         have hxH':Hid (c.l[m]=(x',y')):=hx'
         clear hx'
         have g0:=(rG.trans hg2).cellG (a:=⟨b,off+m*2,none⟩) hb f0
         have g1:=(rG.trans hg2).cellG (a:=⟨b,off+m*2+1,none⟩) hb f1
         obtain ⟨b0,b1⟩:=hbx
         clear f0 f1
         generalize grow (W.drewN nq) osq=W2 at b0 b1 g42 hgW2 g0 g1 ⊢
         cases hbe:br (x',y') (x,y)
         ·have hfin:Hid (aO c=5):=jH hokH.out (by omega) hlt (by rw[dN hlt hxH.out hxH'.out,hri,hbe];rfl)
          have hge:=gL hbe
          go_wp2
          refine wp_region_quiet_grown mixed (by kernel_rfl) ?_
          repeat (go_big_quiet_step ((go_at_call 63;refine Calls.grown_of (rQ rfl _))))
          refine wpQuiet_nil ?_
          rintro _ ⟨⟨nq2,osq2⟩,rfl⟩
          go_wp2
          go_ret
          rw[hfin.out]
          exact ⟨rfl,(cv hgW2).trans ⟨nq2,osq2,rfl⟩⟩
         ·have hge:=gK hbe
          have hoka:Hid (iu c (m+1)=true):=by
           show iu c (m+1)=true
           rw[dN hlt hxH.out hxH'.out,hri,hbe];simp;omega
          go_wp2
          refine wp_region_quiet_grown mixed (by kernel_rfl) ?_
          repeat (go_big_quiet_step ((go_at_call 63;refine Calls.grown_of (rQ hge _))))
          refine wpQuiet_nil ?_
          rintro _ ⟨⟨nq2,osq2⟩,rfl⟩
          go_wp2
          go_roundw
          case rel =>
           refine ⟨_,hlt,by go_num,?_,hgW2.trans ⟨nq2,osq2,rfl⟩⟩
           intro j hj
           by_cases e:j=m+1
           ·rw[e];exact hoka.out
           ·exact hall j (by omega)
          case measure=>simp[intOf];omega
     ·have hltz:¬(k:Int)<(c.l.length:Int):=by omega
      have hfin:Hid (aO c=0):=rC hokH.out (by omega) fun j hj=>hall j (by omega)
      go_wp2
      go_ret
      rw[hfin.out]
      exact ⟨rfl,cv hgr⟩


theorem sJ (l:List (Int×Int)) (A:Option Addr) (cap:Nat) (x:Int×Int) (w:World) (hl:l.length≤maxLen) (hr:Row w A l) :
  Calls O 95 #[J A l.length cap,H #[V I x.1,V I x.2]] w fun e w'=>∃r:Int,e= Z (V I r)∧Hid (decide (0≤r)=lp l x)∧Gr w w':=by
 obtain ⟨a,b⟩:=x
 unfold maxLen at hl
 have hE:=yW
 have hG:=oS
 go_enter Tryz.func95,Tryz.ntmps95
 go_wp2
 go_loopw [8] (fun i wr=>∃k:Nat,k≤l.length∧i= V I k∧Hid (∀j (h:j<l.length),j<k→l[j]≠(a,b))∧Gr (w.alloc (S #[V I a,V I b] 83)) wr) (fun i _=>l.length-(intOf i).toNat)
 case atStart=>exact ⟨0,nZ _,rfl,fun j _ hj=>absurd hj (Nat.not_lt_zero _),gR _⟩
 case round =>
  obtain ⟨k,hk,rfl,hno,hgr⟩:=hrel
  have d0:=ab hgr (j:=0) rfl
  have d1:=ab hgr (j:=1) rfl
  by_cases hlt:k<l.length
  ·have hltz:(k:Int)<(l.length:Int):=by omega
   obtain ⟨bb,off,rfl,hb,hcs⟩:=(hr.gr (cv hgr)).at hlt
   have e0:=(hcs k hlt).1
   have e1:=(hcs k hlt).2
   clear hcs
   cases hq:(a==(l[k]).1 && b==(l[k]).2)
   ·have hne:Hid (l[k]≠(a,b)):=by
     intro h
     rw[h] at hq
     simp at hq
    go_wp2
    go_quiet (fail)
    go_wp2
    go_roundw
    case rel =>
     refine ⟨k+1,by omega,by go_num,?_,hgr.trans ⟨nq,#[],by rw[grow_empty]⟩⟩
     intro j hj hjk
     by_cases e:j=k
     ·subst e;exact hne
     ·exact hno j hj (by omega)
    case measure=>simp[intOf];omega
   ·have hfin:Hid (decide ((0:Int)≤(k:Int))=lp l (a,b)):=by
     have:(a,b)∈l:=by
      have h:l[k]=(a,b):=by
       simp only[Bool.and_eq_true,beq_iff_eq] at hq
       exact Prod.ext hq.1.symm hq.2.symm
      rw[←h];exact gM hlt
     show decide _=_
     simp[lp,this]
    go_wp2
    go_quiet (fail)
    go_wp2
    go_ret
    exact ⟨_,rfl,hfin,(cv hgr).trans ⟨nq,#[],by rw[grow_empty]⟩⟩
  ·have hltz:¬(k:Int)<(l.length:Int):=by omega
   have hfin:Hid (decide ((0:Int)≤ -1)=lp l (a,b)):=by
    have:(a,b) ∉ l:=by
     intro h
     obtain ⟨j,hj,e⟩:=List.getElem_of_mem h
     exact hno j hj (by omega) e
    show decide _=_
    simp[lp,this]
   go_wp2
   go_ret
   exact ⟨_,rfl,hfin,cv hgr⟩

theorem fT (l:List (Int×Int)) (A:Option Addr) (cap:Nat) (x:Int×Int) (w:World) (hl:l.length≤maxLen) (hr:Row w A l) :
  Calls O 65 #[J A l.length cap,H #[V I x.1,V I x.2]] w fun e w'=>e= Z (Y (lp l x))∧Gr w w':=by
 go_enter Tryz.func65,Tryz.ntmps65
 go_wp2_with fail
 refine (sJ l A cap x _ hl (hr.gr ((gR _).alloc _))).mono ?_
 rintro e w' ⟨r,rfl,hrr,hg⟩
 go_wp2
 go_ret
 exact ⟨by rw[←hrr.out];rfl,cv hg⟩


theorem uO {c:Ctx} {a b:Int} (h1:inB a 0 3=true) (h2:1≤b) (h3:b≤clk c a):ae c (a,b)=true:=by simp[ae,h1,h2,h3]
theorem lf {c:Ctx} {x:Int×Int} (h:¬(inB x.1 0 3=true∧1≤x.2∧x.2≤clk c x.1)):ae c x=lp c.l x:=by
 unfold ae lp
 cases h1:inB x.1 0 3
 ·simp
 ·by_cases h2:1≤x.2
  ·have h3:¬x.2≤clk c x.1:=fun h3=>h ⟨h1,h2,h3⟩
   simp[h2,h3]
  ·simp[h2]

theorem jh (c:Ctx) (A:Option Addr) (cap:Nat) (x:Int×Int) (w:World) (hl:c.l.length≤maxLen) (hr:Row w A c.l) :
  Calls O 45 #[H #[V I c.c0,V I c.c1,V I c.c2,V I c.c3,J A c.l.length cap],H #[V I x.1,V I x.2]] w fun e w'=>e= Z (Y (ae c x))∧Gr w w':=by
 obtain ⟨a,b⟩:=x
 have hgr:=((gR ((w.alloc (S #[V I c.c0,V I c.c1,V I c.c2,V I c.c3,J A c.l.length cap] 39)).alloc (S #[V I a,V I b] 83))))
 have k4:=ab (gT hgr) (j:=4) rfl
 have d0:=lY hgr (j:=0) rfl
 have d1:=lY hgr (j:=1) rfl
 have hrow:=hr.gr (cv (cv hgr))
 have hgw:=cv (cv hgr)
 go_enter Tryz.func45,Tryz.ntmps45
 cases h1:inB a 0 3
 ·have hfin:Hid (ae c (a,b)=lp c.l (a,b)):=lf (by simp[h1])
  go_wp2
  generalize (w.alloc (S #[V I c.c0,V I c.c1,V I c.c2,V I c.c3,J A c.l.length cap] 39)).alloc (S #[V I a,V I b] 83)=W at k4 d0 d1 hrow hgw ⊢
  clear hgr
  go_quiet ((go_at_call 64;exact Calls.quiet_of_same (fB h1 _)))
  go_wp2_with fail
  refine (fT c.l A cap (a,b) _ hl (hrow.gr ⟨nq,#[],by rw[grow_empty]⟩)).mono ?_
  rintro e w' ⟨rfl,hg⟩
  go_wp2
  go_ret
  rw[hfin.out]
  exact ⟨rfl,(hgw.trans ⟨nq,#[],by rw[grow_empty]⟩).trans hg⟩
 ·have hn:0≤a∧a<4:=by simp[inB] at h1;omega
  have kc:=ab (gT hgr) (gW (c:=c) hn.1 hn.2)
  by_cases h2:1≤b
  ·by_cases h3:b≤clk c a
   ·have hfin:Hid (ae c (a,b)=true):=uO h1 h2 h3
    go_wp2
    generalize (w.alloc (S #[V I c.c0,V I c.c1,V I c.c2,V I c.c3,J A c.l.length cap] 39)).alloc (S #[V I a,V I b] 83)=W at k4 d0 d1 hrow hgw kc ⊢
    clear hgr
    go_quiet ((go_at_call 64;exact Calls.quiet_of_same (fB h1 _)))
    go_wp2
    go_ret
    rw[hfin.out]
    exact ⟨rfl,(hgw.trans ⟨nq,#[],by rw[grow_empty]⟩)⟩
   ·have hfin:Hid (ae c (a,b)=lp c.l (a,b)):=lf (by simp[h3])
    have h3b:decide (b≤clk c a)=false:=by simpa using h3
    go_wp2
    generalize (w.alloc (S #[V I c.c0,V I c.c1,V I c.c2,V I c.c3,J A c.l.length cap] 39)).alloc (S #[V I a,V I b] 83)=W at k4 d0 d1 hrow hgw kc ⊢
    clear hgr
    go_quiet ((go_at_call 64;exact Calls.quiet_of_same (fB h1 _)))
    go_wp2_with fail
    refine (fT c.l A cap (a,b) _ hl (hrow.gr ⟨nq,#[],by rw[grow_empty]⟩)).mono ?_
    rintro e w' ⟨rfl,hg⟩
    go_wp2
    go_ret
    rw[hfin.out]
    exact ⟨rfl,(hgw.trans ⟨nq,#[],by rw[grow_empty]⟩).trans hg⟩
  ·have hfin:Hid (ae c (a,b)=lp c.l (a,b)):=lf (by simp[h2])
   have h2b:decide (1≤b)=false:=by simpa using h2
   clear h2
   go_wp2
   generalize (w.alloc (S #[V I c.c0,V I c.c1,V I c.c2,V I c.c3,J A c.l.length cap] 39)).alloc (S #[V I a,V I b] 83)=W at k4 d0 d1 hrow hgw kc ⊢
   clear hgr
   go_quiet ((go_at_call 64;exact Calls.quiet_of_same (fB h1 _)))
   go_wp2_with fail
   refine (fT c.l A cap (a,b) _ hl (hrow.gr ⟨nq,#[],by rw[grow_empty]⟩)).mono ?_
   rintro e w' ⟨rfl,hg⟩
   go_wp2
   go_ret
   rw[hfin.out]
   exact ⟨rfl,(hgw.trans ⟨nq,#[],by rw[grow_empty]⟩).trans hg⟩


theorem ef (t:Tab) (A:Option Addr) (ca:Nat) (D:Option Addr) (cd:Nat) (w:World) (hl:t.c.l.length≤maxLen) (hel:t.e.length≤maxLen) (hr:Row w A t.c.l) (hd:bA w D t.e) :
  Calls O 30 #[H (T6 t A ca D cd).toArray] w fun e w'=>e= Z (V I (am t))∧Gr w w':=by
 have mixed:Tryz.prog.follows .mixedOrders=true:=by kernel_rfl
 have hg0:Gr w (w.alloc (S #[V I t.c.c0,V I t.c.c1,V I t.c.c2,V I t.c.c3,J A t.c.l.length ca,J D t.e.length cd] 42)):=(gR w).alloc _
 have ht0:TabAt (w.alloc (S #[V I t.c.c0,V I t.c.c1,V I t.c.c2,V I t.c.c3,J A t.c.l.length ca,J D t.e.length cd] 42)) w.heap.size t A ca D cd:=TabAt.new 42 hr hd rfl
 have hck:=eO t.c A ca (w.alloc (S #[V I t.c.c0,V I t.c.c1,V I t.c.c2,V I t.c.c3,J A t.c.l.length ca,J D t.e.length cd] 42)) hl ht0.row
 have hckH:Hid _:=hck
 have hlH:Hid (t.c.l.length≤maxLen):=hl
 clear hck hl
 unfold maxLen at hel
 go_enter Tryz.func30,Tryz.ntmps30
 go_wp2_with fail
 refine cM (show Calls _ _ _ _ _ from hckH.out) ?_
 rintro e w1 ⟨rfl,hg1⟩
 clear hckH
 have ht1:=ht0.gr hg1
 have hgw1:Gr w w1:=hg0.trans hg1
 clear ht0 hg0 hg1
 by_cases he:aO t.c=0
 ·have heb:(aO t.c != 0)=false:=by simpa using he
  have heH:Hid (aO t.c=0):=he
  clear he
  obtain ⟨k0,k1,k2,k3,k4,k5,klt,krow,krowC⟩:=(show TabAt _ _ _ _ _ _ _ from ht1)
  by_cases h400:400<t.e.length
  ·have h400z:(400:Int)<(t.e.length:Int):=by omega
   have hfin:Hid (am t=2):=qm heH.out h400
   go_wp2
   go_ret
   rw[hfin.out]
   exact ⟨rfl,hgw1⟩
  ·have h400z:¬(400:Int)<(t.e.length:Int):=by omega
   go_wp2
   clear k0 k1 k2 k3 k4 k5 krow krowC
   go_loopw [19] (fun i wr=>∃k:Nat,k≤t.e.length∧i= V I k∧Hid (∀j,j<k→e9 t j=true)∧Gr w1 wr) (fun i _=>t.e.length-(intOf i).toNat)
   case atStart=>exact ⟨0,by omega,rfl,fun j h=>by omega,gR _⟩
   case round =>
    rename World=>wr0
    obtain ⟨k,hk,rfl,hall,hgr⟩:=hrel
    by_cases hlt:k<t.e.length
    ·have hltz:(k:Int)<(t.e.length:Int):=by omega
     have htR:=ht1.gr hgr
     obtain ⟨b,off,rfl,hb,hcs⟩:=bA.get htR.rowC hlt
     obtain ⟨x,hx⟩:∃x,t.e[k]=x:=⟨_,rfl⟩
     obtain ⟨e0,e1,e2,e3,e4⟩:=hcs k hlt
     rw[hx] at e0 e1 e2 e3 e4
     have hcsH:Hid (∀j (h:j<t.e.length),_):=hcs
     have hxH:Hid (t.e[k]=x):=hx
     clear hcs hx
     have hgX:Gr wr0 (wr0.alloc (S #[V I x.1.1,V I x.1.2,V I x.2.1,V I x.2.2.1,V I x.2.2.2] 85)):=(gR _).alloc _
     have hxX:=CelAt.new (w:=wr0) x 85 rfl
     have htX:=htR.gr hgX
     obtain ⟨t0,t1,t2,t3,t4,t5,tlt,trow,trowC⟩:=(show TabAt _ _ _ _ _ _ _ from htX)
     obtain ⟨x0,x1,x2,x3,x4,xlt⟩:=(show CelAt _ _ _ from hxX)
     have hhas:=jh t.c A ca x.1 (wr0.alloc (S #[V I x.1.1,V I x.1.2,V I x.2.1,V I x.2.2.1,V I x.2.2.2] 85)) hlH.out trow
     have hhasH:Hid _:=hhas
     clear hhas
     go_wp2_with fail
     refine cM (show Calls _ _ _ _ _ from hhasH.out) ?_
     rintro e w2 ⟨rfl,hg2⟩
     clear hhasH t0 t1 t2 t3 t4 t5 x0 x1 x2 x3 x4 xlt tlt trow trowC
     have hgw2:Gr w1 w2:=(hgr.trans hgX).trans hg2
     have hx2:=hxX.gr hg2
     have ht2:=htX.gr hg2
     obtain ⟨x0,x1,x2,x3,x4,xlt⟩:=(show CelAt _ _ _ from hx2)
     cases hhb:ae t.c x.1
     ·have hfin:Hid (am t=5):=by
       refine jI heH.out (by omega) hlt ?_
       cases k with
       | zero=>rw[gd hlt hxH.out,hhb];rfl
       | succ m=>rw[ek hlt hxH.out rfl,hhb];rfl
      go_wp2
      go_ret
      rw[hfin.out]
      exact ⟨rfl,hgw1.trans hgw2⟩
     ·cases hpl:aU x.2.1 x.2.2.1 x.2.2.2
      ·have hfin:Hid (am t=5):=by
        refine jI heH.out (by omega) hlt ?_
        cases k with
        | zero=>rw[gd hlt hxH.out,hpl];simp
        | succ m=>rw[ek hlt hxH.out rfl,hpl];simp
       go_wp2_with (go_at_call 46;refine (fA hpl _).mono ?_;rintro e w' ⟨rfl,rfl⟩)
       go_ret
       rw[hfin.out]
       exact ⟨rfl,hgw1.trans hgw2⟩
      ·cases k with
       | zero =>
        have hoka:Hid (e9 t 0=true):=by
         show e9 t 0=true
         rw[gd hlt hxH.out,hhb,hpl];rfl
        go_wp2_with (first|(go_at_call 46;refine (fA hpl _).mono ?_;rintro e w2 ⟨rfl,rfl⟩)|fail)
        refine wp_region_quiet_grown mixed (by kernel_rfl) ?_
        repeat (go_big_quiet_step (fail))
        refine wpQuiet_nil ?_
        rintro _ ⟨⟨nq2,osq2⟩,rfl⟩
        go_wp2
        go_roundw
        case rel =>
         refine ⟨_,hlt,by go_num,?_,hgw2.trans ⟨nq2,osq2,rfl⟩⟩
         intro j hj
         by_cases e:j=0
         ·rw[e];exact hoka.out
         ·exact hall j (by omega)
        case measure=>simp[intOf];omega
       | succ m =>
        obtain ⟨y,hy⟩:∃y,t.e[m]=y:=⟨_,rfl⟩
        obtain ⟨f0,f1,f2,f3,f4⟩:=hcsH.out m (by omega)
        rw[hy] at f0 f1 f2 f3 f4
        have hyH:Hid (t.e[m]=y):=hy
        clear hy
        have hg02:Gr wr0 w2:=hgX.trans hg2
        have q0:=hg02.cellG (a:=⟨b,off+m*5,none⟩) hb f0
        have q1:=hg02.cellG (a:=⟨b,off+m*5+1,none⟩) hb f1
        have q2:=hg02.cellG (a:=⟨b,off+m*5+2,none⟩) hb f2
        have q3:=hg02.cellG (a:=⟨b,off+m*5+3,none⟩) hb f3
        have q4:=hg02.cellG (a:=⟨b,off+m*5+4,none⟩) hb f4
        have p5:=(gR w2).cellG (a:=⟨w.heap.size,5,none⟩) ht2.lt ht2.k5
        have p0:=(gR w2).cellG (a:=⟨wr0.heap.size,0,none⟩) xlt x0
        have p1:=(gR w2).cellG (a:=⟨wr0.heap.size,1,none⟩) xlt x1
        have p2:=(gR w2).cellG (a:=⟨wr0.heap.size,2,none⟩) xlt x2
        have p3:=(gR w2).cellG (a:=⟨wr0.heap.size,3,none⟩) xlt x3
        have p4:=(gR w2).cellG (a:=⟨wr0.heap.size,4,none⟩) xlt x4
        clear f0 f1 f2 f3 f4
        cases hbe:br y.1 x.1
        ·have hfin:Hid (am t=5):=jI heH.out (by omega) hlt (by rw[ek hlt hxH.out hyH.out,hhb,hpl,hbe];rfl)
         have hge:=gL hbe
         go_wp2_with (first|(go_at_call 46;refine (fA hpl _).mono ?_;rintro e w2 ⟨rfl,rfl⟩)|fail)
         refine wp_region_quiet_grown mixed (by kernel_rfl) ?_
         repeat (go_big_quiet_step ((go_at_call 47;refine Calls.grown_of (fH rfl _))))
         refine wpQuiet_nil ?_
         rintro _ ⟨⟨nq2,osq2⟩,rfl⟩
         go_wp2
         go_ret
         rw[hfin.out]
         exact ⟨rfl,hgw1.trans (hgw2.trans ⟨nq2,osq2,rfl⟩)⟩
        ·have hge:=gK hbe
         have hoka:Hid (e9 t (m+1)=true):=by
          show e9 t (m+1)=true
          rw[ek hlt hxH.out hyH.out,hhb,hpl,hbe];rfl
         go_wp2_with (first|(go_at_call 46;refine (fA hpl _).mono ?_;rintro e w2 ⟨rfl,rfl⟩)|fail)
         refine wp_region_quiet_grown mixed (by kernel_rfl) ?_
         repeat (go_big_quiet_step ((go_at_call 47;refine Calls.grown_of (fH hge _))))
         refine wpQuiet_nil ?_
         rintro _ ⟨⟨nq2,osq2⟩,rfl⟩
         go_wp2
         go_roundw
         case rel =>
          refine ⟨_,hlt,by go_num,?_,hgw2.trans ⟨nq2,osq2,rfl⟩⟩
          intro j hj
          by_cases e:j=m+1
          ·rw[e];exact hoka.out
          ·exact hall j (by omega)
         case measure=>simp[intOf];omega
    ·have hltz:¬(k:Int)<(t.e.length:Int):=by omega
     have hfin:Hid (am t=0):=rD heH.out (by omega) fun j hj=>hall j (by omega)
     go_wp2
     go_ret
     rw[hfin.out]
     exact ⟨rfl,hgw1.trans hgr⟩
 ·have heb:(aO t.c != 0)=true:=by simpa using he
  have hfin:Hid (am t=aO t.c):=uC he
  clear he
  go_wp2
  go_ret
  rw[hfin.out]
  exact ⟨rfl,hgw1⟩


theorem oP (c:Ctx) (l:List (Int×Int)) (A:Option Addr) (cap:Nat) (w:World) (hc0:c.l=[]) (hok:bw c=true) (hl:l.length≤800) (hri:∀x∈l,al x=true) (hr:Row w A l) :
  Calls O 100 #[H #[V I c.c0,V I c.c1,V I c.c2,V I c.c3],J A l.length cap] w fun e w'=>∃C cp,e= Z (H #[V I (au c l l.length).c0,V I (au c l l.length).c1,V I (au c l l.length).c2,V I (au c l l.length).c3,J C (au c l l.length).l.length cp])∧Row w' C (au c l l.length).l∧(C=none→cp=0)∧(∀a,C=some a→w.heap.size≤a.block)∧Below w.heap.size w w':=by
 have hE:=yC
 have hG:=oS
 have hH:Hid (c.l=[]∧bw c=true∧(∀x∈l,al x=true)):=⟨hc0,hok,hri⟩
 clear hc0 hok hri
 go_enter Tryz.func100,Tryz.ntmps100
 go_wp2
 go_loopw [13] (fun i wr=>∃k:Nat,k≤l.length∧i= V I k∧CB wr (w.heap.size+1+1) (w.heap.size+1+1+1) (au c l k)∧Below (w.heap.size+1+1) ((w.alloc (S #[V I c.c0,V I c.c1,V I c.c2,V I c.c3] 36)).alloc (S #[V I 0,V I 0,V I 0,V I 0,J none 0 0] 39)) wr) (fun i _=>l.length-(intOf i).toNat)
 case atStart =>
  refine ⟨0,nZ _,rfl,?_,(bR _ _).alloc (by simp) _⟩
  have:=CB.start ((w.alloc (S #[V I c.c0,V I c.c1,V I c.c2,V I c.c3] 36)).alloc (S #[V I 0,V I 0,V I 0,V I 0,J none 0 0] 39)) hH.out.1 39
  show CB _ _ _ c
  simpa using this
 case round =>
  obtain ⟨k,hk,rfl,hCB,hbel⟩:=hrel
  have hbw:Hid (Below w.heap.size w wr):=(((bR _ w).alloc (nR _) _).alloc (by simp) _).trans (hbel.mono (by omega))
  have hBlt:=hCB.lt
  by_cases hlt:k<l.length
  ·have hltz:(k:Int)<(l.length:Int):=by omega
   obtain ⟨b,off,rfl,hb,hcs⟩:=(hr.below hbw.out).at hlt
   obtain ⟨x,y,hx⟩:∃x y,l[k]=(x,y):=⟨_,_,rfl⟩
   have e0:=(hcs k hlt).1
   have e1:=(hcs k hlt).2
   rw[hx] at e0 e1
   have hcsH:Hid (∀j (h:j<l.length),_):=hcs
   have hxH:Hid (l[k]=(x,y)):=hx
   have hn:=dO (hH.out.2.2 (x,y) (by rw[←hx];exact gM hlt))
   have hFc:=cz (qr hH.out.2.1 hH.out.2.2 k hk) x hn.1 hn.2.1
   have kc:=hCB.clk hn.1 hn.2.1
   have kf:=hCB.fz x.toNat
   simp only at hn
   clear hcs hx
   by_cases h1:y≤clk (au c l k) x
   ·have hst:Hid (au c l (k+1)=au c l k):=by
     cases k with
     | zero=>show au c l 1=_;rw[gE hlt hxH.out];exact rW h1
     | succ m=>show au c l (m+2)=_;rw[fi hlt hxH.out rfl];exact rW h1
    go_wp2
    go_roundw
    case rel=>exact ⟨k+1,by omega,by go_num,by rw[hst.out];exact hCB.gr ((gR _).alloc _),hbel.alloc (by omega) _⟩
    case measure=>simp[intOf];omega
   ·by_cases h2:y=clk (au c l k) x+1
    ·have hst:Hid (au c l (k+1)=setClk (au c l k) x y):=by
      cases k with
      | zero=>show au c l 1=_;rw[gE hlt hxH.out];exact rV h2
      | succ m=>show au c l (m+2)=_;rw[fi hlt hxH.out rfl];exact rV h2
     have h1b:decide (y≤clk (au c l k) x)=false:=by simpa using h1
     have h2b:(y==clk (au c l k) x+1)=true:=by simpa using h2
     have h2H:Hid (y=clk (au c l k) x+1):=h2
     clear h2 h1
     go_wp2
     go_roundw
     case rel=>exact ⟨k+1,by omega,by go_num,by rw[hst.out];exact (hCB.setClk hn.1 hn.2.1 y).gr ((gR _).alloc _),(hbel.setCell (nR _) _).alloc (by simp only[World.setCell,Array.size_modify];omega) _⟩
     case measure=>simp[intOf];omega
    ·have h1b:decide (y≤clk (au c l k) x)=false:=by simpa using h1
     have h2b:(y==clk (au c l k) x+1)=false:=by simpa using h2
     have h12:Hid (¬y≤clk (au c l k) x∧¬y=clk (au c l k) x+1):=⟨h1,h2⟩
     clear h1 h2
     obtain ⟨v,k4,hov⟩:=hCB.v
     have hovH:Hid (Own wr (w.heap.size+1+1+1) v (au c l k).l):=hov
     have hlen:=iL c l k
     have hbd:Hid (((au c l k).l.length+[(x,y)].length)*16≤140737488355328):=by
      have:=hH.out.1
      rw[this] at hlen
      simp only[List.length_nil,List.length_cons] at hlen ⊢
      show _≤_
      omega
     clear hov hlen
     cases k with
     | zero =>
      have hst:Hid (au c l 1={ au c l 0 with l:=(au c l 0).l++[(x,y)] }):=by
       show au c l 1=_
       rw[gE hlt hxH.out]
       exact pI h12.out.1 h12.out.2 (by simp)
      simp only[Nat.zero_mul,Nat.add_zero] at e0 e1
      go_wp2
      go_quiet (fail)
      go_wp2_with (at_builtin;refine aF _ rfl (.tmp 53) (.tmp 55) rfl (w.heap.size+1+1+1) v (au c l 0).l [(x,y)] (some ⟨wr.heap.size+1,0,none⟩) 1 rfl rfl ?ho ?hr (fun h=>by cases h) hbd.out ?hs ?_)
      case ho=>exact hovH.out.gr ((((gR wr).alloc _).drewN nq).alloc _)
      case hr=>exact gQ (by simp) x y _
      case hs=>simp;omega
      intro v1 w1 hown1 hgr1 _
      obtain ⟨C,cp,rfl,hC,-,-⟩:=hown1.row
      have hgA:Gr wr (((wr.alloc (S #[V I x,V I y] 83)).drewN nq).alloc (S #[V I x,V I y] 83)):=(((gR wr).alloc _).drewN nq).alloc _
      have hb1:Below (w.heap.size+1+1+1) (((wr.alloc (S #[V I x,V I y] 83)).drewN nq).alloc (S #[V I x,V I y] 83)) w1:=Own.grown_below (hovH.out.gr hgA) hgr1 (by simp;omega)
      have hfin:=(hCB.gr hgA).setL hb1 hown1
      have hbel1:Below (w.heap.size+1+1) ((w.alloc (S #[V I c.c0,V I c.c1,V I c.c2,V I c.c3] 36)).alloc (S #[V I 0,V I 0,V I 0,V I 0,J none 0 0] 39)) w1:=(hbel.trans (hgA.below.mono (by omega))).trans (hb1.mono (by omega))
      have c4:w1.cell? ⟨w.heap.size+1+1,4,none⟩=some v:=(hb1.cell (p:=⟨w.heap.size+1+1,4,none⟩) (by simp)).trans ((hgA.cell (p:=⟨w.heap.size+1+1,4,none⟩) hBlt).trans k4)
      have f4:w1.frozen? ⟨w.heap.size+1+1,4,none⟩=false:=(hb1.frozen (p:=⟨w.heap.size+1+1,4,none⟩) (by simp)).trans ((hCB.gr hgA).fz 4)
      have hfinH:Hid (CB _ _ _ _):=hfin
      have hbelH:Hid (Below _ _ _):=hbel1
      clear hfin hbel1 hb1 hgA hgr1 hown1 hbel hCB k4 kc kf e0 e1
      go_wp2
      go_roundw
      case rel=>exact ⟨1,hlt,by go_num,by rw[hst.out];have:=hfinH.out;simp only[List.length_append,List.length_cons,List.length_nil,Nat.zero_add] at this;exact this,hbelH.out.setCell (nR _) _⟩
      case measure=>simp[intOf];omega
     | succ m =>
      obtain ⟨x',y',hx'⟩:∃x' y',l[m]=(x',y'):=⟨_,_,rfl⟩
      have g0:=(hcsH.out m (by omega)).1
      have g1:=(hcsH.out m (by omega)).2
      rw[hx'] at g0 g1
      have hxH':Hid (l[m]=(x',y')):=hx'
      clear hx'
      have hm0:((m:Int)+1==0)=false:=by simp;omega
      cases hq:(x'==x && y'==y)
      ·have hst:Hid (au c l (m+2)={ au c l (m+1) with l:=(au c l (m+1)).l++[(x,y)] }):=by
        show au c l (m+2)=_
        rw[fi hlt hxH.out hxH'.out]
        refine pI h12.out.1 h12.out.2 ?_
        intro h
        injection h with h
        injection h with h1 h2
        subst h1 h2
        simp at hq
       go_wp2
       go_quiet (fail)
       go_wp2_with (at_builtin;refine aF _ rfl (.tmp 53) (.tmp 55) rfl (w.heap.size+1+1+1) v (au c l (m+1)).l [(x,y)] (some ⟨wr.heap.size+1,0,none⟩) 1 rfl rfl ?ho ?hr (fun h=>by cases h) hbd.out ?hs ?_)
       case ho=>exact hovH.out.gr ((((gR wr).alloc _).drewN nq).alloc _)
       case hr=>exact gQ (by simp) x y _
       case hs=>simp;omega
       intro v1 w1 hown1 hgr1 _
       obtain ⟨C,cp,rfl,hC,-,-⟩:=hown1.row
       have hgA:Gr wr (((wr.alloc (S #[V I x,V I y] 83)).drewN nq).alloc (S #[V I x,V I y] 83)):=(((gR wr).alloc _).drewN nq).alloc _
       have hb1:Below (w.heap.size+1+1+1) (((wr.alloc (S #[V I x,V I y] 83)).drewN nq).alloc (S #[V I x,V I y] 83)) w1:=Own.grown_below (hovH.out.gr hgA) hgr1 (by simp;omega)
       have hfin:=(hCB.gr hgA).setL hb1 hown1
       have hbel1:Below (w.heap.size+1+1) ((w.alloc (S #[V I c.c0,V I c.c1,V I c.c2,V I c.c3] 36)).alloc (S #[V I 0,V I 0,V I 0,V I 0,J none 0 0] 39)) w1:=(hbel.trans (hgA.below.mono (by omega))).trans (hb1.mono (by omega))
       have c4:w1.cell? ⟨w.heap.size+1+1,4,none⟩=some v:=(hb1.cell (p:=⟨w.heap.size+1+1,4,none⟩) (by simp)).trans ((hgA.cell (p:=⟨w.heap.size+1+1,4,none⟩) hBlt).trans k4)
       have f4:w1.frozen? ⟨w.heap.size+1+1,4,none⟩=false:=(hb1.frozen (p:=⟨w.heap.size+1+1,4,none⟩) (by simp)).trans ((hCB.gr hgA).fz 4)
       have hfinH:Hid (CB _ _ _ _):=hfin
       have hbelH:Hid (Below _ _ _):=hbel1
       clear hfin hbel1 hb1 hgA hgr1 hown1 hbel hCB k4 kc kf e0 e1
       go_wp2
       go_roundw
       case rel=>exact ⟨m+2,hlt,by go_num,by rw[hst.out];have:=hfinH.out;simp only[List.length_append,List.length_cons,List.length_nil,Nat.zero_add] at this;exact this,hbelH.out.setCell (nR _) _⟩
       case measure=>simp[intOf];omega
      ·have hst:Hid (au c l (m+2)=au c l (m+1)):=by
        show au c l (m+2)=_
        rw[fi hlt hxH.out hxH'.out]
        simp only[Bool.and_eq_true,beq_iff_eq] at hq
        rw[hq.1,hq.2]
        exact vQ h12.out.1 h12.out.2
       go_wp2
       go_quiet (fail)
       go_wp2
       go_roundw
       case rel=>exact ⟨m+2,hlt,by go_num,by rw[hst.out];exact hCB.gr (((gR _).alloc _).drewN nq),(hbel.alloc (by omega) _).trans ((((gR _).drewN nq).below).mono (by simp;omega))⟩
       case measure=>simp[intOf];omega
  ·have hltz:¬(k:Int)<(l.length:Int):=by omega
   obtain rfl:k=l.length:=by omega
   obtain ⟨F,hF⟩:∃F,au c l l.length=F:=⟨_,rfl⟩
   rw[hF] at hCB
   have HF:Hid (au c l l.length=F):=hF
   clear hF
   obtain ⟨v,k0,k1,k2,k3,k4,hov,hf,hBb,hBs⟩:=hCB
   obtain ⟨C,cp,rfl,hC,hrow,hCb⟩:=hov.row
   have r0:=(hbel.cell (p:=⟨w.heap.size+1,0,none⟩) (by simp)).trans (show _=some (V I 0) by go_simp)
   have r1:=(hbel.cell (p:=⟨w.heap.size+1,1,none⟩) (by simp)).trans (show _=some (V I 0) by go_simp)
   have r2:=(hbel.cell (p:=⟨w.heap.size+1,2,none⟩) (by simp)).trans (show _=some (V I 0) by go_simp)
   have r3:=(hbel.cell (p:=⟨w.heap.size+1,3,none⟩) (by simp)).trans (show _=some (V I 0) by go_simp)
   have r4:=(hbel.cell (p:=⟨w.heap.size+1,4,none⟩) (by simp)).trans (show _=some (J none 0 0) by go_simp)
   have rf:∀j,wr.frozen? ⟨w.heap.size+1,j,none⟩=false:=fun j=>(hbel.frozen (p:=⟨w.heap.size+1,j,none⟩) (by simp)).trans (by simp)
   have hovH:Hid (Own _ _ _ _):=hov
   clear hov hf
   have hCn:∀a,C=some a→a.block≠w.heap.size+1:=fun a ha=>by have:=(hCb a ha).1;omega
   go_wp2
   rw[HF.out]
   refine bodyPost_ret (v:= H #[V I F.c0,V I F.c1,V I F.c2,V I F.c3,J C F.l.length cp]) (by simp[results,Tryz.results100,go_sem,r0,r1,r2,r3,r4]) rfl ⟨C,cp,rfl,?_,hC,fun a ha=>by have:=(hCb a ha).1;omega,?_⟩
   ·exact ((((hrow.setCell _ hCn).setCell _ hCn).setCell _ hCn).setCell _ hCn).setCell _ hCn
   ·exact ((((hbw.out.setCell (by simp) _).setCell (by simp) _).setCell (by simp) _).setCell (by simp) _).setCell (by simp) _
end Go.Proofs.YtkefkplnamkicabGreatDoor

namespace Go.Proofs
open Go.Shelf
def Tryz.sortDot_ren:Go.Shelf.Ren:=⟨fun|6=>129|15=>61|14=>153|28=>92|29=>93|20=>183|21=>184|22=>185|23=>186|24=>187|25=>188|26=>189|27=>190|46=>209|47=>123|48=>124|49=>210|50=>211|57=>235|n=>n,fun|22=>37|24=>83|25=>134|3=>3|39=>132|0=>0|53=>167|55=>169|4=>4|46=>159|45=>158|50=>164|5=>5|9=>9|66=>196|70=>190|76=>224|77=>225|n=>n,fun|n=>n⟩
theorem Tryz.sortDot:Go.Proofs.SlLaysF0.n6 O Tryz.sortDot_ren:={
 mixed:=by kernel_rfl
 f6:=⟨Tryz.f129.name,by decide,Tryz.func129.trans (congrArg some (by kernel_rfl))⟩
 f14:=⟨Tryz.f153.name,by decide,Tryz.func153.trans (congrArg some (by kernel_rfl))⟩
 f15:=Tryz.func61.trans (congrArg some (by kernel_rfl))
 f20:=⟨Tryz.f183.name,by decide,Tryz.func183.trans (congrArg some (by kernel_rfl))⟩
 f21:=⟨Tryz.f184.name,by decide,Tryz.func184.trans (congrArg some (by kernel_rfl))⟩
 f22:=⟨Tryz.f185.name,by decide,Tryz.func185.trans (congrArg some (by kernel_rfl))⟩
 f23:=⟨Tryz.f186.name,by decide,Tryz.func186.trans (congrArg some (by kernel_rfl))⟩
 f24:=⟨Tryz.f187.name,by decide,Tryz.func187.trans (congrArg some (by kernel_rfl))⟩
 f25:=⟨Tryz.f188.name,by decide,Tryz.func188.trans (congrArg some (by kernel_rfl))⟩
 f26:=⟨Tryz.f189.name,by decide,Tryz.func189.trans (congrArg some (by kernel_rfl))⟩
 f27:=⟨Tryz.f190.name,by decide,Tryz.func190.trans (congrArg some (by kernel_rfl))⟩
 f28:=Tryz.func92.trans (congrArg some (by kernel_rfl))
 f29:=Tryz.func93.trans (congrArg some (by kernel_rfl))
 f46:=⟨Tryz.f209.name,by decide,Tryz.func209.trans (congrArg some (by kernel_rfl))⟩
 f47:=Tryz.func123.trans (congrArg some (by kernel_rfl))
 f48:=Tryz.func124.trans (congrArg some (by kernel_rfl))
 f49:=⟨Tryz.f210.name,by decide,Tryz.func210.trans (congrArg some (by kernel_rfl))⟩
 f50:=⟨Tryz.f211.name,by decide,Tryz.func211.trans (congrArg some (by kernel_rfl))⟩
 f57:=⟨Tryz.f235.name,by decide,Tryz.func235.trans (congrArg some (by kernel_rfl))⟩
 t0:=Tryz.underlying0
 a0:=Tryz.isAgg0
 z0:=Tryz.sizeOf0
 v0:=Tryz.zeroValue0
 t3:=Tryz.underlying3
 a3:=Tryz.isAgg3
 z3:=Tryz.sizeOf3
 v3:=Tryz.zeroValue3
 t4:=Tryz.underlying4
 a4:=Tryz.isAgg4
 z4:=Tryz.sizeOf4
 v4:=Tryz.zeroValue4
 t5:=Tryz.underlying5
 a5:=Tryz.isAgg5
 z5:=Tryz.sizeOf5
 v5:=Tryz.zeroValue5
 t9:=Tryz.underlying9
 a9:=Tryz.isAgg9
 z9:=Tryz.sizeOf9
 v9:=Tryz.zeroValue9
 t22:=Tryz.underlying37
 a22:=Tryz.isAgg37
 z22:=Tryz.sizeOf37
 v22:=Tryz.zeroValue37
 t25:=Tryz.underlying134
 a25:=Tryz.isAgg134
 z25:=Tryz.sizeOf134
 v25:=Tryz.zeroValue134
 t39:=Tryz.underlying132
 a39:=Tryz.isAgg132
 z39:=Tryz.sizeOf132
 v39:=Tryz.zeroValue132
 t45:=Tryz.underlying158
 a45:=Tryz.isAgg158
 z45:=Tryz.sizeOf158
 v45:=Tryz.zeroValue158
 t46:=Tryz.underlying159
 a46:=Tryz.isAgg159
 z46:=Tryz.sizeOf159
 v46:=Tryz.zeroValue159
 t50:=Tryz.underlying164
 a50:=Tryz.isAgg164
 z50:=Tryz.sizeOf164
 v50:=Tryz.zeroValue164
 t53:=Tryz.underlying167
 a53:=Tryz.isAgg167
 z53:=Tryz.sizeOf167
 v53:=Tryz.zeroValue167
 t55:=Tryz.underlying169
 a55:=Tryz.isAgg169
 z55:=Tryz.sizeOf169
 v55:=Tryz.zeroValue169
 t66:=Tryz.underlying196
 a66:=Tryz.isAgg196
 z66:=Tryz.sizeOf196
 v66:=Tryz.zeroValue196
 t70:=Tryz.underlying190
 a70:=Tryz.isAgg190
 z70:=Tryz.sizeOf190
 v70:=Tryz.zeroValue190
 t76:=Tryz.underlying224
 a76:=Tryz.isAgg224
 z76:=Tryz.sizeOf224
 v76:=Tryz.zeroValue224
 t77:=Tryz.underlying225
 a77:=Tryz.isAgg225
 z77:=Tryz.sizeOf225
 v77:=Tryz.zeroValue225 }
end Go.Proofs
