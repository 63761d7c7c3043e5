import Derived.Test.YtjmmpnmgpgaagaaGreatDoorM01
set_option maxRecDepth 100000
set_option maxHeartbeats 8000000
open Go renaming World → H, Calls → U, Addr → Q
open Go.Ending renaming returned → Z
open Go.IntKind renaming i64 → I
open Go.Obj renaming cells → S
open Go.Proofs.Tryz renaming prog → O
open Go.RowKit renaming Hid → J, Below → P
open Go.Value renaming int → V, slice → Y, agg → K, bool → N
namespace Go.Proofs.YtjmmpnmgpgaagaaGreatDoor
open Go.RowKit Go.Sort

theorem eR (n:Int) (w:H) :
  U O 153 #[V I n] w fun e w'=>e= Z (N (inB n 0 49))/\w'=w:=by
 by_cases f:0<=n
 ·by_cases g:n<50
  ·have e:inB n 0 49=true:=by simp[inB];omega
   rw[e];clear e
   go_enter Tryz.func153,Tryz.ntmps153
   go_wp2
   go_ret
   exact ⟨rfl,rfl⟩
  ·have e:inB n 0 49=false:=by simp[inB];omega
   rw[e];clear e
   go_enter Tryz.func153,Tryz.ntmps153
   go_wp2
   go_ret
   exact ⟨rfl,rfl⟩
 ·have e:inB n 0 49=false:=by simp[inB];omega
  rw[e];clear e
  go_enter Tryz.func153,Tryz.ntmps153
  go_wp2
  go_ret
  exact ⟨rfl,rfl⟩

theorem tW (k c v:Int) (w:H) :
  U O 119 #[V I k,V I c,V I v] w fun e w'=>e= Z (N (aX k c v))/\w'=w:=by
 cases f:inB k 0 49
 ·have e:aX k c v=false:=by simp[aX,f]
  rw[e];clear e
  go_enter Tryz.func119,Tryz.ntmps119
  go_wp2_with (go_at_call 153;refine (eR _ _).mono ?_;rintro e w' ⟨rfl,rfl⟩;rw[f])
  go_ret
  exact ⟨rfl,rfl⟩
 ·by_cases g:0<=c
  ·by_cases j:c<3
   ·by_cases r: -1000<=v
    ·by_cases C:v<=1000
     ·have e:aX k c v=true:=by unfold aX;rw[f];simp[inB];omega
      rw[e];clear e
      go_enter Tryz.func119,Tryz.ntmps119
      go_wp2_with (go_at_call 153;refine (eR _ _).mono ?_;rintro e w' ⟨rfl,rfl⟩;rw[f])
      go_ret
      exact ⟨rfl,rfl⟩
     ·have e:aX k c v=false:=by unfold aX;rw[f];simp[inB];omega
      rw[e];clear e
      have E:decide (v<=1000)=false:=by simpa using C
      go_enter Tryz.func119,Tryz.ntmps119
      go_wp2_with (go_at_call 153;refine (eR _ _).mono ?_;rintro e w' ⟨rfl,rfl⟩;rw[f])
      go_ret
      exact ⟨rfl,rfl⟩
    ·have e:aX k c v=false:=by unfold aX;rw[f];simp[inB];omega
     rw[e];clear e
     have u:decide (-1000<=v)=false:=by simpa using r
     go_enter Tryz.func119,Tryz.ntmps119
     go_wp2_with (go_at_call 153;refine (eR _ _).mono ?_;rintro e w' ⟨rfl,rfl⟩;rw[f])
     go_ret
     exact ⟨rfl,rfl⟩
   ·have e:aX k c v=false:=by unfold aX;rw[f];simp[inB];omega
    rw[e];clear e
    have n:decide (c<3)=false:=by simpa using j
    go_enter Tryz.func119,Tryz.ntmps119
    go_wp2_with (go_at_call 153;refine (eR _ _).mono ?_;rintro e w' ⟨rfl,rfl⟩;rw[f])
    go_ret
    exact ⟨rfl,rfl⟩
  ·have e:aX k c v=false:=by unfold aX;rw[f];simp[inB];omega
   rw[e];clear e
   have h:decide (0<=c)=false:=by simpa using g
   go_enter Tryz.func119,Tryz.ntmps119
   go_wp2_with (go_at_call 153;refine (eR _ _).mono ?_;rintro e w' ⟨rfl,rfl⟩;rw[f])
   go_ret
   exact ⟨rfl,rfl⟩

theorem nP (x y:Cel) (w:H) :
  U O 120 #[K #[V I x.1.1,V I x.1.2,V I x.2.1,V I x.2.2.1,V I x.2.2.2],K #[V I y.1.1,V I y.1.2,V I y.2.1,V I y.2.2.1,V I y.2.2.2]] w fun e w'=>e= Z (V I (eA x.1 y.1))/\Gr w w':=by
 go_enter Tryz.func120,Tryz.ntmps120
 go_wp2_with fail
 refine (lE x.1 y.1 _).mono ?_
 rintro e w' ⟨rfl,f⟩
 go_wp2
 go_ret
 exact ⟨rfl,(((gR w).alloc _).alloc _).trans f⟩

theorem gF {x y:Cel} {r:Int} (h:eA x.1 y.1=r) (w:H):U O 120 #[K #[V I x.1.1,V I x.1.2,V I x.2.1,V I x.2.2.1,V I x.2.2.2],K #[V I y.1.1,V I y.1.2,V I y.2.1,V I y.2.2.1,V I y.2.2.2]] w fun e w'=>e= Z (V I r)/\∃q f,w'=grow (w.drewN q) f:=by
 rw[<-h];exact nP x y w
theorem gq {k c v:Int} {r:Bool} (h:aX k c v=r) (w:H) :
  U O 119 #[V I k,V I c,V I v] w fun e w'=>e= Z (N r)/\w'=w:=by
 rw[<-h];exact tW k c v w
theorem vw {n:Int} {r:Bool} (h:inB n 0 49=r) (w:H) :
  U O 153 #[V I n] w fun e w'=>e= Z (N r)/\w'=w:=by
 rw[<-h];exact eR n w


theorem tI {w W:H} {x y:Int} {T:TypeId} (h:Gr (w.alloc (S #[V I x,V I y] T)) W):(∀n f,(grow (W.drewN n) f).cell? ⟨w.heap.size,0,none⟩=some (V I x))/\(∀n f,(grow (W.drewN n) f).cell? ⟨w.heap.size,1,none⟩=some (V I y)) :=
 ⟨fN h rfl,fN h rfl⟩

theorem fs (c:Ctx) (A:Option Q) (cap:Nat) (w:H) (hl:c.l.length<=maxLen) (hr:Row w A c.l) :
  U O 117 #[K (ja7 c A cap)] w fun e w'=>e= Z (V I (aN c))/\Gr w w':=by
 unfold maxLen at hl
 have C:Tryz.prog.follows .mixedOrders=true:=by kernel_rfl
 have i0:∀w,(Instr.index 50 (K #[V I c.c0,V I c.c1,V I c.c2,V I c.c3]) (V I 0)).run O w= .ok (V I (clk c 0)) w:=fun _=>by kernel_rfl
 have i1:∀w,(Instr.index 50 (K #[V I c.c0,V I c.c1,V I c.c2,V I c.c3]) (V I 1)).run O w= .ok (V I (clk c 1)) w:=fun _=>by kernel_rfl
 have i2:∀w,(Instr.index 50 (K #[V I c.c0,V I c.c1,V I c.c2,V I c.c3]) (V I 2)).run O w= .ok (V I (clk c 2)) w:=fun _=>by kernel_rfl
 have i3:∀w,(Instr.index 50 (K #[V I c.c0,V I c.c1,V I c.c2,V I c.c3]) (V I 3)).run O w= .ok (V I (clk c 3)) w:=fun _=>by kernel_rfl
 go_enter Tryz.func117,Tryz.ntmps117
 go_wp2
 go_loopw [9] (fun i wr=>∃k:Nat,k<=4/\i= V I k/\J (∀a:Int,0<=a->a<k->inB (clk c a) 0 1099511627776=true)/\Gr (w.alloc (S (ja7 c A cap) 53)) wr) (fun i _=>4-(intOf i).toNat)
 case atStart=>exact ⟨0,by omega,rfl,fun a h0 h1=>by omega,gR _⟩
 case round =>
  obtain ⟨k,hk,rfl,a8,u⟩:=hrel
  by_cases n:k<4
  ·have an:(k:Int)<4:=by omega
   have ik:∀w,(Instr.index 50 (K #[V I c.c0,V I c.c1,V I c.c2,V I c.c3]) (V I k)).run O w= .ok (V I (clk c k)) w:=by
    have h4:k=0\/k=1\/k=2\/k=3:=by omega
    rcases h4 with rfl|rfl|rfl|rfl
    ·exact i0
    ·exact i1
    ·exact i2
    ·exact i3
   clear i0 i1 i2 i3
   have bh:clk c (k:Int)<0\/1099511627776<clk c (k:Int)\/(¬clk c (k:Int)<0/\¬ 1099511627776<clk c (k:Int)):=by omega
   rcases bh with h1|h1|⟨h1,h2⟩
   ·have g:J (aN c=1):=rK (by omega) an (by simp[inB];omega)
    go_wp2
    go_ret
    rw[g.out]
    exact ⟨rfl,cC u⟩
   ·have g:J (aN c=1):=rK (by omega) an (by simp[inB];omega)
    have bn:¬clk c (k:Int)<0:=by omega
    go_wp2
    go_ret
    rw[g.out]
    exact ⟨rfl,cC u⟩
   ·have hi:J (inB (clk c (k:Int)) 0 1099511627776=true):=by show inB _ _ _=true;simp[inB];omega
    go_wp2
    go_roundw
    case rel =>
     refine ⟨k+1,by omega,by go_num,?_,u⟩
     intro a h0 h1
     by_cases e:a=(k:Int)
     ·rw[e];exact hi
     ·exact a8 a h0 (by omega)
    case measure=>simp[intOf];omega
  ·clear i0 i1 i2 i3
   obtain rfl:k=4:=by omega
   have k4:=aa u (j:=4) rfl
   have a9:bv c=true:=nN fun a h0 h4=>a8 a h0 (by omega)
   by_cases bc:400<c.l.length
   ·have a7:(400:Int)<(c.l.length:Int):=by omega
    have g:=ja1 (tK a9 bc)
    go_wp2
    go_ret
    rw[g.out]
    exact ⟨rfl,cC u⟩
   ·have a7:¬(400:Int)<(c.l.length:Int):=by omega
    have L:=ja1 a9
    clear a9
    go_wp2
    clear k4 a8
    go_loopw [26] (fun i wr=>∃k:Nat,k<=c.l.length/\i= V I k/\J (∀j,j<k->jD c j=true)/\Gr (w.alloc (S (ja7 c A cap) 53)) wr) (fun i _=>c.l.length-(intOf i).toNat)
    case atStart=>exact ⟨0,by omega,rfl,fun j h=>by omega,u⟩
    case round =>
     clear u
     rename H=>f
     obtain ⟨k,hk,rfl,ao,u⟩:=hrel
     by_cases n:k<c.l.length
     ·have an:(k:Int)<(c.l.length:Int):=by omega
      obtain ⟨b,bl,rfl,hb,a4⟩:=(hr.gr (cC u)).at n
      obtain ⟨x,y,hx⟩:∃x y,c.l[k]=(x,y):=⟨_,_,rfl⟩
      have e0:=(a4 k n).1
      have e1:=(a4 k n).2
      rw[hx] at e0 e1
      have a5:=ja1 a4
      have ah:=ja1 hx
      clear a4 hx
      cases E:am (x,y)
      ·have g:J (aN c=5):=by
        refine li L.out (by omega) n ?_
        cases k with
        | zero=>rw[fw n ah.out,E];rfl
        | succ m=>rw[ee n ah.out rfl,E];rfl
       go_wp2
       have d0:=fN (gR (f.alloc (S #[V I x,V I y] 185))) (j:=0) rfl
       have d1:=fN (gR (f.alloc (S #[V I x,V I y] 185))) (j:=1) rfl
       have r:=(u.alloc (S #[V I x,V I y] 185))
       have rG:=((gR f).alloc (S #[V I x,V I y] 185))
       have dG:=fun X (hX:Gr (f.alloc (S #[V I x,V I y] 185)) X)=>tI hX
       have g4:=fN r (j:=4) rfl
       have a1:f.heap.size<(f.alloc (S #[V I x,V I y] 185)).heap.size:=by simp
       generalize f.alloc (S #[V I x,V I y] 185)=W at d0 d1 r rG dG g4 a1 ⊢
       refine wp_region_quiet_grown C (by kernel_rfl) ?_
       repeat (go_big_quiet_step ((go_at_call 149;refine Calls.grown_of (iM E _))))
       refine wpQuiet_nil ?_
       rintro _ ⟨⟨nq,R⟩,rfl⟩
       go_wp2
       go_ret
       rw[g.out]
       exact ⟨rfl,(cC r).trans ⟨nq,R,rfl⟩⟩
      ·have hn:=ef E
       have bo:=cE L.out x hn.1 hn.2.1
       by_cases hs:y<=clk c x+1
       ·have g:J (aN c=5):=by
         refine li L.out (by omega) n ?_
         cases k with
         | zero=>rw[fw n ah.out,E];simp;omega
         | succ m=>rw[ee n ah.out rfl,E];simp;omega
        go_wp2
        have d0:=fN (gR (f.alloc (S #[V I x,V I y] 185))) (j:=0) rfl
        have d1:=fN (gR (f.alloc (S #[V I x,V I y] 185))) (j:=1) rfl
        have r:=(u.alloc (S #[V I x,V I y] 185))
        have rG:=((gR f).alloc (S #[V I x,V I y] 185))
        have dG:=fun X (hX:Gr (f.alloc (S #[V I x,V I y] 185)) X)=>tI hX
        have g4:=fN r (j:=4) rfl
        have gc:=fN r (jh (c:=c) hn.1 hn.2.1)
        have a1:f.heap.size<(f.alloc (S #[V I x,V I y] 185)).heap.size:=by simp
        generalize f.alloc (S #[V I x,V I y] 185)=W at d0 d1 r rG dG g4 gc a1 ⊢
        refine wp_region_quiet_grown C (by kernel_rfl) ?_
        repeat (go_big_quiet_step ((go_at_call 149;refine Calls.grown_of (iM E _))))
        refine wpQuiet_nil ?_
        rintro _ ⟨⟨nq,R⟩,rfl⟩
        go_wp2
        go_ret
        rw[g.out]
        exact ⟨rfl,(cC r).trans ⟨nq,R,rfl⟩⟩
       ·have bp:decide (y<=clk c x+1)=false:=by simpa using hs
        go_wp2
        have d0:=fN (gR (f.alloc (S #[V I x,V I y] 185))) (j:=0) rfl
        have d1:=fN (gR (f.alloc (S #[V I x,V I y] 185))) (j:=1) rfl
        have r:=(u.alloc (S #[V I x,V I y] 185))
        have rG:=((gR f).alloc (S #[V I x,V I y] 185))
        have dG:=fun X (hX:Gr (f.alloc (S #[V I x,V I y] 185)) X)=>tI hX
        have g4:=fN r (j:=4) rfl
        have gc:=fN r (jh (c:=c) hn.1 hn.2.1)
        have a1:f.heap.size<(f.alloc (S #[V I x,V I y] 185)).heap.size:=by simp
        generalize f.alloc (S #[V I x,V I y] 185)=W at d0 d1 r rG dG g4 gc a1 ⊢
        refine wp_region_quiet_grown C (by kernel_rfl) ?_
        repeat (go_big_quiet_step ((go_at_call 149;refine Calls.grown_of (iM E _))))
        refine wpQuiet_nil ?_
        rintro _ ⟨⟨nq,R⟩,rfl⟩
        have ap:Gr W (grow (W.drewN nq) R):=⟨nq,R,rfl⟩
        have bd:=dG _ ap
        have bb:=fN (r.trans ap) (j:=4) rfl
        have F:=r.trans ap
        clear d0 d1 g4 gc
        cases k with
        | zero =>
         have a0:J (jD c 0=true):=by
          show jD c 0=true
          rw[fw n ah.out,E];simp;omega
         obtain ⟨b0,b1⟩:=bd
         generalize grow (W.drewN nq) R=W2 at b0 b1 bb F ⊢
         go_wp2
         refine wp_region_quiet_grown C (by kernel_rfl) ?_
         repeat (go_big_quiet_step (fail))
         refine wpQuiet_nil ?_
         rintro _ ⟨⟨a2,ad⟩,rfl⟩
         go_wp2
         go_roundw
         case rel =>
          refine ⟨_,n,by go_num,?_,F.trans ⟨a2,ad,rfl⟩⟩
          intro j hj
          by_cases e:j=0
          ·rw[e];exact a0.out
          ·exact ao j (by omega)
         case measure=>simp[intOf];omega
        | succ m =>
         obtain ⟨x',y',ba⟩:∃x' y',c.l[m]=(x',y'):=⟨_,_,rfl⟩
         have f0:=(a5.out m (by omega)).1
         have f1:=(a5.out m (by omega)).2
         rw[ba] at f0 f1
         have a6:=ja1 ba
         clear ba
         have g0:=(rG.trans ap).cellG (a:=⟨b,bl+m*2,none⟩) hb f0
         have g1:=(rG.trans ap).cellG (a:=⟨b,bl+m*2+1,none⟩) hb f1
         obtain ⟨b0,b1⟩:=bd
         clear f0 f1
         generalize grow (W.drewN nq) R=W2 at b0 b1 bb F g0 g1 ⊢
         cases a3:br (x',y') (x,y)
         ·have g:J (aN c=5):=li L.out (by omega) n (by rw[ee n ah.out a6.out,E,a3];rfl)
          have be:=iU a3
          go_wp2
          refine wp_region_quiet_grown C (by kernel_rfl) ?_
          repeat (go_big_quiet_step ((go_at_call 150;refine Calls.grown_of (vH rfl _))))
          refine wpQuiet_nil ?_
          rintro _ ⟨⟨a2,ad⟩,rfl⟩
          go_wp2
          go_ret
          rw[g.out]
          exact ⟨rfl,(cC F).trans ⟨a2,ad,rfl⟩⟩
         ·have be:=iT a3
          have a0:J (jD c (m+1)=true):=by
           show jD c (m+1)=true
           rw[ee n ah.out a6.out,E,a3];simp;omega
          go_wp2
          refine wp_region_quiet_grown C (by kernel_rfl) ?_
          repeat (go_big_quiet_step ((go_at_call 150;refine Calls.grown_of (vH be _))))
          refine wpQuiet_nil ?_
          rintro _ ⟨⟨a2,ad⟩,rfl⟩
          go_wp2
          go_roundw
          case rel =>
           refine ⟨_,n,by go_num,?_,F.trans ⟨a2,ad,rfl⟩⟩
           intro j hj
           by_cases e:j=m+1
           ·rw[e];exact a0.out
           ·exact ao j (by omega)
          case measure=>simp[intOf];omega
     ·have an:¬(k:Int)<(c.l.length:Int):=by omega
      have g:J (aN c=0):=vm L.out (by omega) fun j hj=>ao j (by omega)
      go_wp2
      go_ret
      rw[g.out]
      exact ⟨rfl,cC u⟩


theorem xj (l:List (Int×Int)) (A:Option Q) (cap:Nat) (x:Int×Int) (w:H) (hl:l.length<=maxLen) (hr:Row w A l) :
  U O 179 #[Y A l.length cap,K #[V I x.1,V I x.2]] w fun e w'=>∃r:Int,e= Z (V I r)/\J (decide (0<=r)=nA l x)/\Gr w w':=by
 obtain ⟨a,b⟩:=x
 unfold maxLen at hl
 have hE:=DR
 have hG:=rW
 go_enter Tryz.func179,Tryz.ntmps179
 go_wp2
 go_loopw [8] (fun i wr=>∃k:Nat,k<=l.length/\i= V I k/\J (∀j (h:j<l.length),j<k->l[j]≠(a,b))/\Gr (w.alloc (S #[V I a,V I b] 185)) wr) (fun i _=>l.length-(intOf i).toNat)
 case atStart=>exact ⟨0,nZ _,rfl,fun j _ C=>absurd C (Nat.not_lt_zero _),gR _⟩
 case round =>
  obtain ⟨k,hk,rfl,F,f⟩:=hrel
  have d0:=aa f (j:=0) rfl
  have d1:=aa f (j:=1) rfl
  by_cases n:k<l.length
  ·have E:(k:Int)<(l.length:Int):=by omega
   obtain ⟨bb,ah,rfl,hb,u⟩:=(hr.gr (cC f)).at n
   have e0:=(u k n).1
   have e1:=(u k n).2
   clear u
   cases L:(a==(l[k]).1 && b==(l[k]).2)
   ·have R:J (l[k]≠(a,b)):=by
     intro h
     rw[h] at L
     simp at L
    go_wp2
    go_quiet (fail)
    go_wp2
    go_roundw
    case rel =>
     refine ⟨k+1,by omega,by go_num,?_,f.trans ⟨nq,#[],by rw[grow_empty]⟩⟩
     intro j C ad
     by_cases e:j=k
     ·subst e;exact R
     ·exact F j C (by omega)
    case measure=>simp[intOf];omega
   ·have g:J (decide ((0:Int)<=(k:Int))=nA l (a,b)):=by
     have:(a,b)∈l:=by
      have h:l[k]=(a,b):=by
       simp only[Bool.and_eq_true,beq_iff_eq] at L
       exact Prod.ext L.1.symm L.2.symm
      rw[<-h];exact gM n
     show decide _=_
     simp[nA,this]
    go_wp2
    go_quiet (fail)
    go_wp2
    go_ret
    exact ⟨_,rfl,g,(cC f).trans ⟨nq,#[],by rw[grow_empty]⟩⟩
  ·have E:¬(k:Int)<(l.length:Int):=by omega
   have g:J (decide ((0:Int)<= -1)=nA l (a,b)):=by
    have:(a,b) ∉ l:=by
     intro h
     obtain ⟨j,C,e⟩:=List.getElem_of_mem h
     exact F j C (by omega) e
    show decide _=_
    simp[nA,this]
   go_wp2
   go_ret
   exact ⟨_,rfl,g,cC f⟩

theorem gQ (l:List (Int×Int)) (A:Option Q) (cap:Nat) (x:Int×Int) (w:H) (h:l.length<=maxLen) (j:Row w A l) :
  U O 152 #[Y A l.length cap,K #[V I x.1,V I x.2]] w fun e w'=>e= Z (N (nA l x))/\Gr w w':=by
 go_enter Tryz.func152,Tryz.ntmps152
 go_wp2_with fail
 refine (xj l A cap x _ h (j.gr ((gR _).alloc _))).mono ?_
 rintro e w' ⟨r,rfl,f,g⟩
 go_wp2
 go_ret
 exact ⟨by rw[<-f.out];rfl,cC g⟩


theorem zE {c:Ctx} {a b:Int} (f:inB a 0 3=true) (g:1<=b) (h:b<=clk c a):ai c (a,b)=true:=by simp[ai,f,g,h]
theorem np {c:Ctx} {x:Int×Int} (h:¬(inB x.1 0 3=true/\1<=x.2/\x.2<=clk c x.1)):ai c x=nA c.l x:=by
 unfold ai nA
 cases j:inB x.1 0 3
 ·simp
 ·by_cases f:1<=x.2
  ·have g:¬x.2<=clk c x.1:=fun g=>h ⟨j,f,g⟩
   simp[f,g]
  ·simp[f]

theorem kE (c:Ctx) (A:Option Q) (cap:Nat) (x:Int×Int) (w:H) (L:c.l.length<=maxLen) (hr:Row w A c.l) :
  U O 118 #[K (ja7 c A cap),K #[V I x.1,V I x.2]] w fun e w'=>e= Z (N (ai c x))/\Gr w w':=by
 obtain ⟨a,b⟩:=x
 have h:=((gR ((w.alloc (S (ja7 c A cap) 53)).alloc (S #[V I a,V I b] 185))))
 have E:=aa (j9 h) (j:=4) rfl
 have u:=l9 h (j:=0) rfl
 have d1:=l9 h (j:=1) rfl
 have g:=hr.gr (cC (cC h))
 have k:=cC (cC h)
 go_enter Tryz.func118,Tryz.ntmps118
 cases n:inB a 0 3
 ·have f:J (ai c (a,b)=nA c.l (a,b)):=np (by simp[n])
  go_wp2
  generalize (w.alloc (S (ja7 c A cap) 53)).alloc (S #[V I a,V I b] 185)=W at E u d1 g k ⊢
  clear h
  go_quiet ((go_at_call 151;exact Calls.quiet_of_same (gt n _)))
  go_wp2_with fail
  refine (gQ c.l A cap (a,b) _ L (g.gr ⟨nq,#[],by rw[grow_empty]⟩)).mono ?_
  rintro e w' ⟨rfl,r⟩
  go_wp2
  go_ret
  rw[f.out]
  exact ⟨rfl,(k.trans ⟨nq,#[],by rw[grow_empty]⟩).trans r⟩
 ·have hn:0<=a/\a<4:=by simp[inB] at n;omega
  have R:=aa (j9 h) (jh (c:=c) hn.1 hn.2)
  by_cases C:1<=b
  ·by_cases F:b<=clk c a
   ·have f:=ja1 (zE n C F)
    go_wp2
    generalize (w.alloc (S (ja7 c A cap) 53)).alloc (S #[V I a,V I b] 185)=W at E u d1 g k R ⊢
    clear h
    go_quiet ((go_at_call 151;exact Calls.quiet_of_same (gt n _)))
    go_wp2
    go_ret
    rw[f.out]
    exact ⟨rfl,(k.trans ⟨nq,#[],by rw[grow_empty]⟩)⟩
   ·have f:J (ai c (a,b)=nA c.l (a,b)):=np (by simp[F])
    have ah:decide (b<=clk c a)=false:=by simpa using F
    go_wp2
    generalize (w.alloc (S (ja7 c A cap) 53)).alloc (S #[V I a,V I b] 185)=W at E u d1 g k R ⊢
    clear h
    go_quiet ((go_at_call 151;exact Calls.quiet_of_same (gt n _)))
    go_wp2_with fail
    refine (gQ c.l A cap (a,b) _ L (g.gr ⟨nq,#[],by rw[grow_empty]⟩)).mono ?_
    rintro e w' ⟨rfl,r⟩
    go_wp2
    go_ret
    rw[f.out]
    exact ⟨rfl,(k.trans ⟨nq,#[],by rw[grow_empty]⟩).trans r⟩
  ·have f:J (ai c (a,b)=nA c.l (a,b)):=np (by simp[C])
   have ad:decide (1<=b)=false:=by simpa using C
   clear C
   go_wp2
   generalize (w.alloc (S (ja7 c A cap) 53)).alloc (S #[V I a,V I b] 185)=W at E u d1 g k R ⊢
   clear h
   go_quiet ((go_at_call 151;exact Calls.quiet_of_same (gt n _)))
   go_wp2_with fail
   refine (gQ c.l A cap (a,b) _ L (g.gr ⟨nq,#[],by rw[grow_empty]⟩)).mono ?_
   rintro e w' ⟨rfl,r⟩
   go_wp2
   go_ret
   rw[f.out]
   exact ⟨rfl,(k.trans ⟨nq,#[],by rw[grow_empty]⟩).trans r⟩


theorem eM (t:Tab) (A:Option Q) (ca:Nat) (D:Option Q) (cd:Nat) (w:H) (hl:t.c.l.length<=maxLen) (b5:t.e.length<=maxLen) (hr:Row w A t.c.l) (hd:bF w D t.e) :
  U O 85 #[K (T6 t A ca D cd).toArray] w fun e w'=>e= Z (V I (aw t))/\Gr w w':=by
 have R:Tryz.prog.follows .mixedOrders=true:=by kernel_rfl
 have bp:Gr w (w.alloc (S #[V I t.c.c0,V I t.c.c1,V I t.c.c2,V I t.c.c3,Y A t.c.l.length ca,Y D t.e.length cd] 56)):=(gR w).alloc _
 have bd:TabAt (w.alloc (S #[V I t.c.c0,V I t.c.c1,V I t.c.c2,V I t.c.c3,Y A t.c.l.length ca,Y D t.e.length cd] 56)) w.heap.size t A ca D cd:=TabAt.new 56 hr hd rfl
 have bn:=fs t.c A ca (w.alloc (S #[V I t.c.c0,V I t.c.c1,V I t.c.c2,V I t.c.c3,Y A t.c.l.length ca,Y D t.e.length cd] 56)) hl bd.row
 have a5:J _:=bn
 have b6:=ja1 hl
 clear bn hl
 unfold maxLen at b5
 go_enter Tryz.func85,Tryz.ntmps85
 go_wp2_with fail
 refine ja0 a5 ?_
 rintro e w1 ⟨rfl,ba⟩
 clear a5
 have bC:=bd.gr ba
 have r:Gr w w1:=bp.trans ba
 clear bd bp ba
 by_cases he:aN t.c=0
 ·have b4:(aN t.c != 0)=false:=by simpa using he
  have an:=ja1 he
  clear he
  obtain ⟨k0,k1,k2,k3,k4,k5,b9,b3,be⟩:=(show TabAt _ _ _ _ _ _ _ from bC)
  by_cases bl:400<t.e.length
  ·have a8:(400:Int)<(t.e.length:Int):=by omega
   have f:=ja1 (tN an.out bl)
   go_wp2
   go_ret
   rw[f.out]
   exact ⟨rfl,r⟩
  ·have a8:¬(400:Int)<(t.e.length:Int):=by omega
   go_wp2
   clear k0 k1 k2 k3 k4 k5 b3 be
   go_loopw [19] (fun i wr=>∃k:Nat,k<=t.e.length/\i= V I k/\J (∀j,j<k->eG t j=true)/\Gr w1 wr) (fun i _=>t.e.length-(intOf i).toNat)
   case atStart=>exact ⟨0,by omega,rfl,fun j h=>by omega,gR _⟩
   case round =>
    rename H=>n
    obtain ⟨k,hk,rfl,ah,bc⟩:=hrel
    by_cases g:k<t.e.length
    ·have bt:(k:Int)<(t.e.length:Int):=by omega
     have bN:=bC.gr bc
     obtain ⟨b,a2,rfl,hb,a9⟩:=bF.get bN.rowC g
     obtain ⟨x,hx⟩:∃x,t.e[k]=x:=⟨_,rfl⟩
     obtain ⟨e0,e1,e2,e3,e4⟩:=a9 k g
     rw[hx] at e0 e1 e2 e3 e4
     have bo:=ja1 a9
     have L:=ja1 hx
     clear a9 hx
     have bb:Gr n (n.alloc (S #[V I x.1.1,V I x.1.2,V I x.2.1,V I x.2.2.1,V I x.2.2.2] 187)):=(gR _).alloc _
     have b1:=CelAt.new (w:=n) x 187 rfl
     have b0:=bN.gr bb
     obtain ⟨t0,t1,t2,t3,t4,t5,b8,a7,bh⟩:=(show TabAt _ _ _ _ _ _ _ from b0)
     obtain ⟨x0,x1,x2,x3,x4,ad⟩:=(show CelAt _ _ _ from b1)
     have a6:=kE t.c A ca x.1 (n.alloc (S #[V I x.1.1,V I x.1.2,V I x.2.1,V I x.2.2.1,V I x.2.2.2] 187)) b6.out a7
     have ao:J _:=a6
     clear a6
     go_wp2_with fail
     refine ja0 ao ?_
     rintro e w2 ⟨rfl,a4⟩
     clear ao t0 t1 t2 t3 t4 t5 x0 x1 x2 x3 x4 ad b8 a7 bh
     have E:Gr w1 w2:=(bc.trans bb).trans a4
     have b7:=b1.gr a4
     have bG:=b0.gr a4
     obtain ⟨x0,x1,x2,x3,x4,ad⟩:=(show CelAt _ _ _ from b7)
     cases ap:ai t.c x.1
     ·have f:J (aw t=5):=by
       refine lm an.out (by omega) g ?_
       cases k with
       | zero=>rw[ie g L.out,ap];rfl
       | succ m=>rw[eT g L.out rfl,ap];rfl
      go_wp2
      go_ret
      rw[f.out]
      exact ⟨rfl,r.trans E⟩
     ·cases u:aX x.2.1 x.2.2.1 x.2.2.2
      ·have f:J (aw t=5):=by
        refine lm an.out (by omega) g ?_
        cases k with
        | zero=>rw[ie g L.out,u];simp
        | succ m=>rw[eT g L.out rfl,u];simp
       go_wp2_with (go_at_call 119;refine (gq u _).mono ?_;rintro e w' ⟨rfl,rfl⟩)
       go_ret
       rw[f.out]
       exact ⟨rfl,r.trans E⟩
      ·cases k with
       | zero =>
        have a0:J (eG t 0=true):=by
         show eG t 0=true
         rw[ie g L.out,ap,u];rfl
        go_wp2_with (first|(go_at_call 119;refine (gq u _).mono ?_;rintro e w2 ⟨rfl,rfl⟩)|fail)
        refine wp_region_quiet_grown R (by kernel_rfl) ?_
        repeat (go_big_quiet_step (fail))
        refine wpQuiet_nil ?_
        rintro _ ⟨⟨a1,F⟩,rfl⟩
        go_wp2
        go_roundw
        case rel =>
         refine ⟨_,g,by go_num,?_,E.trans ⟨a1,F,rfl⟩⟩
         intro j hj
         by_cases e:j=0
         ·rw[e];exact a0.out
         ·exact ah j (by omega)
        case measure=>simp[intOf];omega
       | succ m =>
        obtain ⟨y,hy⟩:∃y,t.e[m]=y:=⟨_,rfl⟩
        obtain ⟨f0,f1,f2,f3,f4⟩:=bo.out m (by omega)
        rw[hy] at f0 f1 f2 f3 f4
        have b2:=ja1 hy
        clear hy
        have C:Gr n w2:=bb.trans a4
        have q0:=C.cellG (a:=⟨b,a2+m*5,none⟩) hb f0
        have q1:=C.cellG (a:=⟨b,a2+m*5+1,none⟩) hb f1
        have q2:=C.cellG (a:=⟨b,a2+m*5+2,none⟩) hb f2
        have q3:=C.cellG (a:=⟨b,a2+m*5+3,none⟩) hb f3
        have q4:=C.cellG (a:=⟨b,a2+m*5+4,none⟩) hb f4
        have p5:=(gR w2).cellG (a:=⟨w.heap.size,5,none⟩) bG.lt bG.k5
        have p0:=(gR w2).cellG (a:=⟨n.heap.size,0,none⟩) ad x0
        have p1:=(gR w2).cellG (a:=⟨n.heap.size,1,none⟩) ad x1
        have p2:=(gR w2).cellG (a:=⟨n.heap.size,2,none⟩) ad x2
        have p3:=(gR w2).cellG (a:=⟨n.heap.size,3,none⟩) ad x3
        have p4:=(gR w2).cellG (a:=⟨n.heap.size,4,none⟩) ad x4
        clear f0 f1 f2 f3 f4
        cases a3:br y.1 x.1
        ·have f:J (aw t=5):=lm an.out (by omega) g (by rw[eT g L.out b2.out,ap,u,a3];rfl)
         have bs:=iU a3
         go_wp2_with (first|(go_at_call 119;refine (gq u _).mono ?_;rintro e w2 ⟨rfl,rfl⟩)|fail)
         refine wp_region_quiet_grown R (by kernel_rfl) ?_
         repeat (go_big_quiet_step ((go_at_call 120;refine Calls.grown_of (gF rfl _))))
         refine wpQuiet_nil ?_
         rintro _ ⟨⟨a1,F⟩,rfl⟩
         go_wp2
         go_ret
         rw[f.out]
         exact ⟨rfl,r.trans (E.trans ⟨a1,F,rfl⟩)⟩
        ·have bs:=iT a3
         have a0:J (eG t (m+1)=true):=by
          show eG t (m+1)=true
          rw[eT g L.out b2.out,ap,u,a3];rfl
         go_wp2_with (first|(go_at_call 119;refine (gq u _).mono ?_;rintro e w2 ⟨rfl,rfl⟩)|fail)
         refine wp_region_quiet_grown R (by kernel_rfl) ?_
         repeat (go_big_quiet_step ((go_at_call 120;refine Calls.grown_of (gF bs _))))
         refine wpQuiet_nil ?_
         rintro _ ⟨⟨a1,F⟩,rfl⟩
         go_wp2
         go_roundw
         case rel =>
          refine ⟨_,g,by go_num,?_,E.trans ⟨a1,F,rfl⟩⟩
          intro j hj
          by_cases e:j=m+1
          ·rw[e];exact a0.out
          ·exact ah j (by omega)
         case measure=>simp[intOf];omega
    ·have bt:¬(k:Int)<(t.e.length:Int):=by omega
     have f:J (aw t=0):=vn an.out (by omega) fun j hj=>ah j (by omega)
     go_wp2
     go_ret
     rw[f.out]
     exact ⟨rfl,r.trans bc⟩
 ·have b4:(aN t.c != 0)=true:=by simpa using he
  have f:=ja1 (zq he)
  clear he
  go_wp2
  go_ret
  rw[f.out]
  exact ⟨rfl,r⟩


theorem rU (c:Ctx) (l:List (Int×Int)) (A:Option Q) (cap:Nat) (w:H) (bd:c.l=[]) (bh:bv c=true) (hl:l.length<=800) (bl:∀x∈l,am x=true) (hr:Row w A l) :
  U O 192 #[K #[V I c.c0,V I c.c1,V I c.c2,V I c.c3],Y A l.length cap] w fun e w'=>∃C cp,e= Z (K (ja7 (ax c l l.length) C cp))/\Row w' C (ax c l l.length).l/\(C=none->cp=0)/\(∀a,C=some a->w.heap.size<=a.block)/\P w.heap.size w w':=by
 have hE:=Dr
 have hG:=rW
 have hH:=ja3 bd bh bl
 clear bd bh bl
 go_enter Tryz.func192,Tryz.ntmps192
 go_wp2
 go_loopw [13] (fun i wr=>∃k:Nat,k<=l.length/\i= V I k/\CB wr (w.heap.size+1+1) (w.heap.size+1+1+1) (ax c l k)/\P (w.heap.size+1+1) ((w.alloc (S #[V I c.c0,V I c.c1,V I c.c2,V I c.c3] 50)).alloc (S #[V I 0,V I 0,V I 0,V I 0,Y none 0 0] 53)) wr) (fun i _=>l.length-(intOf i).toNat)
 case atStart =>
  refine ⟨0,nZ _,rfl,?_,(bR _ _).alloc (by simp) _⟩
  have:=CB.start ((w.alloc (S #[V I c.c0,V I c.c1,V I c.c2,V I c.c3] 50)).alloc (S #[V I 0,V I 0,V I 0,V I 0,Y none 0 0] 53)) hH.out.1 53
  show CB _ _ _ c
  simpa using this
 case round =>
  obtain ⟨k,hk,rfl,g,f⟩:=hrel
  have bc:J (P w.heap.size w wr):=(((bR _ w).alloc (nR _) _).alloc (by simp) _).trans (f.mono (by omega))
  have a6:=g.lt
  by_cases r:k<l.length
  ·have be:(k:Int)<(l.length:Int):=by omega
   obtain ⟨b,b0,rfl,hb,a5⟩:=(hr.below bc.out).at r
   obtain ⟨x,y,hx⟩:∃x y,l[k]=(x,y):=⟨_,_,rfl⟩
   have e0:=(a5 k r).1
   have e1:=(a5 k r).2
   rw[hx] at e0 e1
   have a7:=ja1 a5
   have a0:=ja1 hx
   have hn:=ef (hH.out.2.2 (x,y) (by rw[<-hx];exact gM r))
   have bG:=cE (tU hH.out.2.1 hH.out.2.2 k hk) x hn.1 hn.2.1
   have kc:=g.clk hn.1 hn.2.1
   have kf:=g.fz x.toNat
   simp only at hn
   clear a5 hx
   by_cases h1:y<=clk (ax c l k) x
   ·have R:J (ax c l (k+1)=ax c l k):=by
     cases k with
     | zero=>show ax c l 1=_;rw[iO r a0.out];exact vO h1
     | succ m=>show ax c l (m+2)=_;rw[fT r a0.out rfl];exact vO h1
    go_wp2
    go_roundw
    case rel=>exact ⟨k+1,by omega,by go_num,by rw[R.out];exact g.gr ((gR _).alloc _),f.alloc (by omega) _⟩
    case measure=>simp[intOf];omega
   ·by_cases h2:y=clk (ax c l k) x+1
    ·have R:J (ax c l (k+1)=setClk (ax c l k) x y):=by
      cases k with
      | zero=>show ax c l 1=_;rw[iO r a0.out];exact vN h2
      | succ m=>show ax c l (m+2)=_;rw[fT r a0.out rfl];exact vN h2
     have bo:decide (y<=clk (ax c l k) x)=false:=by simpa using h1
     have bp:(y==clk (ax c l k) x+1)=true:=by simpa using h2
     have bs:=ja1 h2
     clear h2 h1
     go_wp2
     go_roundw
     case rel=>exact ⟨k+1,by omega,by go_num,by rw[R.out];exact (g.setClk hn.1 hn.2.1 y).gr ((gR _).alloc _),(f.setCell (nR _) _).alloc (by simp only[World.setCell,Array.size_modify];omega) _⟩
     case measure=>simp[intOf];omega
    ·have bo:decide (y<=clk (ax c l k) x)=false:=by simpa using h1
     have bp:(y==clk (ax c l k) x+1)=false:=by simpa using h2
     have a1:=ja2 h1 h2
     clear h1 h2
     obtain ⟨v,k4,a2⟩:=g.v
     have an:=ja1 a2
     have a4:=jX c l k
     have bb:J (((ax c l k).l.length+[(x,y)].length)*16<=140737488355328):=by
      have:=hH.out.1
      rw[this] at a4
      simp only[List.length_nil,List.length_cons] at a4 ⊢
      show _<=_
      omega
     clear a2 a4
     cases k with
     | zero =>
      have R:J (ax c l 1={ ax c l 0 with l:=(ax c l 0).l++[(x,y)] }):=by
       show ax c l 1=_
       rw[iO r a0.out]
       exact sX a1.out.1 a1.out.2 (by simp)
      simp only[Nat.zero_mul,Nat.add_zero] at e0 e1
      go_wp2
      go_quiet (fail)
      go_wp2_with (at_builtin;refine aF _ rfl (.tmp 53) (.tmp 55) rfl (w.heap.size+1+1+1) v (ax c l 0).l [(x,y)] (some ⟨wr.heap.size+1,0,none⟩) 1 rfl rfl ?ho ?hr (fun h=>by cases h) bb.out ?hs ?_)
      case ho=>exact an.out.gr ((((gR wr).alloc _).drewN nq).alloc _)
      case hr=>exact iZ (by simp) x y _
      case hs=>simp;omega
      intro v1 w1 n ah _
      obtain ⟨C,cp,rfl,hC,-,-⟩:=n.row
      have u:Gr wr (((wr.alloc (S #[V I x,V I y] 185)).drewN nq).alloc (S #[V I x,V I y] 185)):=(((gR wr).alloc _).drewN nq).alloc _
      have E:P (w.heap.size+1+1+1) (((wr.alloc (S #[V I x,V I y] 185)).drewN nq).alloc (S #[V I x,V I y] 185)) w1:=Own.grown_below (an.out.gr u) ah (by simp;omega)
      have ad:=(g.gr u).setL E n
      have L:P (w.heap.size+1+1) ((w.alloc (S #[V I c.c0,V I c.c1,V I c.c2,V I c.c3] 50)).alloc (S #[V I 0,V I 0,V I 0,V I 0,Y none 0 0] 53)) w1:=(f.trans (u.below.mono (by omega))).trans (E.mono (by omega))
      have c4:w1.cell? ⟨w.heap.size+1+1,4,none⟩=some v:=(E.cell (p:=⟨w.heap.size+1+1,4,none⟩) (by simp)).trans ((u.cell (p:=⟨w.heap.size+1+1,4,none⟩) a6).trans k4)
      have f4:w1.frozen? ⟨w.heap.size+1+1,4,none⟩=false:=(E.frozen (p:=⟨w.heap.size+1+1,4,none⟩) (by simp)).trans ((g.gr u).fz 4)
      have ap:=ja1 ad
      have ao:=ja1 L
      clear ad L E u ah n f g k4 kc kf e0 e1
      go_wp2
      go_roundw
      case rel=>exact ⟨1,r,by go_num,by rw[R.out];have:=ap.out;simp only[List.length_append,List.length_cons,List.length_nil,Nat.zero_add] at this;exact this,ao.out.setCell (nR _) _⟩
      case measure=>simp[intOf];omega
     | succ m =>
      obtain ⟨x',y',a9⟩:∃x' y',l[m]=(x',y'):=⟨_,_,rfl⟩
      have g0:=(a7.out m (by omega)).1
      have g1:=(a7.out m (by omega)).2
      rw[a9] at g0 g1
      have a8:=ja1 a9
      clear a9
      have bN:((m:Int)+1==0)=false:=by simp;omega
      cases hq:(x'==x && y'==y)
      ·have R:J (ax c l (m+2)={ ax c l (m+1) with l:=(ax c l (m+1)).l++[(x,y)] }):=by
        show ax c l (m+2)=_
        rw[fT r a0.out a8.out]
        refine sX a1.out.1 a1.out.2 ?_
        intro h
        injection h with h
        injection h with h1 h2
        subst h1 h2
        simp at hq
       go_wp2
       go_quiet (fail)
       go_wp2_with (at_builtin;refine aF _ rfl (.tmp 53) (.tmp 55) rfl (w.heap.size+1+1+1) v (ax c l (m+1)).l [(x,y)] (some ⟨wr.heap.size+1,0,none⟩) 1 rfl rfl ?ho ?hr (fun h=>by cases h) bb.out ?hs ?_)
       case ho=>exact an.out.gr ((((gR wr).alloc _).drewN nq).alloc _)
       case hr=>exact iZ (by simp) x y _
       case hs=>simp;omega
       intro v1 w1 n ah _
       obtain ⟨C,cp,rfl,hC,-,-⟩:=n.row
       have u:Gr wr (((wr.alloc (S #[V I x,V I y] 185)).drewN nq).alloc (S #[V I x,V I y] 185)):=(((gR wr).alloc _).drewN nq).alloc _
       have E:P (w.heap.size+1+1+1) (((wr.alloc (S #[V I x,V I y] 185)).drewN nq).alloc (S #[V I x,V I y] 185)) w1:=Own.grown_below (an.out.gr u) ah (by simp;omega)
       have ad:=(g.gr u).setL E n
       have L:P (w.heap.size+1+1) ((w.alloc (S #[V I c.c0,V I c.c1,V I c.c2,V I c.c3] 50)).alloc (S #[V I 0,V I 0,V I 0,V I 0,Y none 0 0] 53)) w1:=(f.trans (u.below.mono (by omega))).trans (E.mono (by omega))
       have c4:w1.cell? ⟨w.heap.size+1+1,4,none⟩=some v:=(E.cell (p:=⟨w.heap.size+1+1,4,none⟩) (by simp)).trans ((u.cell (p:=⟨w.heap.size+1+1,4,none⟩) a6).trans k4)
       have f4:w1.frozen? ⟨w.heap.size+1+1,4,none⟩=false:=(E.frozen (p:=⟨w.heap.size+1+1,4,none⟩) (by simp)).trans ((g.gr u).fz 4)
       have ap:=ja1 ad
       have ao:=ja1 L
       clear ad L E u ah n f g k4 kc kf e0 e1
       go_wp2
       go_roundw
       case rel=>exact ⟨m+2,r,by go_num,by rw[R.out];have:=ap.out;simp only[List.length_append,List.length_cons,List.length_nil,Nat.zero_add] at this;exact this,ao.out.setCell (nR _) _⟩
       case measure=>simp[intOf];omega
      ·have R:J (ax c l (m+2)=ax c l (m+1)):=by
        show ax c l (m+2)=_
        rw[fT r a0.out a8.out]
        simp only[Bool.and_eq_true,beq_iff_eq] at hq
        rw[hq.1,hq.2]
        exact AE a1.out.1 a1.out.2
       go_wp2
       go_quiet (fail)
       go_wp2
       go_roundw
       case rel=>exact ⟨m+2,r,by go_num,by rw[R.out];exact g.gr (((gR _).alloc _).drewN nq),(f.alloc (by omega) _).trans ((((gR _).drewN nq).below).mono (by simp;omega))⟩
       case measure=>simp[intOf];omega
  ·have be:¬(k:Int)<(l.length:Int):=by omega
   obtain rfl:k=l.length:=by omega
   obtain ⟨F,hF⟩:∃F,ax c l l.length=F:=⟨_,rfl⟩
   rw[hF] at g
   have HF:=ja1 hF
   clear hF
   obtain ⟨v,k0,k1,k2,k3,k4,a2,hf,bt,bC⟩:=g
   obtain ⟨C,cp,rfl,hC,bn,ba⟩:=a2.row
   have r0:=(f.cell (p:=⟨w.heap.size+1,0,none⟩) (by simp)).trans (show _=some (V I 0) by go_simp)
   have r1:=(f.cell (p:=⟨w.heap.size+1,1,none⟩) (by simp)).trans (show _=some (V I 0) by go_simp)
   have r2:=(f.cell (p:=⟨w.heap.size+1,2,none⟩) (by simp)).trans (show _=some (V I 0) by go_simp)
   have r3:=(f.cell (p:=⟨w.heap.size+1,3,none⟩) (by simp)).trans (show _=some (V I 0) by go_simp)
   have r4:=(f.cell (p:=⟨w.heap.size+1,4,none⟩) (by simp)).trans (show _=some (Y none 0 0) by go_simp)
   have rf:∀j,wr.frozen? ⟨w.heap.size+1,j,none⟩=false:=fun j=>(f.frozen (p:=⟨w.heap.size+1,j,none⟩) (by simp)).trans (by simp)
   have an:=ja1 a2
   clear a2 hf
   have a3:∀a,C=some a->a.block≠w.heap.size+1:=fun a ha=>by have:=(ba a ha).1;omega
   go_wp2
   rw[HF.out]
   refine bodyPost_ret (v:= K (ja7 F C cp)) (by simp[results,Tryz.results192,go_sem,r0,r1,r2,r3,r4]) rfl ⟨C,cp,rfl,?_,hC,fun a ha=>by have:=(ba a ha).1;omega,?_⟩
   ·exact ((((bn.setCell _ a3).setCell _ a3).setCell _ a3).setCell _ a3).setCell _ a3
   ·exact ((((bc.out.setCell (by simp) _).setCell (by simp) _).setCell (by simp) _).setCell (by simp) _).setCell (by simp) _
end Go.Proofs.YtjmmpnmgpgaagaaGreatDoor

namespace Go.Proofs
open Go.Shelf
def Tryz.sortDot_ren:Go.Shelf.Ren:=⟨fun|6=>230|15=>181|14=>245|28=>219|29=>98|20=>263|21=>264|22=>265|23=>266|24=>267|25=>268|26=>269|27=>270|46=>282|47=>237|48=>238|49=>283|50=>284|57=>289|n=>n,fun|22=>51|24=>185|25=>230|3=>3|39=>101|0=>0|53=>121|55=>125|4=>4|46=>281|45=>280|50=>88|5=>5|9=>9|66=>301|70=>224|76=>317|77=>318|n=>n,fun|n=>n⟩
theorem Tryz.sortDot:Go.Proofs.SlLaysF0.n6 O Tryz.sortDot_ren:={
 mixed:=by kernel_rfl
 f6:=⟨Tryz.f230.name,by decide,Tryz.func230.trans (congrArg some (by kernel_rfl))⟩
 f14:=⟨Tryz.f245.name,by decide,Tryz.func245.trans (congrArg some (by kernel_rfl))⟩
 f15:=Tryz.func181.trans (congrArg some (by kernel_rfl))
 f20:=⟨Tryz.f263.name,by decide,Tryz.func263.trans (congrArg some (by kernel_rfl))⟩
 f21:=⟨Tryz.f264.name,by decide,Tryz.func264.trans (congrArg some (by kernel_rfl))⟩
 f22:=⟨Tryz.f265.name,by decide,Tryz.func265.trans (congrArg some (by kernel_rfl))⟩
 f23:=⟨Tryz.f266.name,by decide,Tryz.func266.trans (congrArg some (by kernel_rfl))⟩
 f24:=⟨Tryz.f267.name,by decide,Tryz.func267.trans (congrArg some (by kernel_rfl))⟩
 f25:=⟨Tryz.f268.name,by decide,Tryz.func268.trans (congrArg some (by kernel_rfl))⟩
 f26:=⟨Tryz.f269.name,by decide,Tryz.func269.trans (congrArg some (by kernel_rfl))⟩
 f27:=⟨Tryz.f270.name,by decide,Tryz.func270.trans (congrArg some (by kernel_rfl))⟩
 f28:=Tryz.func219.trans (congrArg some (by kernel_rfl))
 f29:=Tryz.func98.trans (congrArg some (by kernel_rfl))
 f46:=⟨Tryz.f282.name,by decide,Tryz.func282.trans (congrArg some (by kernel_rfl))⟩
 f47:=Tryz.func237.trans (congrArg some (by kernel_rfl))
 f48:=Tryz.func238.trans (congrArg some (by kernel_rfl))
 f49:=⟨Tryz.f283.name,by decide,Tryz.func283.trans (congrArg some (by kernel_rfl))⟩
 f50:=⟨Tryz.f284.name,by decide,Tryz.func284.trans (congrArg some (by kernel_rfl))⟩
 f57:=⟨Tryz.f289.name,by decide,Tryz.func289.trans (congrArg some (by kernel_rfl))⟩
 t0:=Tryz.underlying0
 a0:=Tryz.isAgg0
 z0:=Tryz.sizeOf0
 v0:=Tryz.zeroValue0
 t3:=Tryz.underlying3
 a3:=Tryz.isAgg3
 z3:=Tryz.sizeOf3
 v3:=Tryz.zeroValue3
 t4:=Tryz.underlying4
 a4:=Tryz.isAgg4
 z4:=Tryz.sizeOf4
 v4:=Tryz.zeroValue4
 t5:=Tryz.underlying5
 a5:=Tryz.isAgg5
 z5:=Tryz.sizeOf5
 v5:=Tryz.zeroValue5
 t9:=Tryz.underlying9
 a9:=Tryz.isAgg9
 z9:=Tryz.sizeOf9
 v9:=Tryz.zeroValue9
 t22:=Tryz.underlying51
 a22:=Tryz.isAgg51
 z22:=Tryz.sizeOf51
 v22:=Tryz.zeroValue51
 t25:=Tryz.underlying230
 a25:=Tryz.isAgg230
 z25:=Tryz.sizeOf230
 v25:=Tryz.zeroValue230
 t39:=Tryz.underlying101
 a39:=Tryz.isAgg101
 z39:=Tryz.sizeOf101
 v39:=Tryz.zeroValue101
 t45:=Tryz.underlying280
 a45:=Tryz.isAgg280
 z45:=Tryz.sizeOf280
 v45:=Tryz.zeroValue280
 t46:=Tryz.underlying281
 a46:=Tryz.isAgg281
 z46:=Tryz.sizeOf281
 v46:=Tryz.zeroValue281
 t50:=Tryz.underlying88
 a50:=Tryz.isAgg88
 z50:=Tryz.sizeOf88
 v50:=Tryz.zeroValue88
 t53:=Tryz.underlying121
 a53:=Tryz.isAgg121
 z53:=Tryz.sizeOf121
 v53:=Tryz.zeroValue121
 t55:=Tryz.underlying125
 a55:=Tryz.isAgg125
 z55:=Tryz.sizeOf125
 v55:=Tryz.zeroValue125
 t66:=Tryz.underlying301
 a66:=Tryz.isAgg301
 z66:=Tryz.sizeOf301
 v66:=Tryz.zeroValue301
 t70:=Tryz.underlying224
 a70:=Tryz.isAgg224
 z70:=Tryz.sizeOf224
 v70:=Tryz.zeroValue224
 t76:=Tryz.underlying317
 a76:=Tryz.isAgg317
 z76:=Tryz.sizeOf317
 v76:=Tryz.zeroValue317
 t77:=Tryz.underlying318
 a77:=Tryz.isAgg318
 z77:=Tryz.sizeOf318
 v77:=Tryz.zeroValue318 }
end Go.Proofs
