import Derived.ChangeKeysEq
import Derived.Test.YtkefkplnamkicabGreatDoorM03
set_option maxRecDepth 100000
set_option maxHeartbeats 8000000
open Go.Ending renaming returned → Y
open Go.IntKind renaming i64 → I
open Go.Obj renaming cells → Z
open Go.Proofs.Tryz renaming prog → J
open Go.Value renaming int → S, slice → O, agg → H, tuple → X, pointer → U, bool → K
namespace Go.Proofs.YtkefkplnamkicabGreatDoor
open Go.RowKit Go.Sort

theorem jb (x y:Int×Int):br x y=true↔x.1<y.1∨(x.1=y.1∧x.2<y.2):=by simp[br]
theorem fO {x y z:Int×Int} (h:br x y=true) (k:br y z=true):br x z=true:=by rw[jb] at *;omega
theorem ou (x:Int×Int):br x x=false:=by simp[br]
theorem gV {x y:Int×Int} (h:br x y=true):x≠y:=by rintro rfl;rw[ou] at h;cases h
theorem mZ (x y:Int×Int):dY x y=0↔x=y:=by
 obtain ⟨a,b⟩:=x
 obtain ⟨c,d⟩:=y
 unfold dY bj
 simp only[Prod.mk.injEq]
 constructor
 ·intro h
  by_cases h1:a<c
  ·simp[h1] at h
  ·by_cases h2:c<a
   ·simp[h1,h2] at h
   ·by_cases h3:b<d
    ·simp[h1,h2,h3] at h
    ·by_cases h4:d<b
     ·simp[h1,h2,h3,h4] at h
     ·omega
 ·rintro ⟨rfl,rfl⟩;simp
theorem CelAt.G {w:World} {B:Nat} {x:Cel} (h:CelAt w B x):(∀n os,(grow (w.drewN n) os).cell? ⟨B,0,none⟩=some (S I x.1.1))∧(∀n os,(grow (w.drewN n) os).cell? ⟨B,1,none⟩=some (S I x.1.2))∧(∀n os,(grow (w.drewN n) os).cell? ⟨B,2,none⟩=some (S I x.2.1))∧(∀n os,(grow (w.drewN n) os).cell? ⟨B,3,none⟩=some (S I x.2.2.1))∧(∀n os,(grow (w.drewN n) os).cell? ⟨B,4,none⟩=some (S I x.2.2.2)) :=
 ⟨cell_grown (a:=⟨B,0,none⟩) h.lt h.k0,cell_grown (a:=⟨B,1,none⟩) h.lt h.k1,cell_grown (a:=⟨B,2,none⟩) h.lt h.k2,cell_grown (a:=⟨B,3,none⟩) h.lt h.k3,cell_grown (a:=⟨B,4,none⟩) h.lt h.k4⟩

def Asc (l:List Cel):Prop:=l.Pairwise fun x y=>br x.1 y.1=true
def gw (l:List Cel) (d:Int×Int):Bool:=l.any fun y=>decide (y.1=d)

theorem vb {l:List Cel} {d:Int×Int} {a:Nat} (hs:Asc l) (h1:∀k (h:k<l.length),k<a→br l[k].1 d=true) (h2:∀k (h:k<l.length),a≤k→br l[k].1 d=false) :
  gw l d=decide (∃h:a<l.length,l[a].1=d):=by
 by_cases hm:∃h:a<l.length,l[a].1=d
 ·rw[decide_eq_true hm]
  obtain ⟨h,e⟩:=hm
  unfold gw
  rw[List.any_eq_true]
  exact ⟨l[a],gM h,by simpa using e⟩
 ·rw[decide_eq_false hm]
  unfold gw
  rw[List.any_eq_false]
  intro y hy he
  have he':y.1=d:=by simpa using he
  obtain ⟨k,hk,rfl⟩:=List.getElem_of_mem hy
  by_cases hka:k<a
  ·exact gV (h1 k hk hka) he'
  ·by_cases e:k=a
   ·subst e;exact hm ⟨hk,he'⟩
   ·have h3:=(List.pairwise_iff_getElem.1 hs) a k (by omega) hk (by omega)
    rw[he',h2 a (by omega) (Nat.le_refl _)] at h3
    cases h3

theorem jZ (l:List Cel) (A:Option Addr) (cap:Nat) (x:Cel) (w:World) (hl:l.length≤400) (hr:bA w A l) (hs:Asc l) :
  Calls J 98 #[O A l.length cap,H #[S I x.1.1,S I x.1.2,S I x.2.1,S I x.2.2.1,S I x.2.2.2],.func (.func 47) #[] #[]] w fun e w'=>∃i:Nat,e= Y (X #[S I i,K (gw l x.1)])∧(gw l x.1=true→∃h:i<l.length,l[i].1=x.1)∧Gr w w':=by
 have mixed:Tryz.prog.follows .mixedOrders=true:=by kernel_rfl
 have hx0:CelAt (w.alloc (Z #[S I x.1.1,S I x.1.2,S I x.2.1,S I x.2.2.1,S I x.2.2.2] 85)) w.heap.size x:=CelAt.new x 85 rfl
 have hg0:Gr w (w.alloc (Z #[S I x.1.1,S I x.1.2,S I x.2.1,S I x.2.2.1,S I x.2.2.2] 85)):=(gR w).alloc _
 have hsH:Hid (Asc l):=hs
 clear hs
 go_enter Tryz.func98,Tryz.ntmps98
 go_wp2
 generalize w.alloc (Z #[S I x.1.1,S I x.1.2,S I x.2.1,S I x.2.2.1,S I x.2.2.2] 85)=w0 at hx0 hg0 ⊢
 go_loopw [9,10] (fun i j wr=>∃a b:Nat,a≤b∧b≤l.length∧i= S I a∧j= S I b∧Hid ((∀k (h:k<l.length),k<a→br l[k].1 x.1=true)∧(∀k (h:k<l.length),b≤k→br l[k].1 x.1=false))∧Gr w0 wr) (fun i j _=>(intOf j).toNat-(intOf i).toNat)
 case atStart=>exact ⟨0,l.length,by omega,by omega,rfl,rfl,⟨fun k _ h=>absurd h (Nat.not_lt_zero _),fun k h1 h2=>by omega⟩,gR _⟩
 case round =>
  obtain ⟨a,b,hab,hbl,rfl,rfl,hinv,hgr⟩:=hrel
  have hxR:=hx0.gr hgr
  obtain ⟨x0,x1,x2,x3,x4⟩:=hxR.G
  by_cases hlt:a<b
  ·have hltz:(a:Int)<(b:Int):=by omega
   obtain ⟨h,hh⟩:∃h,(a+b) / 2=h:=⟨_,rfl⟩
   have hha:a≤h:=by omega
   have hhb:h<b:=by omega
   have hhl:h<l.length:=by omega
   obtain ⟨bb,off,rfl,hb,hcs⟩:=bA.get (hr.gr (hg0.trans hgr)) hhl
   obtain ⟨y,hy⟩:∃y,l[h]=y:=⟨_,rfl⟩
   obtain ⟨e0,e1,e2,e3,e4⟩:=hcs h hhl
   rw[hy] at e0 e1 e2 e3 e4
   have q0:=cell_grown (a:=⟨bb,off+h*5,none⟩) hb e0
   have q1:=cell_grown (a:=⟨bb,off+h*5+1,none⟩) hb e1
   have q2:=cell_grown (a:=⟨bb,off+h*5+2,none⟩) hb e2
   have q3:=cell_grown (a:=⟨bb,off+h*5+3,none⟩) hb e3
   have q4:=cell_grown (a:=⟨bb,off+h*5+4,none⟩) hb e4
   clear e0 e1 e2 e3 e4
   have hyH:Hid (l[h]=y):=hy
   clear hcs hy
   have hz:((a:Int)+(b:Int)) / 2=(h:Int):=by omega
   have hhz:(h:Int)<(l.length:Int):=by omega
   have hhH:Hid ((a+b) / 2=h):=hh
   clear hh
   cases hbe:br y.1 x.1
   ·have hge:=gL hbe
    have hgez:(decide (dY y.1 x.1<0))=false:=decide_eq_false (by omega)
    go_wp2
    refine wp_region_quiet_grown mixed (by kernel_rfl) ?_
    repeat (go_big_quiet_step ((go_at_call 47;refine Calls.grown_of (fH rfl _))))
    refine wpQuiet_nil ?_
    rintro _ ⟨⟨nq2,osq2⟩,rfl⟩
    go_wp2
    go_roundw
    case rel =>
     refine ⟨a,h,hha,by omega,rfl,rfl,⟨hinv.out.1,fun k hk hhk=> ?_⟩,hgr.trans ⟨nq2,osq2,rfl⟩⟩
     by_cases e:k=h
     ·subst e;rw[hyH.out];exact hbe
     ·have:=(List.pairwise_iff_getElem.1 hsH.out) h k hhl hk (by omega)
      rw[hyH.out] at this
      cases hk2:br l[k].1 x.1
      ·rfl
      ·rw[fO this hk2] at hbe;cases hbe
    case measure=>simp[intOf];omega
   ·have hge:=gK hbe
    go_wp2
    refine wp_region_quiet_grown mixed (by kernel_rfl) ?_
    repeat (go_big_quiet_step ((go_at_call 47;refine Calls.grown_of (fH hge _))))
    refine wpQuiet_nil ?_
    rintro _ ⟨⟨nq2,osq2⟩,rfl⟩
    go_wp2
    go_roundw
    case rel =>
     refine ⟨h+1,b,by omega,hbl,by go_num,rfl,⟨fun k hk hkh=> ?_,hinv.out.2⟩,hgr.trans ⟨nq2,osq2,rfl⟩⟩
     by_cases e:k=h
     ·subst e;rw[hyH.out];exact hbe
     ·have:=(List.pairwise_iff_getElem.1 hsH.out) k h hk hhl (by omega)
      rw[hyH.out] at this
      exact fO this hbe
    case measure=>simp[intOf];omega
  ·have hltz:¬(a:Int)<(b:Int):=by omega
   obtain rfl:a=b:=by omega
   have hme:=vb hsH.out hinv.out.1 hinv.out.2
   have hwR:Gr w wr:=hg0.trans hgr
   clear hlt
   by_cases hal:a<l.length
   ·have halz:(a:Int)<(l.length:Int):=by omega
    obtain ⟨bb,off,rfl,hb,hcs⟩:=bA.get (hr.gr hwR) hal
    obtain ⟨y,hy⟩:∃y,l[a]=y:=⟨_,rfl⟩
    obtain ⟨e0,e1,e2,e3,e4⟩:=hcs a hal
    rw[hy] at e0 e1 e2 e3 e4
    have q0:=cell_grown (a:=⟨bb,off+a*5,none⟩) hb e0
    have q1:=cell_grown (a:=⟨bb,off+a*5+1,none⟩) hb e1
    have q2:=cell_grown (a:=⟨bb,off+a*5+2,none⟩) hb e2
    have q3:=cell_grown (a:=⟨bb,off+a*5+3,none⟩) hb e3
    have q4:=cell_grown (a:=⟨bb,off+a*5+4,none⟩) hb e4
    clear e0 e1 e2 e3 e4
    have hyH:Hid (l[a]=y):=hy
    clear hcs
    by_cases hq:y.1=x.1
    ·have hoz:=(mZ y.1 x.1).2 hq
     have hfin:Hid (gw l x.1=true∧∃h:a<l.length,l[a].1=x.1):=by
      have hex:∃h:a<l.length,l[a].1=x.1:=⟨hal,by rw[hy];exact hq⟩
      exact ⟨by rw[hme];exact decide_eq_true hex,hex⟩
     clear hme hq hy
     go_wp2
     refine wp_region_quiet_grown mixed (by kernel_rfl) ?_
     repeat (go_big_quiet_step ((go_at_call 47;refine Calls.grown_of (fH hoz _))))
     refine wpQuiet_nil ?_
     rintro _ ⟨⟨nq2,osq2⟩,rfl⟩
     go_wp2
     go_ret2
     rw[hfin.out.1]
     exact ⟨a,rfl,fun _=>hfin.out.2,hwR.trans ⟨nq2,osq2,rfl⟩⟩
    ·have hoz:(dY y.1 x.1==0)=false:=beq_eq_false_iff_ne.2 (fun h=>hq ((mZ y.1 x.1).1 h))
     have hfin:Hid (gw l x.1=false):=by
      show gw l x.1=false
      rw[hme]
      refine decide_eq_false ?_
      rintro ⟨_,h⟩
      rw[hy] at h
      exact hq h
     clear hme hq hy
     go_wp2
     refine wp_region_quiet_grown mixed (by kernel_rfl) ?_
     repeat (go_big_quiet_step ((go_at_call 47;refine Calls.grown_of (fH rfl _))))
     refine wpQuiet_nil ?_
     rintro _ ⟨⟨nq2,osq2⟩,rfl⟩
     go_wp2
     go_ret2
     rw[hfin.out]
     exact ⟨a,rfl,(fun h=>by cases h),hwR.trans ⟨nq2,osq2,rfl⟩⟩
   ·have halz:¬(a:Int)<(l.length:Int):=by omega
    have hfin:Hid (gw l x.1=false):=by
     show gw l x.1=false
     rw[hme]
     refine decide_eq_false ?_
     rintro ⟨h,_⟩
     exact hal h
    clear hme
    go_wp2
    refine wp_region_quiet_grown mixed (by kernel_rfl) ?_
    repeat (go_big_quiet_step (fail))
    refine wpQuiet_nil ?_
    rintro _ ⟨⟨nq2,osq2⟩,rfl⟩
    go_wp2
    go_ret2
    rw[hfin.out]
    exact ⟨a,rfl,(fun h=>by cases h),hwR.trans ⟨nq2,osq2,rfl⟩⟩



def iv (x y:Cel):Bool:=decide (x=y)
theorem mz {x y:Cel}:iv x y=true↔x=y:=by simp[iv]

theorem wV (a b c d:Int) (w:World):(Op.equalIn 9999 83 (H #[S I a,S I b]) (H #[S I c,S I d])).run J w= .ok (a==c && b==d) w:=by
 have u3:=Tryz.underlying3
 have a3:=Tryz.isAgg3
 have z3:=Tryz.sizeOf3
 have hS:Tryz.prog.underlying 83=some (.struct (Tryz.prog.fieldsOf 83)):=by kernel_rfl
 have hp:Tryz.prog.stoodInHeld 83=false:=by kernel_rfl
 rw[show (9999:Nat)=9998+1 from rfl,run_equalIn_agg w 9998 83 _ _ hS hp]
 simp only[Program.fieldsOf,Tryz.underlying83]
 go_simp
 by_cases h1:a=c<;>by_cases h2:b=d<;>simp[h1,h2]

theorem wU (x y:Cel) (w:World):(Op.equalIn 10000 85 (H #[S I x.1.1,S I x.1.2,S I x.2.1,S I x.2.2.1,S I x.2.2.2]) (H #[S I y.1.1,S I y.1.2,S I y.2.1,S I y.2.2.1,S I y.2.2.2])).run J w= .ok (iv x y) w:=by
 obtain ⟨⟨a0,a1⟩,a2,a3,a4⟩:=x
 obtain ⟨⟨b0,b1⟩,b2,b3,b4⟩:=y
 have u3:=Tryz.underlying3
 have g3:=Tryz.isAgg3
 have z3:=Tryz.sizeOf3
 have c2:Tryz.prog.cellsOf 83=2:=by kernel_rfl
 have c1:Tryz.prog.cellsOf 3=1:=by kernel_rfl
 have gD:=Tryz.isAgg83
 have zD:=Tryz.sizeOf83
 have hd:=wV
 have hS:Tryz.prog.underlying 85=some (.struct (Tryz.prog.fieldsOf 85)):=by kernel_rfl
 have hp:Tryz.prog.stoodInHeld 85=false:=by kernel_rfl
 rw[show (10000:Nat)=9999+1 from rfl,run_equalIn_agg w 9999 85 _ _ hS hp]
 simp only[Program.fieldsOf,Tryz.underlying85]
 clear hS hp
 go_simp
 by_cases h0:a0=b0<;>by_cases h1:a1=b1<;>by_cases h2:a2=b2<;>by_cases h3:a3=b3<;>by_cases h4:a4=b4<;>simp[iv,h0,h1,h2,h3,h4]

theorem yB (x y:Cel) (w:World):(binOp .neq 85 (H #[S I x.1.1,S I x.1.2,S I x.2.1,S I x.2.2.1,S I x.2.2.2]) (H #[S I y.1.1,S I y.1.2,S I y.2.1,S I y.2.2.1,S I y.2.2.2])).run J w= .ok (K (!iv x y)) w:=by
 rw[run_neq_struct,wU];rfl
theorem uN (op:BinOp) (p q:Operand) (x y:Cel) (w:World):(eqGuard op 85 p q (H #[S I x.1.1,S I x.1.2,S I x.2.1,S I x.2.2.1,S I x.2.2.2]) (H #[S I y.1.1,S I y.1.2,S I y.2.1,S I y.2.2.1,S I y.2.2.2])).run J w= .ok () w :=
 run_eqGuard_agg w op 85 p q _ _ (by kernel_rfl)


def clP (l:List Cel) (x:Cel):Bool:=l.any fun y=>decide (y.1=x.1) && !iv y x

theorem tW {l:List Cel} (hs:Asc l) {i j:Nat} (hi:i<l.length) (hj:j<l.length) (h:l[i].1=l[j].1):i=j:=by
 rcases Nat.lt_trichotomy i j with h1|h1|h1
 ·have:=(List.pairwise_iff_getElem.1 hs) i j hi hj h1
  exact absurd h (gV this)
 ·exact h1
 ·have:=(List.pairwise_iff_getElem.1 hs) j i hj hi h1
  exact absurd h.symm (gV this)
theorem yk {l:List Cel} {x:Cel} (hs:Asc l) {i:Nat} (hi:i<l.length) (h:l[i].1=x.1):clP l x= !iv l[i] x:=by
 cases hq:iv l[i] x
 ·unfold clP
  show _=true
  rw[List.any_eq_true]
  exact ⟨l[i],gM hi,by rw[hq];simpa using h⟩
 ·unfold clP
  show _=false
  rw[List.any_eq_false]
  intro y hy
  obtain ⟨j,hj,rfl⟩:=List.getElem_of_mem hy
  by_cases hd:l[j].1=x.1
  ·obtain rfl:=tW hs hi hj (h.trans hd.symm)
   rw[hq];simp
  ·simp[hd]
theorem uh {l:List Cel} {x:Cel} (h:gw l x.1=false):clP l x=false:=by
 unfold gw at h
 rw[List.any_eq_false] at h
 unfold clP
 rw[List.any_eq_false]
 intro y hy
 have:=h y hy
 simp at this ⊢
 intro he
 exact absurd he this

theorem qa (l:List Cel) (B:Option Addr) (cb:Nat) (p:Nat) (x:Cel) (w:World) (hl:l.length≤400) (hp:p<w.heap.size) (kp:w.cell? ⟨p,0,none⟩=some (O B l.length cb)) (hr:bA w B l) (hs:Asc l) :
  Calls J 97 #[H #[S I x.1.1,S I x.1.2,S I x.2.1,S I x.2.2.1,S I x.2.2.2],U (some ⟨p,0,none⟩)] w fun e w'=>e= Y (K (clP l x))∧Gr w w':=by
 have mixed:Tryz.prog.follows .mixedOrders=true:=by kernel_rfl
 have hx0:CelAt (w.alloc (Z #[S I x.1.1,S I x.1.2,S I x.2.1,S I x.2.2.1,S I x.2.2.2] 85)) w.heap.size x:=CelAt.new x 85 rfl
 have hg0:Gr w (w.alloc (Z #[S I x.1.1,S I x.1.2,S I x.2.1,S I x.2.2.1,S I x.2.2.2] 85)):=(gR w).alloc _
 go_enter Tryz.func97,Tryz.ntmps97
 go_wp2_with fail
 refine (jZ l B cb x _ hl (hr.gr hg0) hs).mono ?_
 rintro e w1 ⟨i,rfl,hf,hg1⟩
 have hgW:Gr w w1:=hg0.trans hg1
 have kp1:w1.cell? ⟨p,0,none⟩=some (O B l.length cb):=(hgW.cell (p:=⟨p,0,none⟩) hp).trans kp
 have hp1:p<w1.heap.size:=nL hp hgW.size
 have hx1:=hx0.gr hg1
 have hr1:=hr.gr hgW
 clear hx0 hg0 hg1 kp hr
 cases hm:gw l x.1
 ·have hfin:Hid (clP l x=false):=uh hm
  clear hf
  go_wp2
  refine wp_region_quiet_grown mixed (by kernel_rfl) ?_
  repeat (go_big_quiet_step (fail))
  refine wpQuiet_nil ?_
  rintro _ ⟨⟨nq2,osq2⟩,rfl⟩
  go_wp2
  go_ret
  rw[hfin.out]
  exact ⟨rfl,hgW.trans ⟨nq2,osq2,rfl⟩⟩
 ·obtain ⟨hi,hd⟩:=hf hm
  have hfin:Hid (clP l x= !iv l[i] x):=yk hs hi hd
  have hiz:(i:Int)<(l.length:Int):=by omega
  obtain ⟨bb,off,rfl,hb,hcs⟩:=bA.get hr1 hi
  obtain ⟨y,hy⟩:∃y,l[i]=y:=⟨_,rfl⟩
  obtain ⟨e0,e1,e2,e3,e4⟩:=hcs i hi
  rw[hy] at e0 e1 e2 e3 e4 hfin
  have q0:=cell_grown (a:=⟨bb,off+i*5,none⟩) hb e0
  have q1:=cell_grown (a:=⟨bb,off+i*5+1,none⟩) hb e1
  have q2:=cell_grown (a:=⟨bb,off+i*5+2,none⟩) hb e2
  have q3:=cell_grown (a:=⟨bb,off+i*5+3,none⟩) hb e3
  have q4:=cell_grown (a:=⟨bb,off+i*5+4,none⟩) hb e4
  have kG:=cell_grown (a:=⟨p,0,none⟩) hp1 kp1
  obtain ⟨x0,x1,x2,x3,x4⟩:=hx1.G
  have hE:=yB
  have hG:=uN
  clear e0 e1 e2 e3 e4 hcs hf hd hy hs
  go_wp2
  refine wp_region_quiet_grown mixed (by kernel_rfl) ?_
  repeat (go_big_quiet_step (fail))
  refine wpQuiet_nil ?_
  rintro _ ⟨⟨nq2,osq2⟩,rfl⟩
  go_wp2
  go_ret
  rw[hfin.out]
  exact ⟨rfl,hgW.trans ⟨nq2,osq2,rfl⟩⟩

theorem sk (a b:List Cel) (A B:Option Addr) (ca cb:Nat) (w:World) (hal:a.length≤400) (hbl:b.length≤400) (hra:bA w A a) (hrb:bA w B b) (hs:Asc b) :
  Calls J 67 #[O A a.length ca,O B b.length cb] w fun e w'=>e= Y (K (a.any (clP b)))∧Gr w w':=by
 have hg0:Gr w (w.alloc (Z #[O B b.length cb] 40)):=(gR w).alloc _
 have k0:(w.alloc (Z #[O B b.length cb] 40)).cell? ⟨w.heap.size,0,none⟩=some (O B b.length cb):=ab (gR _) rfl
 have hlt0:w.heap.size<(w.alloc (Z #[O B b.length cb] 40)).heap.size:=by simp
 have hpr:rn 97 #[U (some ⟨w.heap.size,0,none⟩)] (clP b) (w.alloc (Z #[O B b.length cb] 40)):=fun W hg x =>
  qa b B cb w.heap.size x W hbl (nL hlt0 hg.size) ((hg.cell (p:=⟨w.heap.size,0,none⟩) hlt0).trans k0) (hrb.gr (hg0.trans hg)) hs
 have hc:=ff (clP b) 97 #[U (some ⟨w.heap.size,0,none⟩)] (enters_of Tryz.func97 (by kernel_rfl) rfl) a A ca _ (by unfold maxLen;omega) (hra.gr hg0) hpr
 have hcH:Hid _:=hc
 clear hc hpr
 go_enter Tryz.func67,Tryz.ntmps67
 go_wp2_with fail
 refine cM (show Calls _ _ _ _ _ from hcH.out) ?_
 rintro e w1 ⟨rfl,hg1⟩
 go_wp2
 go_ret
 exact ⟨rfl,hg0.trans hg1⟩


abbrev dv (w:World) (base:Nat) (v:Value) (l:List Cel):Prop:=ai gu 5 85 w base v l
theorem Tryz.infoC:(Tryz.prog.info? 85).map (fun i=>(i.zero,i.size,i.bytes))=some (some (H #[S I 0,S I 0,S I 0,S I 0,S I 0]),5,40):=by kernel_rfl

theorem jr {W:World} {n:Nat} (hn:W.heap.size=n) (x:Cel) (T:TypeId):bA (W.alloc (Z #[S I x.1.1,S I x.1.2,S I x.2.1,S I x.2.2.1,S I x.2.2.2] T)) (some ⟨n,0,none⟩) [x]:=by
 subst hn
 refine oR ⟨W.heap.size,0,rfl,by simp,fun j hj i hi=> ?_⟩
 obtain rfl:j=0:=by simp at hj;omega
 match i,hi with
 | 0,_=>exact ab (w:=W) (gR _) (j:=0) rfl
 | 1,_=>exact ab (w:=W) (gR _) (j:=1) rfl
 | 2,_=>exact ab (w:=W) (gR _) (j:=2) rfl
 | 3,_=>exact ab (w:=W) (gR _) (j:=3) rfl
 | 4,_=>exact ab (w:=W) (gR _) (j:=4) rfl

theorem dA (w:World) {ops:Array Oper} {rest:List Oper} {o:Oper} {a:Act} {Q:Exit→Act→World→Prop} (hgd:o.guard=none) (s x:Operand)
  (ho:o.op= .call { callee:= .builtin .append,args:= #[s,x],argTypes:= #[40,40] })
  (base:Nat) (v:Value) (l m:List Cel) (A:Option Addr) (cap:Nat) (hs:a.eval s=v) (hx:a.eval x= O A m.length cap) (hown:dv w base v l) (hr:bA w A m) (hA:A=none→cap=0)
  (hml:l.length+m.length≤maxLen) (hb:(l.length+m.length)*40≤140737488355328) (hbase:base≤w.heap.size)
  (h:∀v' w',dv w' base v' (l++m)→w.grownBy w' v.ownBlock→wpList J ops Q rest (a.put o.dst v') w'):wpList J ops Q (o::rest) a w :=
 wpList_plain hgd fun _ hK=>eG dw kV (by omega) 40 Tryz.underlying40 (H #[S I 0,S I 0,S I 0,S I 0,S I 0]) 40 Tryz.infoC rfl w s x ho base v l m A cap hs hx hown hr hA hml hb hbase fun v' w' h2 h3=>hK _ _ (h v' w' h2 h3)

theorem gC {p:Cel→Bool} {l:List Cel} {k:Nat} (h:k<l.length) {x:Cel} (hx:l[k]=x):(l.take (k+1)).filter p=(l.take k).filter p++(if p x then [x] else []):=by
 rw[List.take_succ_eq_append_getElem h,List.filter_append,hx]
 cases hq:p x<;>simp[hq]
theorem mG (p:Cel→Bool) (l:List Cel) (k:Nat):((l.take k).filter p).length≤l.length:=nT (List.length_filter_le _ _) (by rw[List.length_take];omega)

section
open Go.Shelf Go.Lib

def rq (l:List Cel):Prop:=∀x∈l,∀y∈l,x.1=y.1→x=y
def fp (x y:Cel):Bool:=br x.1 y.1
def gg (l:List Cel):List Cel:=l.mergeSort fun x y=> !fp y x

theorem ot (x y:Cel):fp x y=true↔x.1.1<y.1.1∨(x.1.1=y.1.1∧x.1.2<y.1.2):=jb _ _
theorem ja (x y:Cel):fp x y=false↔y.1.1<x.1.1∨(x.1.1=y.1.1∧y.1.2≤x.1.2):=by
 simp[fp,br];omega
theorem Ac {cf:Cel→Cel→Int} (hcf:∀x y,ltOf cf x y=fp x y):SWO (ltOf cf) where
 irrefl x:=by rw[hcf];simp[fp,br]
 trans x y z h1 h2:=by rw[hcf,ot] at *;omega
 ntrans x y z h1 h2:=by rw[hcf,ja] at *;omega
theorem gS (l:List Cel):(gg l).length=l.length:=by simp[gg]
theorem ip (l:List Cel):(gg l).Perm l:=List.mergeSort_perm _ _
theorem nA (l:List Cel):(gg l).Pairwise fun x y=>(!fp y x)=true:=by
 refine List.pairwise_mergeSort ?_ ?_ _
 ·intro a b c h1 h2
  simp only[Bool.not_eq_true',ja] at h1 h2 ⊢
  omega
 ·intro a b
  cases h:fp b a
  ·simp
  ·have:fp a b=false:=by rw[ja];rw[ot] at h;omega
   simp[this]
theorem rz {x y:Cel} (h1:(!fp y x)=true) (h2:(!fp x y)=true):x.1=y.1:=by
 simp only[Bool.not_eq_true',ja] at h1 h2
 exact Prod.ext (by omega) (by omega)
theorem xG {l m:List Cel} (hu:rq l) (hp:m.Perm l) (hs:m.Pairwise fun x y=>(!fp y x)=true):m=gg l:=by
 refine List.Perm.eq_of_pairwise (le:=fun x y=>(!fp y x)=true) ?_ hs (nA l) (hp.trans (ip l).symm)
 intro a b ha hb h1 h2
 exact hu a (hp.mem_iff.1 ha) b ((ip l).mem_iff.1 hb) (rz h1 h2)
theorem vO {l:List Cel} (hn:(l.map (·.1)).Nodup):Asc (gg l):=by
 have h1:=nA l
 have h2:((gg l).map (·.1)).Nodup:=((ip l).map (·.1)).nodup_iff.2 hn
 have h3:(gg l).Pairwise fun x y=>x.1≠y.1:=List.pairwise_map.1 h2
 unfold Asc
 refine (h1.and h3).imp ?_
 intro x y ⟨h4,h5⟩
 cases h6:br x.1 y.1
 ·exfalso
  refine h5 (rz h4 ?_)
  show (!br x.1 y.1)=true
  rw[h6];rfl
 ·rfl

theorem yt {w:World} {g:Nat} {l:List Cel} (h:bA w (some ⟨g,0,none⟩) l) (hf:∀j,w.frozen? ⟨g,j,none⟩=false):HoldsK gu 5 w g 0 l.toArray:=by
 intro t ht
 rw[size_flatK] at ht
 rw[get_flatK _ _ _ t ht]
 simp only[List.size_toArray] at ht
 have hk:t / 5<l.length:=by omega
 refine ⟨?_,hf _⟩
 obtain ⟨b,off,hA,hb,hc⟩:=h.at hk
 obtain ⟨rfl,rfl⟩:g=b∧0=off:=by injection hA with hA;injection hA with h1 h2;exact ⟨h1,h2⟩
 have e:l.toArray[t / 5]! = l[t / 5]:=by simp[hk]
 rw[e]
 have:=hc (t / 5) hk (t % 5) (Nat.mod_lt _ (by omega))
 rw[show 0+t / 5*5+t % 5=0+t from by omega] at this
 rw[this]
 have hm:t % 5<5:=Nat.mod_lt _ (by omega)
 match t % 5,hm with
 | 0,_=>rfl
 | 1,_=>rfl
 | 2,_=>rfl
 | 3,_=>rfl
 | 4,_=>rfl

theorem zv {w:World} {g:Nat} {l:List Cel} (h:HoldsK gu 5 w g 0 l.toArray) (hg:g<w.heap.size):bA w (some ⟨g,0,none⟩) l:=by
 refine oR ⟨g,0,rfl,hg,fun j hj i hi=> ?_⟩
 have h0:=(h (j*5+i) (by rw[size_flatK];simp;omega)).1
 rw[get_flatK _ _ _ _ (by simp;omega)] at h0
 rw[show (j*5+i) / 5=j from by omega,show (j*5+i) % 5=i from by omega] at h0
 have e:l.toArray[j]! = l[j]:=by simp[hj]
 rw[e] at h0
 rw[show 0+j*5+i=0+(j*5+i) from by omega,h0]
 match i,hi with
 | 0,_=>rfl
 | 1,_=>rfl
 | 2,_=>rfl
 | 3,_=>rfl
 | 4,_=>rfl

theorem ov {w:World} {g n base:Nat} {os:Array Obj} {d:Array Cel} (hb:base≤g) (hs:base≤w.heap.size):Go.RowKit.Below base w (sortWorldK gu 5 w g 0 n d os):=by
 refine ⟨rfl,rfl,rfl,by simp[sortWorldK,grow,putRowK],fun k hk=> ?_⟩
 show ((putRowK gu 5 (Sort.ahead w n) g 0 d).heap++os)[k]? = _
 rw[Array.getElem?_append_left (by simp[putRowK];omega)]
 show ((Sort.ahead w n).heap.modify g _)[k]? = _
 rw[Array.getElem?_modify,if_neg (by omega)]
 rfl

theorem yO {cf:Cel→Cel→Int} (hcf:∀x y,ltOf cf x y=fp x y) (fid:Nat) (cb:Array Value) (eg:∀args w,(callFunc fid args).run J w= .ok (.enter fid args) w) (g cap:Nat) (l:List Cel) (w:World) (hcmp:CmpLays J fid cb gu 5 cf g 0 l.length w) (hu:rq l) (hH:HoldsK gu 5 w g 0 l.toArray) (hg:g<w.heap.size) (hsz:l.length<4611686018427387904) :
  Calls J 102 #[O (some ⟨g,0,none⟩) l.length cap,.func (.func fid) #[] cb] w fun e w'=>e= Y (X #[])∧bA w' (some ⟨g,0,none⟩) (gg l)∧∀base,base≤g→base≤w.heap.size→Go.RowKit.Below base w w':=by
 have hcon:=AnyQ.slices_SortFunc Tryz.sortCell 5 Tryz.isAgg85 Tryz.sizeOf85 gu (fun _=>rfl) kV cf (Ac hcf) fid cb g 0 cap l.toArray w eg (by simpa using hcmp) hH hg (by simpa using hsz)
 change Calls J 102 _ _ _ at hcon
 simp only[List.size_toArray] at hcon
 refine hcon.mono ?_
 rintro e w' ⟨he,d',n,os,hp,hs,hw⟩
 obtain ⟨hsz',_,hperm⟩:=hp
 simp only[List.size_toArray] at hsz'
 have e1:d'.extract 0 l.length=d':=by rw[←hsz'];exact Array.extract_size
 have e2:(l.toArray.extract 0 l.length).toList=l:=by simp
 rw[e1,e2] at hperm
 have hpw:d'.toList.Pairwise fun x y=>(!fp y x)=true:=by
  rw[List.pairwise_iff_getElem]
  intro i j hi hj hij
  have hi':i<d'.size:=by simpa using hi
  have hj':j<d'.size:=by simpa using hj
  have:=hs i j (nZ _) hij (by omega)
  rw[getElem!_pos d' j hj',getElem!_pos d' i hi',hcf] at this
  simpa using this
 have hd:d'=(gg l).toArray:=by
  have:=xG hu hperm hpw
  rw[←this]
 subst hd
 refine ⟨he,?_,fun base h1 h2=>by rw[hw];exact ov h1 h2⟩
 have hH':HoldsK gu 5 w' g 0 (gg l).toArray:=by
  rw[hw]
  refine holdsK_grow _ _ _ _ _ _ _ (by simp[putRowK];exact hg) ?_
  exact holdsK_putRowK _ _ _ _ _ l.toArray _ (holdsK_ahead _ _ _ _ _ _ _ hH) (by simp[gS])
 refine zv hH' ?_
 rw[hw]
 simp[sortWorldK,grow,putRowK]
 omega

theorem vM {cf:Cel→Cel→Int} (hcf:∀x y,ltOf cf x y=fp x y) (fid:Nat) (cb:Array Value) (eg:∀args w,(callFunc fid args).run J w= .ok (.enter fid args) w) (base:Nat) (v:Value) (l:List Cel) (w:World) (hcmp:∀g,CmpLays J fid cb gu 5 cf g 0 l.length w) (hu:rq l) (hown:dv w base v l) (hb:base≤w.heap.size) (hsz:l.length<4611686018427387904) :
  Calls J 102 #[v,.func (.func fid) #[] cb] w fun e w'=>e= Y (X #[])∧(∃C cap,v= O C (gg l).length cap∧bA w' C (gg l)∧(C=none→cap=0)∧∀a,C=some a→base≤a.block)∧Go.RowKit.Below base w w':=by
 obtain ⟨A,cap,rfl,hA,hrow,hcap,hlt,hfz⟩:=ai.full dw hown
 by_cases h0:l=[]
 ·subst h0
  have hcon:=AnyF.slices_SortFunc_none Tryz.sortCell A cap (.func (.func fid) #[] cb) w
  change Calls J 102 _ _ _ at hcon
  refine hcon.mono ?_
  rintro e w' ⟨he,rfl⟩
  exact ⟨he,⟨A,cap,by simp[gg],oL (by simp[gg]),hA,fun a ha=>(hlt a ha).1⟩,bR _ _⟩
 ·have hpos:0<l.length:=List.length_pos_iff.2 h0
  obtain ⟨b,off,hAe,hbb,_⟩:=hrow.at hpos
  subst hAe
  have h5:=hlt _ rfl
  obtain rfl:off=0:=h5.2.2.1
  refine (yO hcf fid cb eg b cap l w (hcmp b) hu (yt hrow (hfz _ rfl)) hbb hsz).mono ?_
  rintro e w' ⟨he,hr',hbel⟩
  refine ⟨he,⟨_,cap,by rw[gS],hr',hA,fun a ha=>(hlt a ha).1⟩,hbel base h5.1 hb⟩

theorem zi (x y:Cel):ltOf (fun x y:Cel=>dY x.1 y.1) x y=fp x y:=by
 unfold ltOf fp
 cases h:br x.1 y.1
 ·have:=gL h
  simp;omega
 ·simp[gK h]
theorem yl (blk off size:Nat) (w:World):CmpLays J 47 #[] gu 5 (fun x y:Cel=>dY x.1 y.1) blk off size w :=
 fun _ _ _ _ x y=>lG x y _

end

def dF (t:Tab) (key:Int):Int:=if am t≠0 then am t else if inB key 0 49=false then 1 else if t.e.any (dP key)=false then 4 else bM (aq (dP key) t.e)
def ch (t:Tab) (key:Int):Ctx:=if dF t key=0 then aA (aq (dP key) t.e) else aH

structure Six (w:World) (B:Nat) (u0 u1 u2 u3 u4 u5:Value):Prop where
 k0:w.cell? ⟨B,0,none⟩=some u0
 k1:w.cell? ⟨B,1,none⟩=some u1
 k2:w.cell? ⟨B,2,none⟩=some u2
 k3:w.cell? ⟨B,3,none⟩=some u3
 k4:w.cell? ⟨B,4,none⟩=some u4
 k5:w.cell? ⟨B,5,none⟩=some u5
 fz:∀j,w.frozen? ⟨B,j,none⟩=false
 lt:B<w.heap.size
theorem Six.new (w:World) (u0 u1 u2 u3 u4 u5:Value) (T:TypeId) {B:Nat} (hB:B=w.heap.size):Six (w.alloc (Z #[u0,u1,u2,u3,u4,u5] T)) B u0 u1 u2 u3 u4 u5:=by
 subst hB
 exact ⟨ab (gR _) rfl,ab (gR _) rfl,ab (gR _) rfl,ab (gR _) rfl,ab (gR _) rfl,ab (gR _) rfl,fun j=>eC (gR _) j,by simp⟩
theorem Six.belowB {w w':World} {B N:Nat} {u0 u1 u2 u3 u4 u5:Value} (h:Six w B u0 u1 u2 u3 u4 u5) (k:Below N w w') (hB:B<N):Six w' B u0 u1 u2 u3 u4 u5 :=
 ⟨(k.cell (p:=⟨B,0,none⟩) hB).trans h.k0,(k.cell (p:=⟨B,1,none⟩) hB).trans h.k1,(k.cell (p:=⟨B,2,none⟩) hB).trans h.k2,(k.cell (p:=⟨B,3,none⟩) hB).trans h.k3,(k.cell (p:=⟨B,4,none⟩) hB).trans h.k4,(k.cell (p:=⟨B,5,none⟩) hB).trans h.k5,fun j=>(k.frozen (p:=⟨B,j,none⟩) hB).trans (h.fz j),nL h.lt k.size⟩
theorem Six.below {w w':World} {B:Nat} {u0 u1 u2 u3 u4 u5:Value} (h:Six w B u0 u1 u2 u3 u4 u5) (k:Below w.heap.size w w'):Six w' B u0 u1 u2 u3 u4 u5:=h.belowB k h.lt
theorem Six.gr {w w':World} {B:Nat} {u0 u1 u2 u3 u4 u5:Value} (h:Six w B u0 u1 u2 u3 u4 u5) (k:Gr w w'):Six w' B u0 u1 u2 u3 u4 u5:=h.below k.below
theorem Six.set {w:World} {B:Nat} {u0 u1 u2 u3 u4 u5:Value} (h:Six w B u0 u1 u2 u3 u4 u5) (v0 v1 v2 v3 v4 v5:Value):Six ((((((w.setCell ⟨B,0,none⟩ v0).setCell ⟨B,1,none⟩ v1).setCell ⟨B,2,none⟩ v2).setCell ⟨B,3,none⟩ v3).setCell ⟨B,4,none⟩ v4).setCell ⟨B,5,none⟩ v5) B v0 v1 v2 v3 v4 v5:=by
 have e0:=h.k0
 have e1:=h.k1
 have e2:=h.k2
 have e3:=h.k3
 have e4:=h.k4
 have e5:=h.k5
 refine ⟨?_,?_,?_,?_,?_,?_,fun j=> ?_,by simpa[World.setCell] using h.lt⟩
 ·exact aa (aa (aa (aa (aa (aa e0)))))
 ·exact aa (aa (aa (aa (aa (aa e1)))))
 ·exact aa (aa (aa (aa (aa (aa e2)))))
 ·exact aa (aa (aa (aa (aa (aa e3)))))
 ·exact aa (aa (aa (aa (aa (aa e4)))))
 ·exact aa (aa (aa (aa (aa (aa e5)))))
 ·simp only[World.frozen?_setCell];exact h.fz j
abbrev wA (w:World) (B:Nat):Prop:=Six w B (S I 0) (S I 0) (S I 0) (S I 0) (O none 0 0) (O none 0 0)

theorem aj {n:Nat} {w W:World} (h:Below n w W) {B:Nat} (hB:n≤B) (u0 u1 u2 u3 u4 u5:Value):Below n w ((((((W.setCell ⟨B,0,none⟩ u0).setCell ⟨B,1,none⟩ u1).setCell ⟨B,2,none⟩ u2).setCell ⟨B,3,none⟩ u3).setCell ⟨B,4,none⟩ u4).setCell ⟨B,5,none⟩ u5):=(aZ h hB u0 u1 u2 u3 u4).setCell hB u5
theorem ay.setCell {α : Type} {enc: α → List Value} {k:Nat} {w:World} {A:Option Addr} {l:List α} (h:ay enc k w A l) {B m:Nat} (u:Value) (hA:∀x,A=some x→x.block≠B):ay enc k (w.setCell ⟨B,m,none⟩ u) A l:=by
 rcases h with h|⟨b,off,rfl,hb,hc⟩
 ·exact oL h
 ·have hne:=hA _ rfl
  refine oR ⟨b,off,rfl,by simpa[World.setCell] using hb,fun j hj i hi=> ?_⟩
  rw[←hc j hj i hi]
  exact World.cell?_setCell_other _ _ _ _ (by intro e;injection e with e1;exact hne e1.symm)

theorem wM (t:Tab) (A:Option Addr) (ca:Nat) (D:Option Addr) (cd:Nat) (key:Int) (w:World) (hl:t.c.l.length≤maxLen) (hel:t.e.length≤maxLen) (hr:Row w A t.c.l) (hd:bA w D t.e) :
  Calls J 72 #[H (T6 t A ca D cd).toArray,S I key] w fun e w'=>∃C cp,e= Y (X #[H #[S I (ch t key).c0,S I (ch t key).c1,S I (ch t key).c2,S I (ch t key).c3,O C (ch t key).l.length cp,O none 0 0],S I (dF t key)])∧Row w' C (ch t key).l∧(C=none→cp=0)∧(∀a,C=some a→w.heap.size≤a.block)∧Below w.heap.size w w':=by
 have hg0:Gr w (((w.alloc (Z #[S I t.c.c0,S I t.c.c1,S I t.c.c2,S I t.c.c3,O A t.c.l.length ca,O D t.e.length cd] 42)).alloc (Z #[S I key] 3)).alloc (Z #[S I 0,S I 0,S I 0,S I 0,O none 0 0,O none 0 0] 42)):=(((gR w).alloc _).alloc _).alloc _
 have ht0:TabAt (((w.alloc (Z #[S I t.c.c0,S I t.c.c1,S I t.c.c2,S I t.c.c3,O A t.c.l.length ca,O D t.e.length cd] 42)).alloc (Z #[S I key] 3)).alloc (Z #[S I 0,S I 0,S I 0,S I 0,O none 0 0,O none 0 0] 42)) w.heap.size t A ca D cd:=(TabAt.new 42 hr hd rfl).gr (((gR _).alloc _).alloc _)
 have hk0:(((w.alloc (Z #[S I t.c.c0,S I t.c.c1,S I t.c.c2,S I t.c.c3,O A t.c.l.length ca,O D t.e.length cd] 42)).alloc (Z #[S I key] 3)).alloc (Z #[S I 0,S I 0,S I 0,S I 0,O none 0 0,O none 0 0] 42)).cell? ⟨w.heap.size+1,0,none⟩=some (S I key):=lY ((gR _).alloc _) rfl
 have hz0:wA (((w.alloc (Z #[S I t.c.c0,S I t.c.c1,S I t.c.c2,S I t.c.c3,O A t.c.l.length ca,O D t.e.length cd] 42)).alloc (Z #[S I key] 3)).alloc (Z #[S I 0,S I 0,S I 0,S I 0,O none 0 0,O none 0 0] 42)) (w.heap.size+1+1):=Six.new _ _ _ _ _ _ _ 42 (by simp)
 have hck:=ef t A ca D cd (((w.alloc (Z #[S I t.c.c0,S I t.c.c1,S I t.c.c2,S I t.c.c3,O A t.c.l.length ca,O D t.e.length cd] 42)).alloc (Z #[S I key] 3)).alloc (Z #[S I 0,S I 0,S I 0,S I 0,O none 0 0,O none 0 0] 42)) hl hel ht0.row ht0.rowC
 have hckH:Hid _:=hck
 clear hck
 go_enter Tryz.func72,Tryz.ntmps72
 go_wp2_with fail
 refine cM (show Calls _ _ _ _ _ from hckH.out) ?_
 rintro e w1 ⟨rfl,hg1⟩
 clear hckH
 have hs0:w.heap.size+1+1<w1.heap.size:=(hz0.gr hg1).lt
 have ht1:=ht0.gr hg1
 have hz1:=hz0.gr hg1
 have hk1:=(hg1.cell (p:=⟨w.heap.size+1,0,none⟩) (by simp)).trans hk0
 have hgw1:Gr w w1:=hg0.trans hg1
 clear hg0 ht0 hk0 hz0 hg1
 obtain ⟨z0,z1,z2,z3,z4,z5,zf,zlt⟩:=(show Six _ _ _ _ _ _ _ _ from hz1)
 by_cases he:am t=0
 ·have heb:(am t != 0)=false:=by simpa using he
  have heH:Hid (am t=0):=he
  have hel4:t.e.length≤400:=(af he).2.1
  clear he
  cases hky:inB key 0 49
  ·have hfin:Hid (dF t key=1∧ch t key=aH):=by
    have h1:dF t key=1:=by simp[dF,heH.out,hky]
    exact ⟨h1,by simp[ch,h1]⟩
   go_wp2_with (go_at_call 66;refine (rJ hky _).mono ?_;rintro e w1 ⟨rfl,rfl⟩)
   rw[hfin.out.1,hfin.out.2]
   exact bodyPost_ret (v:= X #[H #[S I 0,S I 0,S I 0,S I 0,O none 0 0,O none 0 0],S I 1]) (by simp[results,Tryz.results72,go_sem,z0,z1,z2,z3,z4,z5]) rfl ⟨none,0,rfl,oL rfl,fun _=>rfl,(fun x hx=>by cases hx),aj hgw1.below (by omega) _ _ _ _ _ _⟩
  ·have k5:=ht1.k5
   have eg:∀args w,(callFunc 108 args).run J w= .ok (.enter 108 args) w:=enters_of Tryz.func108 (by kernel_rfl) rfl
   have hcf:=ff (dP key) 108 #[U (some ⟨w.heap.size+1,0,none⟩)] eg t.e D cd w1 hel ht1.rowC (zu key (w.heap.size+1) w1 (by omega) hk1)
   have hcfH:Hid _:=hcf
   clear hcf
   go_wp2_with (first|(go_at_call 66;refine (rJ hky _).mono ?_;rintro e w1 ⟨rfl,rfl⟩)|fail)
   refine cM (show Calls _ _ _ _ _ from hcfH.out) ?_
   rintro e w2 ⟨rfl,hg2⟩
   clear hcfH z0 z1 z2 z3 z4 z5 zf zlt k5
   have ht2:=ht1.gr hg2
   have k5:=ht2.k5
   have hk2:=(hg2.cell (p:=⟨w.heap.size+1,0,none⟩) (show w.heap.size+1<_ by omega)).trans hk1
   have hs2:w.heap.size+1+1<w2.heap.size:=(hz1.gr hg2).lt
   obtain ⟨z0,z1,z2,z3,z4,z5,zf,zlt⟩:=(show Six _ _ _ _ _ _ _ _ from hz1.gr hg2)
   have hgw2:Gr w w2:=hgw1.trans hg2
   cases han:t.e.any (dP key)
   ·have hfin:Hid (dF t key=4∧ch t key=aH):=by
     have h1:dF t key=4:=by unfold dF;rw[if_neg (by simpa using heH.out),if_neg (by simp[hky]),if_pos han]
     exact ⟨h1,by simp[ch,h1]⟩
    go_wp2
    rw[hfin.out.1,hfin.out.2]
    exact bodyPost_ret (v:= X #[H #[S I 0,S I 0,S I 0,S I 0,O none 0 0,O none 0 0],S I 4]) (by simp[results,Tryz.results72,go_sem,z0,z1,z2,z3,z4,z5]) rfl ⟨none,0,rfl,oL rfl,fun _=>rfl,(fun x hx=>by cases hx),aj hgw2.below (by omega) _ _ _ _ _ _⟩
   ·have hco:=iw (dP key) 108 #[U (some ⟨w.heap.size+1,0,none⟩)] eg t.e D cd w2 hel4 ht2.rowC (fun W hW x=>oJ key (w.heap.size+1) x W (by have:=hW.size;omega) ((hW.cell (p:=⟨w.heap.size+1,0,none⟩) (show w.heap.size+1<_ by omega)).trans hk2))
    have hcoH:Hid _:=hco
    clear hco
    go_wp2_with fail
    refine cM (show Calls _ _ _ _ _ from hcoH.out) ?_
    rintro e w3 ⟨C,cp,rfl,hrow3,hC,hCb,hb3⟩
    clear hcoH z0 z1 z2 z3 z4 z5 zf zlt k5
    have hz3:=(hz1.gr hg2).below hb3
    obtain ⟨z0,z1,z2,z3,z4,z5,zf,zlt⟩:=(show Six _ _ _ _ _ _ _ _ from hz3)
    have hs3:w2.heap.size≤w3.heap.size:=hb3.size
    have hbw3:Hid (Below w.heap.size w w3):=hgw2.below.trans (hb3.mono (by omega))
    have hmD:Hid (dF t key=bM (aq (dP key) t.e)):=by
     show dF t key=_
     unfold dF
     rw[if_neg (by simpa using heH.out),if_neg (by simp[hky]),if_neg (by simp[han])]
    have hmE:Hid (bM (aq (dP key) t.e)=0→ch t key=aA (aq (dP key) t.e)):=fun h0=>by
     unfold ch
     rw[hmD.out,if_pos h0]
    have hmZ:Hid (bM (aq (dP key) t.e)≠0→ch t key=aH):=fun h0=>by
     unfold ch
     rw[hmD.out,if_neg h0]
    obtain ⟨F,hF⟩:∃F,aA (aq (dP key) t.e)=F:=⟨_,rfl⟩
    obtain ⟨E,hE⟩:∃E,bM (aq (dP key) t.e)=E:=⟨_,rfl⟩
    rw[hF] at hrow3 hmE ⊢
    rw[hE] at hmE hmZ hmD ⊢
    clear hF hE han
    have hCn:∀a,C=some a→a.block≠w.heap.size+1+1:=fun a ha=>by have:=hCb a ha;omega
    by_cases hE0:E=0
    ·have hfin:Hid (dF t key=0∧ch t key=F):=⟨hmD.out.trans hE0,hmE.out hE0⟩
     subst hE0
     have hV:=(hz3.set (S I F.c0) (S I F.c1) (S I F.c2) (S I F.c3) (O C F.l.length cp) (O none 0 0)).gr ((gR _).alloc (Z #[S I F.c0,S I F.c1,S I F.c2,S I F.c3,O C F.l.length cp] 39))
     have hrV:Row _ C F.l:=(((((((hrow3.setCell (B:=w.heap.size+1+1) (j:=0) (S I F.c0) hCn).setCell (j:=1) (S I F.c1) hCn).setCell (j:=2) (S I F.c2) hCn).setCell (j:=3) (S I F.c3) hCn).setCell (j:=4) (O C F.l.length cp) hCn).setCell (j:=5) (O none 0 0) hCn)).gr ((gR _).alloc (Z #[S I F.c0,S I F.c1,S I F.c2,S I F.c3,O C F.l.length cp] 39))
     have hbV:=(aj hbw3.out (B:=w.heap.size+1+1) (by omega) (S I F.c0) (S I F.c1) (S I F.c2) (S I F.c3) (O C F.l.length cp) (O none 0 0)).alloc (by simp;omega) (Z #[S I F.c0,S I F.c1,S I F.c2,S I F.c3,O C F.l.length cp] 39)
     have hVH:Hid _:=hV
     have hbVH:Hid _:=hbV
     have hrVH:Hid _:=hrV
     clear hV hbV hrV
     go_wp2
     obtain ⟨v0,v1,v2,v3,v4,v5,vf,vlt⟩:=(show Six _ _ _ _ _ _ _ _ from hVH.out)
     have hbV:=hbVH.out
     have hrV:=hrVH.out
     rw[hfin.out.1,hfin.out.2]
     generalize World.alloc _ _=V at v0 v1 v2 v3 v4 v5 hbV hrV ⊢
     exact bodyPost_ret (v:= X #[H #[S I F.c0,S I F.c1,S I F.c2,S I F.c3,O C F.l.length cp,O none 0 0],S I 0]) (by simp[results,Tryz.results72,go_sem,v0,v1,v2,v3,v4,v5]) rfl ⟨C,cp,rfl,hrV,hC,fun a ha=>nT (by omega) (hCb a ha),hbV⟩
    ·have hfin:Hid (dF t key=E∧ch t key=aH):=⟨hmD.out,hmZ.out hE0⟩
     have hEb:(E != 0)=true:=by simpa using hE0
     clear hE0
     have hV:=(hz3.set (S I 0) (S I 0) (S I 0) (S I 0) (O none 0 0) (O none 0 0)).gr ((gR _).alloc (Z #[S I F.c0,S I F.c1,S I F.c2,S I F.c3,O C F.l.length cp] 39))
     have hbV:=(aj hbw3.out (B:=w.heap.size+1+1) (by omega) (S I 0) (S I 0) (S I 0) (S I 0) (O none 0 0) (O none 0 0)).alloc (by simp;omega) (Z #[S I F.c0,S I F.c1,S I F.c2,S I F.c3,O C F.l.length cp] 39)
     have hVH:Hid _:=hV
     have hbVH:Hid _:=hbV
     clear hV hbV
     go_wp2
     obtain ⟨v0,v1,v2,v3,v4,v5,vf,vlt⟩:=(show Six _ _ _ _ _ _ _ _ from hVH.out)
     have hbV:=hbVH.out
     rw[hfin.out.1,hfin.out.2]
     generalize World.alloc _ _=V at v0 v1 v2 v3 v4 v5 hbV ⊢
     exact bodyPost_ret (v:= X #[H #[S I 0,S I 0,S I 0,S I 0,O none 0 0,O none 0 0],S I E]) (by simp[results,Tryz.results72,go_sem,v0,v1,v2,v3,v4,v5]) rfl ⟨none,0,rfl,oL rfl,fun _=>rfl,(fun x hx=>by cases hx),hbV⟩
 ·have hfin:Hid (dF t key=am t∧ch t key=aH):=by
   have h1:dF t key=am t:=by simp[dF,he]
   exact ⟨h1,by simp[ch,h1,he]⟩
  have heb:(am t != 0)=true:=by simpa using he
  clear he
  go_wp2
  rw[hfin.out.1,hfin.out.2]
  exact bodyPost_ret (v:= X #[H #[S I 0,S I 0,S I 0,S I 0,O none 0 0,O none 0 0],S I (am t)]) (by simp[results,Tryz.results72,go_sem,z0,z1,z2,z3,z4,z5]) rfl ⟨none,0,rfl,oL rfl,fun _=>rfl,(fun x hx=>by cases hx),aj hgw1.below (by omega) _ _ _ _ _ _⟩

end Go.Proofs.YtkefkplnamkicabGreatDoor
