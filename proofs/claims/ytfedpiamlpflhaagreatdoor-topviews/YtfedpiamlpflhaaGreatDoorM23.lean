/-
  slices.BinarySearchFunc at cells, with table.order.
  viewref.SameContext: whether two contexts are the same.
  slices.Equal at cells; viewref.SameTable: whether two tables are the same.
  table.clash: has a cell of one list the dot of one of the other, and is another one?
  Cells in memory of the call's own, and what append makes of them.
  slices.SortFunc at cells: by their dots.
-/
import Derived.ChangeKeysEq
import Derived.Test.YtfedpiamlpflhaaGreatDoorM04
set_option maxRecDepth 100000
set_option maxHeartbeats 8000000
open Go.IntKind renaming i64 → I
open Go.Obj renaming cells → J
open Go.Proofs.Tryz renaming prog → S
open Go.Value renaming int → V, slice → O, agg → Z, pointer → H, bool → Y, tuple → X
namespace Go.Proofs.YtfedpiamlpflhaaGreatDoor
open Go.RowKit Go.Sort

theorem j9 (x y:Int×Int):bq x y=true↔x.1<y.1∨(x.1=y.1∧x.2<y.2):=by simp[bq]
theorem fP {x y z:Int×Int} (h:bq x y=true) (k:bq y z=true):bq x z=true:=by rw[j9] at *;omega
theorem ow (x:Int×Int):bq x x=false:=by simp[bq]
theorem gQ {x y:Int×Int} (h:bq x y=true):x≠y:=by rintro rfl;rw[ow] at h;cases h
theorem mU (x y:Int×Int):dQ x y=0↔x=y:=by
 obtain ⟨a,b⟩:=x
 obtain ⟨c,d⟩:=y
 unfold dQ bj
 simp only[Prod.mk.injEq]
 constructor
 ·intro h
  by_cases h1:a<c
  ·simp[h1] at h
  ·by_cases h2:c<a
   ·simp[h1,h2] at h
   ·by_cases h3:b<d
    ·simp[h1,h2,h3] at h
    ·by_cases h4:d<b
     ·simp[h1,h2,h3,h4] at h
     ·omega
 ·rintro ⟨rfl,rfl⟩;simp
theorem CelAt.G {w:World} {B:Nat} {x:Cel} (h:CelAt w B x):(∀n os,(grow (w.drewN n) os).cell? ⟨B,0,none⟩=some (V I x.1.1))∧(∀n os,(grow (w.drewN n) os).cell? ⟨B,1,none⟩=some (V I x.1.2))∧(∀n os,(grow (w.drewN n) os).cell? ⟨B,2,none⟩=some (V I x.2.1))∧(∀n os,(grow (w.drewN n) os).cell? ⟨B,3,none⟩=some (V I x.2.2.1))∧(∀n os,(grow (w.drewN n) os).cell? ⟨B,4,none⟩=some (V I x.2.2.2)) :=
 ⟨cell_grown (a:=⟨B,0,none⟩) h.lt h.k0,cell_grown (a:=⟨B,1,none⟩) h.lt h.k1,cell_grown (a:=⟨B,2,none⟩) h.lt h.k2,cell_grown (a:=⟨B,3,none⟩) h.lt h.k3,cell_grown (a:=⟨B,4,none⟩) h.lt h.k4⟩

def Asc (l:List Cel):Prop:=l.Pairwise fun x y=>bq x.1 y.1=true
def gt (l:List Cel) (d:Int×Int):Bool:=l.any fun y=>decide (y.1=d)

theorem uN {l:List Cel} {d:Int×Int} {a:Nat} (hs:Asc l) (h1:∀k (h:k<l.length),k<a→bq l[k].1 d=true) (h2:∀k (h:k<l.length),a≤k→bq l[k].1 d=false) :
  gt l d=decide (∃h:a<l.length,l[a].1=d):=by
 by_cases hm:∃h:a<l.length,l[a].1=d
 ·rw[decide_eq_true hm]
  obtain ⟨h,e⟩:=hm
  unfold gt
  rw[List.any_eq_true]
  exact ⟨l[a],gM h,by simpa using e⟩
 ·rw[decide_eq_false hm]
  unfold gt
  rw[List.any_eq_false]
  intro y hy he
  have he':y.1=d:=by simpa using he
  obtain ⟨k,hk,rfl⟩:=List.getElem_of_mem hy
  by_cases hka:k<a
  ·exact gQ (h1 k hk hka) he'
  ·by_cases e:k=a
   ·subst e;exact hm ⟨hk,he'⟩
   ·have h3:=(List.pairwise_iff_getElem.1 hs) a k (by omega) hk (by omega)
    rw[he',h2 a (by omega) (Nat.le_refl _)] at h3
    cases h3

theorem jU (l:List Cel) (A:Option Addr) (cap:Nat) (x:Cel) (w:World) (hl:l.length≤400) (hr:bx w A l) (hs:Asc l) :
  Calls S 137 #[O A l.length cap,Z #[V I x.1.1,V I x.1.2,V I x.2.1,V I x.2.2.1,V I x.2.2.2],.func (.func 52) #[] #[]] w fun e w'=>∃i:Nat,e= .returned (X #[V I i,Y (gt l x.1)])∧(gt l x.1=true→∃h:i<l.length,l[i].1=x.1)∧Gr w w':=by
 have mixed:Tryz.prog.follows .mixedOrders=true:=by kernel_rfl
 have hx0:CelAt (w.alloc (J #[V I x.1.1,V I x.1.2,V I x.2.1,V I x.2.2.1,V I x.2.2.2] 125)) w.heap.size x:=CelAt.new x 125 rfl
 have hg0:Gr w (w.alloc (J #[V I x.1.1,V I x.1.2,V I x.2.1,V I x.2.2.1,V I x.2.2.2] 125)):=(gR w).alloc _
 have hsH:Hid (Asc l):=hs
 clear hs
 go_enter Tryz.func137,Tryz.ntmps137
 go_wp2
 generalize w.alloc (J #[V I x.1.1,V I x.1.2,V I x.2.1,V I x.2.2.1,V I x.2.2.2] 125)=w0 at hx0 hg0 ⊢
 go_loopw [9,10] (fun i j wr=>∃a b:Nat,a≤b∧b≤l.length∧i= V I a∧j= V I b∧Hid ((∀k (h:k<l.length),k<a→bq l[k].1 x.1=true)∧(∀k (h:k<l.length),b≤k→bq l[k].1 x.1=false))∧Gr w0 wr) (fun i j _=>(intOf j).toNat-(intOf i).toNat)
 case atStart=>exact ⟨0,l.length,by omega,by omega,rfl,rfl,⟨fun k _ h=>absurd h (Nat.not_lt_zero _),fun k h1 h2=>by omega⟩,gR _⟩
 case round =>
  obtain ⟨a,b,hab,hbl,rfl,rfl,hinv,hgr⟩:=hrel
  have hxR:=hx0.gr hgr
  obtain ⟨x0,x1,x2,x3,x4⟩:=hxR.G
  by_cases hlt:a<b
  ·have hltz:(a:Int)<(b:Int):=by omega
   obtain ⟨h,hh⟩:∃h,(a+b) / 2=h:=⟨_,rfl⟩
   have hha:a≤h:=by omega
   have hhb:h<b:=by omega
   have hhl:h<l.length:=by omega
   obtain ⟨bb,off,rfl,hb,hcs⟩:=bx.get (hr.gr (hg0.trans hgr)) hhl
   obtain ⟨y,hy⟩:∃y,l[h]=y:=⟨_,rfl⟩
   obtain ⟨e0,e1,e2,e3,e4⟩:=hcs h hhl
   rw[hy] at e0 e1 e2 e3 e4
   have q0:=cell_grown (a:=⟨bb,off+h*5,none⟩) hb e0
   have q1:=cell_grown (a:=⟨bb,off+h*5+1,none⟩) hb e1
   have q2:=cell_grown (a:=⟨bb,off+h*5+2,none⟩) hb e2
   have q3:=cell_grown (a:=⟨bb,off+h*5+3,none⟩) hb e3
   have q4:=cell_grown (a:=⟨bb,off+h*5+4,none⟩) hb e4
   clear e0 e1 e2 e3 e4
   have hyH:Hid (l[h]=y):=hy
   clear hcs hy
   have hz:((a:Int)+(b:Int)) / 2=(h:Int):=by omega
   have hhz:(h:Int)<(l.length:Int):=by omega
   have hhH:Hid ((a+b) / 2=h):=hh
   clear hh
   cases hbe:bq y.1 x.1
   ·have hge:=gH hbe
    have hgez:(decide (dQ y.1 x.1<0))=false:=decide_eq_false (by omega)
    go_wp2
    refine wp_region_quiet_grown mixed (by kernel_rfl) ?_
    repeat (go_big_quiet_step ((go_at_call 52;refine Calls.grown_of (fJ rfl _))))
    refine wpQuiet_nil ?_
    rintro _ ⟨⟨nq2,osq2⟩,rfl⟩
    go_wp2
    go_roundw
    case rel =>
     refine ⟨a,h,hha,by omega,rfl,rfl,⟨hinv.out.1,fun k hk hhk=> ?_⟩,hgr.trans ⟨nq2,osq2,rfl⟩⟩
     by_cases e:k=h
     ·subst e;rw[hyH.out];exact hbe
     ·have:=(List.pairwise_iff_getElem.1 hsH.out) h k hhl hk (by omega)
      rw[hyH.out] at this
      cases hk2:bq l[k].1 x.1
      ·rfl
      ·rw[fP this hk2] at hbe;cases hbe
    case measure=>simp[intOf];omega
   ·have hge:=gG hbe
    go_wp2
    refine wp_region_quiet_grown mixed (by kernel_rfl) ?_
    repeat (go_big_quiet_step ((go_at_call 52;refine Calls.grown_of (fJ hge _))))
    refine wpQuiet_nil ?_
    rintro _ ⟨⟨nq2,osq2⟩,rfl⟩
    go_wp2
    go_roundw
    case rel =>
     refine ⟨h+1,b,by omega,hbl,by go_num,rfl,⟨fun k hk hkh=> ?_,hinv.out.2⟩,hgr.trans ⟨nq2,osq2,rfl⟩⟩
     by_cases e:k=h
     ·subst e;rw[hyH.out];exact hbe
     ·have:=(List.pairwise_iff_getElem.1 hsH.out) k h hk hhl (by omega)
      rw[hyH.out] at this
      exact fP this hbe
    case measure=>simp[intOf];omega
  ·have hltz:¬(a:Int)<(b:Int):=by omega
   obtain rfl:a=b:=by omega
   have hme:=uN hsH.out hinv.out.1 hinv.out.2
   have hwR:Gr w wr:=hg0.trans hgr
   clear hlt
   by_cases hal:a<l.length
   ·have halz:(a:Int)<(l.length:Int):=by omega
    obtain ⟨bb,off,rfl,hb,hcs⟩:=bx.get (hr.gr hwR) hal
    obtain ⟨y,hy⟩:∃y,l[a]=y:=⟨_,rfl⟩
    obtain ⟨e0,e1,e2,e3,e4⟩:=hcs a hal
    rw[hy] at e0 e1 e2 e3 e4
    have q0:=cell_grown (a:=⟨bb,off+a*5,none⟩) hb e0
    have q1:=cell_grown (a:=⟨bb,off+a*5+1,none⟩) hb e1
    have q2:=cell_grown (a:=⟨bb,off+a*5+2,none⟩) hb e2
    have q3:=cell_grown (a:=⟨bb,off+a*5+3,none⟩) hb e3
    have q4:=cell_grown (a:=⟨bb,off+a*5+4,none⟩) hb e4
    clear e0 e1 e2 e3 e4
    have hyH:Hid (l[a]=y):=hy
    clear hcs
    by_cases hq:y.1=x.1
    ·have hoz:=(mU y.1 x.1).2 hq
     have hfin:Hid (gt l x.1=true∧∃h:a<l.length,l[a].1=x.1):=by
      have hex:∃h:a<l.length,l[a].1=x.1:=⟨hal,by rw[hy];exact hq⟩
      exact ⟨by rw[hme];exact decide_eq_true hex,hex⟩
     clear hme hq hy
     go_wp2
     refine wp_region_quiet_grown mixed (by kernel_rfl) ?_
     repeat (go_big_quiet_step ((go_at_call 52;refine Calls.grown_of (fJ hoz _))))
     refine wpQuiet_nil ?_
     rintro _ ⟨⟨nq2,osq2⟩,rfl⟩
     go_wp2
     go_ret2
     rw[hfin.out.1]
     exact ⟨a,rfl,fun _=>hfin.out.2,hwR.trans ⟨nq2,osq2,rfl⟩⟩
    ·have hoz:(dQ y.1 x.1==0)=false:=beq_eq_false_iff_ne.2 (fun h=>hq ((mU y.1 x.1).1 h))
     have hfin:Hid (gt l x.1=false):=by
      show gt l x.1=false
      rw[hme]
      refine decide_eq_false ?_
      rintro ⟨_,h⟩
      rw[hy] at h
      exact hq h
     clear hme hq hy
     go_wp2
     refine wp_region_quiet_grown mixed (by kernel_rfl) ?_
     repeat (go_big_quiet_step ((go_at_call 52;refine Calls.grown_of (fJ rfl _))))
     refine wpQuiet_nil ?_
     rintro _ ⟨⟨nq2,osq2⟩,rfl⟩
     go_wp2
     go_ret2
     rw[hfin.out]
     exact ⟨a,rfl,(fun h=>by cases h),hwR.trans ⟨nq2,osq2,rfl⟩⟩
   ·have halz:¬(a:Int)<(l.length:Int):=by omega
    have hfin:Hid (gt l x.1=false):=by
     show gt l x.1=false
     rw[hme]
     refine decide_eq_false ?_
     rintro ⟨h,_⟩
     exact hal h
    clear hme
    go_wp2
    refine wp_region_quiet_grown mixed (by kernel_rfl) ?_
    repeat (go_big_quiet_step (fail))
    refine wpQuiet_nil ?_
    rintro _ ⟨⟨nq2,osq2⟩,rfl⟩
    go_wp2
    go_ret2
    rw[hfin.out]
    exact ⟨a,rfl,(fun h=>by cases h),hwR.trans ⟨nq2,osq2,rfl⟩⟩



def iv (x y:Cel):Bool:=decide (x=y)
theorem mv {x y:Cel}:iv x y=true↔x=y:=by simp[iv]

theorem wK (a b c d:Int) (w:World):(Op.equalIn 9999 123 (Z #[V I a,V I b]) (Z #[V I c,V I d])).run S w= .ok (a==c && b==d) w:=by
 have u3:=Tryz.underlying3
 have a3:=Tryz.isAgg3
 have z3:=Tryz.sizeOf3
 have hS:Tryz.prog.underlying 123=some (.struct (Tryz.prog.fieldsOf 123)):=by kernel_rfl
 have hp:Tryz.prog.stoodInHeld 123=false:=by kernel_rfl
 rw[show (9999:Nat)=9998+1 from rfl,run_equalIn_agg w 9998 123 _ _ hS hp]
 simp only[Program.fieldsOf,Tryz.underlying123]
 go_simp
 by_cases h1:a=c<;>by_cases h2:b=d<;>simp[h1,h2]

theorem wJ (x y:Cel) (w:World):(Op.equalIn 10000 125 (Z #[V I x.1.1,V I x.1.2,V I x.2.1,V I x.2.2.1,V I x.2.2.2]) (Z #[V I y.1.1,V I y.1.2,V I y.2.1,V I y.2.2.1,V I y.2.2.2])).run S w= .ok (iv x y) w:=by
 obtain ⟨⟨a0,a1⟩,a2,a3,a4⟩:=x
 obtain ⟨⟨b0,b1⟩,b2,b3,b4⟩:=y
 have u3:=Tryz.underlying3
 have g3:=Tryz.isAgg3
 have z3:=Tryz.sizeOf3
 have c2:Tryz.prog.cellsOf 123=2:=by kernel_rfl
 have c1:Tryz.prog.cellsOf 3=1:=by kernel_rfl
 have gD:=Tryz.isAgg123
 have zD:=Tryz.sizeOf123
 have hd:=wK
 have hS:Tryz.prog.underlying 125=some (.struct (Tryz.prog.fieldsOf 125)):=by kernel_rfl
 have hp:Tryz.prog.stoodInHeld 125=false:=by kernel_rfl
 rw[show (10000:Nat)=9999+1 from rfl,run_equalIn_agg w 9999 125 _ _ hS hp]
 simp only[Program.fieldsOf,Tryz.underlying125]
 clear hS hp
 go_simp
 by_cases h0:a0=b0<;>by_cases h1:a1=b1<;>by_cases h2:a2=b2<;>by_cases h3:a3=b3<;>by_cases h4:a4=b4<;>simp[iv,h0,h1,h2,h3,h4]

theorem yu (x y:Cel) (w:World):(binOp .neq 125 (Z #[V I x.1.1,V I x.1.2,V I x.2.1,V I x.2.2.1,V I x.2.2.2]) (Z #[V I y.1.1,V I y.1.2,V I y.2.1,V I y.2.2.1,V I y.2.2.2])).run S w= .ok (Y (!iv x y)) w:=by
 rw[run_neq_struct,wJ];rfl
theorem uy (op:BinOp) (p q:Operand) (x y:Cel) (w:World):(eqGuard op 125 p q (Z #[V I x.1.1,V I x.1.2,V I x.2.1,V I x.2.2.1,V I x.2.2.2]) (Z #[V I y.1.1,V I y.1.2,V I y.2.1,V I y.2.2.1,V I y.2.2.2])).run S w= .ok () w :=
 run_eqGuard_agg w op 125 p q _ _ (by kernel_rfl)


def clP (l:List Cel) (x:Cel):Bool:=l.any fun y=>decide (y.1=x.1) && !iv y x

theorem tL {l:List Cel} (hs:Asc l) {i j:Nat} (hi:i<l.length) (hj:j<l.length) (h:l[i].1=l[j].1):i=j:=by
 rcases Nat.lt_trichotomy i j with h1|h1|h1
 ·have:=(List.pairwise_iff_getElem.1 hs) i j hi hj h1
  exact absurd h (gQ this)
 ·exact h1
 ·have:=(List.pairwise_iff_getElem.1 hs) j i hj hi h1
  exact absurd h.symm (gQ this)
theorem yd {l:List Cel} {x:Cel} (hs:Asc l) {i:Nat} (hi:i<l.length) (h:l[i].1=x.1):clP l x= !iv l[i] x:=by
 cases hq:iv l[i] x
 ·unfold clP
  show _=true
  rw[List.any_eq_true]
  exact ⟨l[i],gM hi,by rw[hq];simpa using h⟩
 ·unfold clP
  show _=false
  rw[List.any_eq_false]
  intro y hy
  obtain ⟨j,hj,rfl⟩:=List.getElem_of_mem hy
  by_cases hd:l[j].1=x.1
  ·obtain rfl:=tL hs hi hj (h.trans hd.symm)
   rw[hq];simp
  ·simp[hd]
theorem tW {l:List Cel} {x:Cel} (h:gt l x.1=false):clP l x=false:=by
 unfold gt at h
 rw[List.any_eq_false] at h
 unfold clP
 rw[List.any_eq_false]
 intro y hy
 have:=h y hy
 simp at this ⊢
 intro he
 exact absurd he this

theorem pW (l:List Cel) (B:Option Addr) (cb:Nat) (p:Nat) (x:Cel) (w:World) (hl:l.length≤400) (hp:p<w.heap.size) (kp:w.cell? ⟨p,0,none⟩=some (O B l.length cb)) (hr:bx w B l) (hs:Asc l) :
  Calls S 136 #[Z #[V I x.1.1,V I x.1.2,V I x.2.1,V I x.2.2.1,V I x.2.2.2],H (some ⟨p,0,none⟩)] w fun e w'=>e= .returned (Y (clP l x))∧Gr w w':=by
 have mixed:Tryz.prog.follows .mixedOrders=true:=by kernel_rfl
 have hx0:CelAt (w.alloc (J #[V I x.1.1,V I x.1.2,V I x.2.1,V I x.2.2.1,V I x.2.2.2] 125)) w.heap.size x:=CelAt.new x 125 rfl
 have hg0:Gr w (w.alloc (J #[V I x.1.1,V I x.1.2,V I x.2.1,V I x.2.2.1,V I x.2.2.2] 125)):=(gR w).alloc _
 go_enter Tryz.func136,Tryz.ntmps136
 go_wp2_with fail
 refine (jU l B cb x _ hl (hr.gr hg0) hs).mono ?_
 rintro e w1 ⟨i,rfl,hf,hg1⟩
 have hgW:Gr w w1:=hg0.trans hg1
 have kp1:w1.cell? ⟨p,0,none⟩=some (O B l.length cb):=(hgW.cell (p:=⟨p,0,none⟩) hp).trans kp
 have hp1:p<w1.heap.size:=nL hp hgW.size
 have hx1:=hx0.gr hg1
 have hr1:=hr.gr hgW
 clear hx0 hg0 hg1 kp hr
 cases hm:gt l x.1
 ·have hfin:Hid (clP l x=false):=tW hm
  clear hf
  go_wp2
  refine wp_region_quiet_grown mixed (by kernel_rfl) ?_
  repeat (go_big_quiet_step (fail))
  refine wpQuiet_nil ?_
  rintro _ ⟨⟨nq2,osq2⟩,rfl⟩
  go_wp2
  go_ret
  rw[hfin.out]
  exact ⟨rfl,hgW.trans ⟨nq2,osq2,rfl⟩⟩
 ·obtain ⟨hi,hd⟩:=hf hm
  have hfin:Hid (clP l x= !iv l[i] x):=yd hs hi hd
  have hiz:(i:Int)<(l.length:Int):=by omega
  obtain ⟨bb,off,rfl,hb,hcs⟩:=bx.get hr1 hi
  obtain ⟨y,hy⟩:∃y,l[i]=y:=⟨_,rfl⟩
  obtain ⟨e0,e1,e2,e3,e4⟩:=hcs i hi
  rw[hy] at e0 e1 e2 e3 e4 hfin
  have q0:=cell_grown (a:=⟨bb,off+i*5,none⟩) hb e0
  have q1:=cell_grown (a:=⟨bb,off+i*5+1,none⟩) hb e1
  have q2:=cell_grown (a:=⟨bb,off+i*5+2,none⟩) hb e2
  have q3:=cell_grown (a:=⟨bb,off+i*5+3,none⟩) hb e3
  have q4:=cell_grown (a:=⟨bb,off+i*5+4,none⟩) hb e4
  have kG:=cell_grown (a:=⟨p,0,none⟩) hp1 kp1
  obtain ⟨x0,x1,x2,x3,x4⟩:=hx1.G
  have hE:=yu
  have hG:=uy
  clear e0 e1 e2 e3 e4 hcs hf hd hy hs
  go_wp2
  refine wp_region_quiet_grown mixed (by kernel_rfl) ?_
  repeat (go_big_quiet_step (fail))
  refine wpQuiet_nil ?_
  rintro _ ⟨⟨nq2,osq2⟩,rfl⟩
  go_wp2
  go_ret
  rw[hfin.out]
  exact ⟨rfl,hgW.trans ⟨nq2,osq2,rfl⟩⟩

theorem s8 (a b:List Cel) (A B:Option Addr) (ca cb:Nat) (w:World) (hal:a.length≤400) (hbl:b.length≤400) (hra:bx w A a) (hrb:bx w B b) (hs:Asc b) :
  Calls S 91 #[O A a.length ca,O B b.length cb] w fun e w'=>e= .returned (Y (a.any (clP b)))∧Gr w w':=by
 have hg0:Gr w (w.alloc (J #[O B b.length cb] 41)):=(gR w).alloc _
 have k0:(w.alloc (J #[O B b.length cb] 41)).cell? ⟨w.heap.size,0,none⟩=some (O B b.length cb):=aa (gR _) rfl
 have hlt0:w.heap.size<(w.alloc (J #[O B b.length cb] 41)).heap.size:=by simp
 have hpr:rh 136 #[H (some ⟨w.heap.size,0,none⟩)] (clP b) (w.alloc (J #[O B b.length cb] 41)):=fun W hg x =>
  pW b B cb w.heap.size x W hbl (nL hlt0 hg.size) ((hg.cell (p:=⟨w.heap.size,0,none⟩) hlt0).trans k0) (hrb.gr (hg0.trans hg)) hs
 have hc:=fa (clP b) 136 #[H (some ⟨w.heap.size,0,none⟩)] (enters_of Tryz.func136 (by kernel_rfl) rfl) a A ca _ (by unfold maxLen;omega) (hra.gr hg0) hpr
 have hcH:Hid _:=hc
 clear hc hpr
 go_enter Tryz.func91,Tryz.ntmps91
 go_wp2_with fail
 refine cM (show Calls _ _ _ _ _ from hcH.out) ?_
 rintro e w1 ⟨rfl,hg1⟩
 go_wp2
 go_ret
 exact ⟨rfl,hg0.trans hg1⟩


abbrev dt (w:World) (base:Nat) (v:Value) (l:List Cel):Prop:=ag gq 5 125 w base v l
theorem Tryz.infoC:(Tryz.prog.info? 125).map (fun i=>(i.zero,i.size,i.bytes))=some (some (Z #[V I 0,V I 0,V I 0,V I 0,V I 0]),5,40):=by kernel_rfl

theorem jo {W:World} {n:Nat} (hn:W.heap.size=n) (x:Cel) (T:TypeId):bx (W.alloc (J #[V I x.1.1,V I x.1.2,V I x.2.1,V I x.2.2.1,V I x.2.2.2] T)) (some ⟨n,0,none⟩) [x]:=by
 subst hn
 refine oR ⟨W.heap.size,0,rfl,by simp,fun j hj i hi=> ?_⟩
 obtain rfl:j=0:=by simp at hj;omega
 match i,hi with
 | 0,_=>exact aa (w:=W) (gR _) (j:=0) rfl
 | 1,_=>exact aa (w:=W) (gR _) (j:=1) rfl
 | 2,_=>exact aa (w:=W) (gR _) (j:=2) rfl
 | 3,_=>exact aa (w:=W) (gR _) (j:=3) rfl
 | 4,_=>exact aa (w:=W) (gR _) (j:=4) rfl

theorem dx (w:World) {ops:Array Oper} {rest:List Oper} {o:Oper} {a:Act} {Q:Exit→Act→World→Prop} (hgd:o.guard=none) (s x:Operand)
  (ho:o.op= .call { callee:= .builtin .append,args:= #[s,x],argTypes:= #[41,41] })
  (base:Nat) (v:Value) (l m:List Cel) (A:Option Addr) (cap:Nat) (hs:a.eval s=v) (hx:a.eval x= O A m.length cap) (hown:dt w base v l) (hr:bx w A m) (hA:A=none→cap=0)
  (hml:l.length+m.length≤maxLen) (hb:(l.length+m.length)*40≤140737488355328) (hbase:base≤w.heap.size)
  (h:∀v' w',dt w' base v' (l++m)→w.grownBy w' v.ownBlock→wpList S ops Q rest (a.put o.dst v') w'):wpList S ops Q (o::rest) a w :=
 wpList_plain hgd fun _ hK=>eE dv kQ (by omega) 41 Tryz.underlying41 (Z #[V I 0,V I 0,V I 0,V I 0,V I 0]) 40 Tryz.infoC rfl w s x ho base v l m A cap hs hx hown hr hA hml hb hbase fun v' w' h2 h3=>hK _ _ (h v' w' h2 h3)

theorem gz {p:Cel→Bool} {l:List Cel} {k:Nat} (h:k<l.length) {x:Cel} (hx:l[k]=x):(l.take (k+1)).filter p=(l.take k).filter p++(if p x then [x] else []):=by
 rw[List.take_succ_eq_append_getElem h,List.filter_append,hx]
 cases hq:p x<;>simp[hq]
theorem mE (p:Cel→Bool) (l:List Cel) (k:Nat):((l.take k).filter p).length≤l.length:=nT (List.length_filter_le _ _) (by rw[List.length_take];omega)

section
open Go.Shelf Go.Lib

def ri (l:List Cel):Prop:=∀x∈l,∀y∈l,x.1=y.1→x=y
def fl (x y:Cel):Bool:=bq x.1 y.1
def gg (l:List Cel):List Cel:=l.mergeSort fun x y=> !fl y x

theorem ov (x y:Cel):fl x y=true↔x.1.1<y.1.1∨(x.1.1=y.1.1∧x.1.2<y.1.2):=j9 _ _
theorem j8 (x y:Cel):fl x y=false↔y.1.1<x.1.1∨(x.1.1=y.1.1∧y.1.2≤x.1.2):=by
 simp[fl,bq];omega
theorem A4 {cf:Cel→Cel→Int} (hcf:∀x y,ltOf cf x y=fl x y):SWO (ltOf cf) where
 irrefl x:=by rw[hcf];simp[fl,bq]
 trans x y z h1 h2:=by rw[hcf,ov] at *;omega
 ntrans x y z h1 h2:=by rw[hcf,j8] at *;omega
theorem gN (l:List Cel):(gg l).length=l.length:=by simp[gg]
theorem ii (l:List Cel):(gg l).Perm l:=List.mergeSort_perm _ _
theorem nv (l:List Cel):(gg l).Pairwise fun x y=>(!fl y x)=true:=by
 refine List.pairwise_mergeSort ?_ ?_ _
 ·intro a b c h1 h2
  simp only[Bool.not_eq_true',j8] at h1 h2 ⊢
  omega
 ·intro a b
  cases h:fl b a
  ·simp
  ·have:fl a b=false:=by rw[j8];rw[ov] at h;omega
   simp[this]
theorem rr {x y:Cel} (h1:(!fl y x)=true) (h2:(!fl x y)=true):x.1=y.1:=by
 simp only[Bool.not_eq_true',j8] at h1 h2
 exact Prod.ext (by omega) (by omega)
theorem xy {l m:List Cel} (hu:ri l) (hp:m.Perm l) (hs:m.Pairwise fun x y=>(!fl y x)=true):m=gg l:=by
 refine List.Perm.eq_of_pairwise (le:=fun x y=>(!fl y x)=true) ?_ hs (nv l) (hp.trans (ii l).symm)
 intro a b ha hb h1 h2
 exact hu a (hp.mem_iff.1 ha) b ((ii l).mem_iff.1 hb) (rr h1 h2)
theorem vC {l:List Cel} (hn:(l.map (·.1)).Nodup):Asc (gg l):=by
 have h1:=nv l
 have h2:((gg l).map (·.1)).Nodup:=((ii l).map (·.1)).nodup_iff.2 hn
 have h3:(gg l).Pairwise fun x y=>x.1≠y.1:=List.pairwise_map.1 h2
 unfold Asc
 refine (h1.and h3).imp ?_
 intro x y ⟨h4,h5⟩
 cases h6:bq x.1 y.1
 ·exfalso
  refine h5 (rr h4 ?_)
  show (!bq x.1 y.1)=true
  rw[h6];rfl
 ·rfl

theorem yl {w:World} {g:Nat} {l:List Cel} (h:bx w (some ⟨g,0,none⟩) l) (hf:∀j,w.frozen? ⟨g,j,none⟩=false):HoldsK gq 5 w g 0 l.toArray:=by
 intro t ht
 rw[size_flatK] at ht
 rw[get_flatK _ _ _ t ht]
 simp only[List.size_toArray] at ht
 have hk:t / 5<l.length:=by omega
 refine ⟨?_,hf _⟩
 obtain ⟨b,off,hA,hb,hc⟩:=h.at hk
 obtain ⟨rfl,rfl⟩:g=b∧0=off:=by injection hA with hA;injection hA with h1 h2;exact ⟨h1,h2⟩
 have e:l.toArray[t / 5]! = l[t / 5]:=by simp[hk]
 rw[e]
 have:=hc (t / 5) hk (t % 5) (Nat.mod_lt _ (by omega))
 rw[show 0+t / 5*5+t % 5=0+t from by omega] at this
 rw[this]
 have hm:t % 5<5:=Nat.mod_lt _ (by omega)
 match t % 5,hm with
 | 0,_=>rfl
 | 1,_=>rfl
 | 2,_=>rfl
 | 3,_=>rfl
 | 4,_=>rfl

theorem zo {w:World} {g:Nat} {l:List Cel} (h:HoldsK gq 5 w g 0 l.toArray) (hg:g<w.heap.size):bx w (some ⟨g,0,none⟩) l:=by
 refine oR ⟨g,0,rfl,hg,fun j hj i hi=> ?_⟩
 have h0:=(h (j*5+i) (by rw[size_flatK];simp;omega)).1
 rw[get_flatK _ _ _ _ (by simp;omega)] at h0
 rw[show (j*5+i) / 5=j from by omega,show (j*5+i) % 5=i from by omega] at h0
 have e:l.toArray[j]! = l[j]:=by simp[hj]
 rw[e] at h0
 rw[show 0+j*5+i=0+(j*5+i) from by omega,h0]
 match i,hi with
 | 0,_=>rfl
 | 1,_=>rfl
 | 2,_=>rfl
 | 3,_=>rfl
 | 4,_=>rfl

theorem ox {w:World} {g n base:Nat} {os:Array Obj} {d:Array Cel} (hb:base≤g) (hs:base≤w.heap.size):Go.RowKit.Below base w (sortWorldK gq 5 w g 0 n d os):=by
 refine ⟨rfl,rfl,rfl,by simp[sortWorldK,grow,putRowK],fun k hk=> ?_⟩
 show ((putRowK gq 5 (Sort.ahead w n) g 0 d).heap++os)[k]? = _
 rw[Array.getElem?_append_left (by simp[putRowK];omega)]
 show ((Sort.ahead w n).heap.modify g _)[k]? = _
 rw[Array.getElem?_modify,if_neg (by omega)]
 rfl

theorem yH {cf:Cel→Cel→Int} (hcf:∀x y,ltOf cf x y=fl x y) (fid:Nat) (cb:Array Value) (eg:∀args w,(callFunc fid args).run S w= .ok (.enter fid args) w) (g cap:Nat) (l:List Cel) (w:World) (hcmp:CmpLays S fid cb gq 5 cf g 0 l.length w) (hu:ri l) (hH:HoldsK gq 5 w g 0 l.toArray) (hg:g<w.heap.size) (hsz:l.length<4611686018427387904) :
  Calls S 141 #[O (some ⟨g,0,none⟩) l.length cap,.func (.func fid) #[] cb] w fun e w'=>e= .returned (X #[])∧bx w' (some ⟨g,0,none⟩) (gg l)∧∀base,base≤g→base≤w.heap.size→Go.RowKit.Below base w w':=by
 have hcon:=AnyQ.slices_SortFunc Tryz.sortCell 5 Tryz.isAgg125 Tryz.sizeOf125 gq (fun _=>rfl) kQ cf (A4 hcf) fid cb g 0 cap l.toArray w eg (by simpa using hcmp) hH hg (by simpa using hsz)
 change Calls S 141 _ _ _ at hcon
 simp only[List.size_toArray] at hcon
 refine hcon.mono ?_
 rintro e w' ⟨he,d',n,os,hp,hs,hw⟩
 obtain ⟨hsz',_,hperm⟩:=hp
 simp only[List.size_toArray] at hsz'
 have e1:d'.extract 0 l.length=d':=by rw[←hsz'];exact Array.extract_size
 have e2:(l.toArray.extract 0 l.length).toList=l:=by simp
 rw[e1,e2] at hperm
 have hpw:d'.toList.Pairwise fun x y=>(!fl y x)=true:=by
  rw[List.pairwise_iff_getElem]
  intro i j hi hj hij
  have hi':i<d'.size:=by simpa using hi
  have hj':j<d'.size:=by simpa using hj
  have:=hs i j (nZ _) hij (by omega)
  rw[getElem!_pos d' j hj',getElem!_pos d' i hi',hcf] at this
  simpa using this
 have hd:d'=(gg l).toArray:=by
  have:=xy hu hperm hpw
  rw[←this]
 subst hd
 refine ⟨he,?_,fun base h1 h2=>by rw[hw];exact ox h1 h2⟩
 have hH':HoldsK gq 5 w' g 0 (gg l).toArray:=by
  rw[hw]
  refine holdsK_grow _ _ _ _ _ _ _ (by simp[putRowK];exact hg) ?_
  exact holdsK_putRowK _ _ _ _ _ l.toArray _ (holdsK_ahead _ _ _ _ _ _ _ hH) (by simp[gN])
 refine zo hH' ?_
 rw[hw]
 simp[sortWorldK,grow,putRowK]
 omega

theorem vA {cf:Cel→Cel→Int} (hcf:∀x y,ltOf cf x y=fl x y) (fid:Nat) (cb:Array Value) (eg:∀args w,(callFunc fid args).run S w= .ok (.enter fid args) w) (base:Nat) (v:Value) (l:List Cel) (w:World) (hcmp:∀g,CmpLays S fid cb gq 5 cf g 0 l.length w) (hu:ri l) (hown:dt w base v l) (hb:base≤w.heap.size) (hsz:l.length<4611686018427387904) :
  Calls S 141 #[v,.func (.func fid) #[] cb] w fun e w'=>e= .returned (X #[])∧(∃C cap,v= O C (gg l).length cap∧bx w' C (gg l)∧(C=none→cap=0)∧∀a,C=some a→base≤a.block)∧Go.RowKit.Below base w w':=by
 obtain ⟨A,cap,rfl,hA,hrow,hcap,hlt,hfz⟩:=ag.full dv hown
 by_cases h0:l=[]
 ·subst h0
  have hcon:=AnyF.slices_SortFunc_none Tryz.sortCell A cap (.func (.func fid) #[] cb) w
  change Calls S 141 _ _ _ at hcon
  refine hcon.mono ?_
  rintro e w' ⟨he,rfl⟩
  exact ⟨he,⟨A,cap,by simp[gg],oL (by simp[gg]),hA,fun a ha=>(hlt a ha).1⟩,bR _ _⟩
 ·have hpos:0<l.length:=List.length_pos_iff.2 h0
  obtain ⟨b,off,hAe,hbb,_⟩:=hrow.at hpos
  subst hAe
  have h5:=hlt _ rfl
  obtain rfl:off=0:=h5.2.2.1
  refine (yH hcf fid cb eg b cap l w (hcmp b) hu (yl hrow (hfz _ rfl)) hbb hsz).mono ?_
  rintro e w' ⟨he,hr',hbel⟩
  refine ⟨he,⟨_,cap,by rw[gN],hr',hA,fun a ha=>(hlt a ha).1⟩,hbel base h5.1 hb⟩

theorem yY (x y:Cel):ltOf (fun x y:Cel=>dQ x.1 y.1) x y=fl x y:=by
 unfold ltOf fl
 cases h:bq x.1 y.1
 ·have:=gH h
  simp;omega
 ·simp[gG h]
theorem ye (blk off size:Nat) (w:World):CmpLays S 52 #[] gq 5 (fun x y:Cel=>dQ x.1 y.1) blk off size w :=
 fun _ _ _ _ x y=>lz x y _

end
end Go.Proofs.YtfedpiamlpflhaaGreatDoor
