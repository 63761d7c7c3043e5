/-
  slices.BinarySearchFunc at cells, with table.order.
  viewref.SameContext: whether two contexts are the same.
  slices.Equal at cells; viewref.SameTable: whether two tables are the same.
  table.clash: has a cell of one list the dot of one of the other, and is another one?
  Cells in memory of the call's own, and what append makes of them.
  slices.SortFunc at cells: by their dots.
-/
import Derived.ChangeKeysEq
import Derived.Test.YtkefkplnamkicaaGreatDoorM04
set_option maxRecDepth 100000
set_option maxHeartbeats 8000000
open Go.Ending renaming returned → Z
open Go.IntKind renaming i64 → I
open Go.Obj renaming cells → J
open Go.Proofs.Tryz renaming prog → S
open Go.Value renaming int → V, slice → O, agg → H, bool → Y, pointer → X, tuple → U
namespace Go.Proofs.YtkefkplnamkicaaGreatDoor
open Go.RowKit Go.Sort

theorem jF (x y:Int×Int):bD x y=true↔x.1<y.1∨(x.1=y.1∧x.2<y.2):=by simp[bD]
theorem gt {x y z:Int×Int} (h:bD x y=true) (k:bD y z=true):bD x z=true:=by rw[jF] at *;omega
theorem qu (x:Int×Int):bD x x=false:=by simp[bD]
theorem iG {x y:Int×Int} (h:bD x y=true):x≠y:=by rintro rfl;rw[qu] at h;cases h
theorem oW (x y:Int×Int):eh x y=0↔x=y:=by
 obtain ⟨a,b⟩:=x
 obtain ⟨c,d⟩:=y
 unfold eh bv
 simp only[Prod.mk.injEq]
 constructor
 ·intro h
  by_cases h1:a<c
  ·simp[h1] at h
  ·by_cases h2:c<a
   ·simp[h1,h2] at h
   ·by_cases h3:b<d
    ·simp[h1,h2,h3] at h
    ·by_cases h4:d<b
     ·simp[h1,h2,h3,h4] at h
     ·omega
 ·rintro ⟨rfl,rfl⟩;simp
theorem CelAt.G {w:World} {B:Nat} {x:Cel} (h:CelAt w B x):(∀n os,(grow (w.drewN n) os).cell? ⟨B,0,none⟩=some (V I x.1.1))∧(∀n os,(grow (w.drewN n) os).cell? ⟨B,1,none⟩=some (V I x.1.2))∧(∀n os,(grow (w.drewN n) os).cell? ⟨B,2,none⟩=some (V I x.2.1))∧(∀n os,(grow (w.drewN n) os).cell? ⟨B,3,none⟩=some (V I x.2.2.1))∧(∀n os,(grow (w.drewN n) os).cell? ⟨B,4,none⟩=some (V I x.2.2.2)) :=
 ⟨cell_grown (a:=⟨B,0,none⟩) h.lt h.k0,cell_grown (a:=⟨B,1,none⟩) h.lt h.k1,cell_grown (a:=⟨B,2,none⟩) h.lt h.k2,cell_grown (a:=⟨B,3,none⟩) h.lt h.k3,cell_grown (a:=⟨B,4,none⟩) h.lt h.k4⟩

def Asc (l:List Cel):Prop:=l.Pairwise fun x y=>bD x.1 y.1=true
def gZ (l:List Cel) (d:Int×Int):Bool:=l.any fun y=>decide (y.1=d)

theorem xr {l:List Cel} {d:Int×Int} {a:Nat} (hs:Asc l) (h1:∀k (h:k<l.length),k<a→bD l[k].1 d=true) (h2:∀k (h:k<l.length),a≤k→bD l[k].1 d=false) :
  gZ l d=decide (∃h:a<l.length,l[a].1=d):=by
 by_cases hm:∃h:a<l.length,l[a].1=d
 ·rw[decide_eq_true hm]
  obtain ⟨h,e⟩:=hm
  unfold gZ
  rw[List.any_eq_true]
  exact ⟨l[a],gM h,by simpa using e⟩
 ·rw[decide_eq_false hm]
  unfold gZ
  rw[List.any_eq_false]
  intro y hy he
  have he':y.1=d:=by simpa using he
  obtain ⟨k,hk,rfl⟩:=List.getElem_of_mem hy
  by_cases hka:k<a
  ·exact iG (h1 k hk hka) he'
  ·by_cases e:k=a
   ·subst e;exact hm ⟨hk,he'⟩
   ·have h3:=(List.pairwise_iff_getElem.1 hs) a k (by omega) hk (by omega)
    rw[he',h2 a (by omega) (Nat.le_refl _)] at h3
    cases h3

theorem kU (l:List Cel) (A:Option Addr) (cap:Nat) (x:Cel) (w:World) (hl:l.length≤400) (hr:bw w A l) (hs:Asc l) :
  Calls S 161 #[O A l.length cap,H #[V I x.1.1,V I x.1.2,V I x.2.1,V I x.2.2.1,V I x.2.2.2],.func (.func 68) #[] #[]] w fun e w'=>∃i:Nat,e= Z (U #[V I i,Y (gZ l x.1)])∧(gZ l x.1=true→∃h:i<l.length,l[i].1=x.1)∧Gr w w':=by
 have mixed:Tryz.prog.follows .mixedOrders=true:=by kernel_rfl
 have hx0:CelAt (w.alloc (J #[V I x.1.1,V I x.1.2,V I x.2.1,V I x.2.2.1,V I x.2.2.2] 97)) w.heap.size x:=CelAt.new x 97 rfl
 have hg0:Gr w (w.alloc (J #[V I x.1.1,V I x.1.2,V I x.2.1,V I x.2.2.1,V I x.2.2.2] 97)):=(gR w).alloc _
 have hsH:Hid (Asc l):=hs
 clear hs
 go_enter Tryz.func161,Tryz.ntmps161
 go_wp2
 generalize w.alloc (J #[V I x.1.1,V I x.1.2,V I x.2.1,V I x.2.2.1,V I x.2.2.2] 97)=w0 at hx0 hg0 ⊢
 go_loopw [9,10] (fun i j wr=>∃a b:Nat,a≤b∧b≤l.length∧i= V I a∧j= V I b∧Hid ((∀k (h:k<l.length),k<a→bD l[k].1 x.1=true)∧(∀k (h:k<l.length),b≤k→bD l[k].1 x.1=false))∧Gr w0 wr) (fun i j _=>(intOf j).toNat-(intOf i).toNat)
 case atStart=>exact ⟨0,l.length,by omega,by omega,rfl,rfl,⟨fun k _ h=>absurd h (Nat.not_lt_zero _),fun k h1 h2=>by omega⟩,gR _⟩
 case round =>
  obtain ⟨a,b,hab,hbl,rfl,rfl,hinv,hgr⟩:=hrel
  have hxR:=hx0.gr hgr
  obtain ⟨x0,x1,x2,x3,x4⟩:=hxR.G
  by_cases hlt:a<b
  ·have hltz:(a:Int)<(b:Int):=by omega
   obtain ⟨h,hh⟩:∃h,(a+b) / 2=h:=⟨_,rfl⟩
   have hha:a≤h:=by omega
   have hhb:h<b:=by omega
   have hhl:h<l.length:=by omega
   obtain ⟨bb,off,rfl,hb,hcs⟩:=bw.get (hr.gr (hg0.trans hgr)) hhl
   obtain ⟨y,hy⟩:∃y,l[h]=y:=⟨_,rfl⟩
   obtain ⟨e0,e1,e2,e3,e4⟩:=hcs h hhl
   rw[hy] at e0 e1 e2 e3 e4
   have q0:=cell_grown (a:=⟨bb,off+h*5,none⟩) hb e0
   have q1:=cell_grown (a:=⟨bb,off+h*5+1,none⟩) hb e1
   have q2:=cell_grown (a:=⟨bb,off+h*5+2,none⟩) hb e2
   have q3:=cell_grown (a:=⟨bb,off+h*5+3,none⟩) hb e3
   have q4:=cell_grown (a:=⟨bb,off+h*5+4,none⟩) hb e4
   clear e0 e1 e2 e3 e4
   have hyH:Hid (l[h]=y):=hy
   clear hcs hy
   have hz:((a:Int)+(b:Int)) / 2=(h:Int):=by omega
   have hhz:(h:Int)<(l.length:Int):=by omega
   have hhH:Hid ((a+b) / 2=h):=hh
   clear hh
   cases hbe:bD y.1 x.1
   ·have hge:=iu hbe
    have hgez:(decide (eh y.1 x.1<0))=false:=decide_eq_false (by omega)
    go_wp2
    refine wp_region_quiet_grown mixed (by kernel_rfl) ?_
    repeat (go_big_quiet_step ((go_at_call 68;refine Calls.grown_of (gh rfl _))))
    refine wpQuiet_nil ?_
    rintro _ ⟨⟨nq2,osq2⟩,rfl⟩
    go_wp2
    go_roundw
    case rel =>
     refine ⟨a,h,hha,by omega,rfl,rfl,⟨hinv.out.1,fun k hk hhk=> ?_⟩,hgr.trans ⟨nq2,osq2,rfl⟩⟩
     by_cases e:k=h
     ·subst e;rw[hyH.out];exact hbe
     ·have:=(List.pairwise_iff_getElem.1 hsH.out) h k hhl hk (by omega)
      rw[hyH.out] at this
      cases hk2:bD l[k].1 x.1
      ·rfl
      ·rw[gt this hk2] at hbe;cases hbe
    case measure=>simp[intOf];omega
   ·have hge:=ir hbe
    go_wp2
    refine wp_region_quiet_grown mixed (by kernel_rfl) ?_
    repeat (go_big_quiet_step ((go_at_call 68;refine Calls.grown_of (gh hge _))))
    refine wpQuiet_nil ?_
    rintro _ ⟨⟨nq2,osq2⟩,rfl⟩
    go_wp2
    go_roundw
    case rel =>
     refine ⟨h+1,b,by omega,hbl,by go_num,rfl,⟨fun k hk hkh=> ?_,hinv.out.2⟩,hgr.trans ⟨nq2,osq2,rfl⟩⟩
     by_cases e:k=h
     ·subst e;rw[hyH.out];exact hbe
     ·have:=(List.pairwise_iff_getElem.1 hsH.out) k h hk hhl (by omega)
      rw[hyH.out] at this
      exact gt this hbe
    case measure=>simp[intOf];omega
  ·have hltz:¬(a:Int)<(b:Int):=by omega
   obtain rfl:a=b:=by omega
   have hme:=xr hsH.out hinv.out.1 hinv.out.2
   have hwR:Gr w wr:=hg0.trans hgr
   clear hlt
   by_cases hal:a<l.length
   ·have halz:(a:Int)<(l.length:Int):=by omega
    obtain ⟨bb,off,rfl,hb,hcs⟩:=bw.get (hr.gr hwR) hal
    obtain ⟨y,hy⟩:∃y,l[a]=y:=⟨_,rfl⟩
    obtain ⟨e0,e1,e2,e3,e4⟩:=hcs a hal
    rw[hy] at e0 e1 e2 e3 e4
    have q0:=cell_grown (a:=⟨bb,off+a*5,none⟩) hb e0
    have q1:=cell_grown (a:=⟨bb,off+a*5+1,none⟩) hb e1
    have q2:=cell_grown (a:=⟨bb,off+a*5+2,none⟩) hb e2
    have q3:=cell_grown (a:=⟨bb,off+a*5+3,none⟩) hb e3
    have q4:=cell_grown (a:=⟨bb,off+a*5+4,none⟩) hb e4
    clear e0 e1 e2 e3 e4
    have hyH:Hid (l[a]=y):=hy
    clear hcs
    by_cases hq:y.1=x.1
    ·have hoz:=(oW y.1 x.1).2 hq
     have hfin:Hid (gZ l x.1=true∧∃h:a<l.length,l[a].1=x.1):=by
      have hex:∃h:a<l.length,l[a].1=x.1:=⟨hal,by rw[hy];exact hq⟩
      exact ⟨by rw[hme];exact decide_eq_true hex,hex⟩
     clear hme hq hy
     go_wp2
     refine wp_region_quiet_grown mixed (by kernel_rfl) ?_
     repeat (go_big_quiet_step ((go_at_call 68;refine Calls.grown_of (gh hoz _))))
     refine wpQuiet_nil ?_
     rintro _ ⟨⟨nq2,osq2⟩,rfl⟩
     go_wp2
     go_ret2
     rw[hfin.out.1]
     exact ⟨a,rfl,fun _=>hfin.out.2,hwR.trans ⟨nq2,osq2,rfl⟩⟩
    ·have hoz:(eh y.1 x.1==0)=false:=beq_eq_false_iff_ne.2 (fun h=>hq ((oW y.1 x.1).1 h))
     have hfin:Hid (gZ l x.1=false):=by
      show gZ l x.1=false
      rw[hme]
      refine decide_eq_false ?_
      rintro ⟨_,h⟩
      rw[hy] at h
      exact hq h
     clear hme hq hy
     go_wp2
     refine wp_region_quiet_grown mixed (by kernel_rfl) ?_
     repeat (go_big_quiet_step ((go_at_call 68;refine Calls.grown_of (gh rfl _))))
     refine wpQuiet_nil ?_
     rintro _ ⟨⟨nq2,osq2⟩,rfl⟩
     go_wp2
     go_ret2
     rw[hfin.out]
     exact ⟨a,rfl,(fun h=>by cases h),hwR.trans ⟨nq2,osq2,rfl⟩⟩
   ·have halz:¬(a:Int)<(l.length:Int):=by omega
    have hfin:Hid (gZ l x.1=false):=by
     show gZ l x.1=false
     rw[hme]
     refine decide_eq_false ?_
     rintro ⟨h,_⟩
     exact hal h
    clear hme
    go_wp2
    refine wp_region_quiet_grown mixed (by kernel_rfl) ?_
    repeat (go_big_quiet_step (fail))
    refine wpQuiet_nil ?_
    rintro _ ⟨⟨nq2,osq2⟩,rfl⟩
    go_wp2
    go_ret2
    rw[hfin.out]
    exact ⟨a,rfl,(fun h=>by cases h),hwR.trans ⟨nq2,osq2,rfl⟩⟩


theorem Tryz.info3:(Tryz.prog.info? 3).map (fun i=>(i.zero,i.size,i.bytes))=some (some (V I 0),1,8):=by kernel_rfl

def qz (a b c d a' b' c' d':Int):Bool:=decide ((a,b,c,d)=(a',b',c',d'))

theorem AR (a b c d a' b' c' d':Int) (w:World):(binOp .eql 35 (H #[V I a,V I b,V I c,V I d]) (H #[V I a',V I b',V I c',V I d'])).run S w= .ok (Y (qz a b c d a' b' c' d')) w:=by
 unfold qz
 obtain ⟨i0,hi,hz0,hz1,hz2⟩:=info_parts Tryz.info3
 have u3:=Tryz.underlying3
 have a3:=Tryz.isAgg3
 have z3:=Tryz.sizeOf3
 have c3:Tryz.prog.cellsOf 3=1:=by kernel_rfl
 rw[run_eql_struct,show (10000:Nat)=9998+1+1 from rfl,run_equalIn_array w (9998+1) _ _ Tryz.underlying35 hi,c3]
 simp only[show List.range 4=[0,1,2,3] from rfl,Op.eqItems]
 go_simp
 by_cases h1:a=a'<;>by_cases h2:b=b'<;>by_cases h3:c=c'<;>by_cases h4:d=d'<;>simp[h1,h2,h3,h4]

theorem wU (op:BinOp) (p q:Operand) (a b c d a' b' c' d':Int) (w:World):(eqGuard op 35 p q (H #[V I a,V I b,V I c,V I d]) (H #[V I a',V I b',V I c',V I d'])).run S w= .ok () w :=
 run_eqGuard_agg w op 35 p q _ _ (by kernel_rfl)

def jb (c d:Ctx):Bool:=qz c.c0 c.c1 c.c2 c.c3 d.c0 d.c1 d.c2 d.c3 && eqL c.l d.l

theorem xW (c d:Ctx) (A B:Option Addr) (cap dap:Nat) (w:World) (hl:c.l.length≤maxLen) (hm:d.l.length≤maxLen) (hr:Row w A c.l) (hs:Row w B d.l) :
  Calls S 35 #[H #[V I c.c0,V I c.c1,V I c.c2,V I c.c3,O A c.l.length cap],H #[V I d.c0,V I d.c1,V I d.c2,V I d.c3,O B d.l.length dap]] w fun e w'=>e= Z (Y (jb c d))∧Gr w w':=by
 have hE:=AR
 have hG:=wU
 cases hq:qz c.c0 c.c1 c.c2 c.c3 d.c0 d.c1 d.c2 d.c3
 ·have hfin:Hid (jb c d=false):=by
   show jb c d=false
   unfold jb;rw[hq];rfl
  go_enter Tryz.func35,Tryz.ntmps35
  go_wp2
  go_ret
  rw[hfin.out]
  exact ⟨rfl,((gR _).alloc _).alloc _⟩
 ·have hfin:Hid (jb c d=eqL c.l d.l):=by
   show jb c d=_
   unfold jb;rw[hq];rfl
  go_enter Tryz.func35,Tryz.ntmps35
  go_wp2_with fail
  refine (uD c.l d.l A B cap dap _ hl hm (hr.gr (((gR _).alloc _).alloc _)) (hs.gr (((gR _).alloc _).alloc _))).mono ?_
  rintro e w' ⟨rfl,hg⟩
  go_wp2
  go_ret
  rw[hfin.out]
  exact ⟨rfl,ci (ci hg)⟩


def ie (x y:Cel):Bool:=decide (x=y)
theorem iH {x y:Cel}:ie x y=true↔x=y:=by simp[ie]

theorem yZ (a b c d:Int) (w:World):(Op.equalIn 9999 95 (H #[V I a,V I b]) (H #[V I c,V I d])).run S w= .ok (a==c && b==d) w:=by
 have u3:=Tryz.underlying3
 have a3:=Tryz.isAgg3
 have z3:=Tryz.sizeOf3
 have hS:Tryz.prog.underlying 95=some (.struct (Tryz.prog.fieldsOf 95)):=by kernel_rfl
 have hp:Tryz.prog.stoodInHeld 95=false:=by kernel_rfl
 rw[show (9999:Nat)=9998+1 from rfl,run_equalIn_agg w 9998 95 _ _ hS hp]
 simp only[Program.fieldsOf,Tryz.underlying95]
 go_simp
 by_cases h1:a=c<;>by_cases h2:b=d<;>simp[h1,h2]

theorem yY (x y:Cel) (w:World):(Op.equalIn 10000 97 (H #[V I x.1.1,V I x.1.2,V I x.2.1,V I x.2.2.1,V I x.2.2.2]) (H #[V I y.1.1,V I y.1.2,V I y.2.1,V I y.2.2.1,V I y.2.2.2])).run S w= .ok (ie x y) w:=by
 obtain ⟨⟨a0,a1⟩,a2,a3,a4⟩:=x
 obtain ⟨⟨b0,b1⟩,b2,b3,b4⟩:=y
 have u3:=Tryz.underlying3
 have g3:=Tryz.isAgg3
 have z3:=Tryz.sizeOf3
 have c2:Tryz.prog.cellsOf 95=2:=by kernel_rfl
 have c1:Tryz.prog.cellsOf 3=1:=by kernel_rfl
 have gD:=Tryz.isAgg95
 have zD:=Tryz.sizeOf95
 have hd:=yZ
 have hS:Tryz.prog.underlying 97=some (.struct (Tryz.prog.fieldsOf 97)):=by kernel_rfl
 have hp:Tryz.prog.stoodInHeld 97=false:=by kernel_rfl
 rw[show (10000:Nat)=9999+1 from rfl,run_equalIn_agg w 9999 97 _ _ hS hp]
 simp only[Program.fieldsOf,Tryz.underlying97]
 clear hS hp
 go_simp
 by_cases h0:a0=b0<;>by_cases h1:a1=b1<;>by_cases h2:a2=b2<;>by_cases h3:a3=b3<;>by_cases h4:a4=b4<;>simp[ie,h0,h1,h2,h3,h4]

theorem xz (x y:Cel) (w:World):(binOp .neq 97 (H #[V I x.1.1,V I x.1.2,V I x.2.1,V I x.2.2.1,V I x.2.2.2]) (H #[V I y.1.1,V I y.1.2,V I y.2.1,V I y.2.2.1,V I y.2.2.2])).run S w= .ok (Y (!ie x y)) w:=by
 rw[run_neq_struct,yY];rfl
theorem qP (op:BinOp) (p q:Operand) (x y:Cel) (w:World):(eqGuard op 97 p q (H #[V I x.1.1,V I x.1.2,V I x.2.1,V I x.2.2.1,V I x.2.2.2]) (H #[V I y.1.1,V I y.1.2,V I y.2.1,V I y.2.2.1,V I y.2.2.2])).run S w= .ok () w :=
 run_eqGuard_agg w op 97 p q _ _ (by kernel_rfl)

def ko (l m:List Cel):Bool:=decide (l=m)

theorem sd (l m:List Cel) (A B:Option Addr) (cap dap:Nat) (w:World) (hl:l.length≤maxLen) (hm:m.length≤maxLen) (hr:bw w A l) (hs:bw w B m) :
  Calls S 36 #[O A l.length cap,O B m.length dap] w fun e w'=>e= Z (Y (ko l m))∧Gr w w':=by
 unfold maxLen at hl hm
 have hE:=xz
 have hG:=qP
 by_cases hlen:l.length=m.length
 ·have hlz:((l.length:Int) != (m.length:Int))=false:=by rw[hlen];simp
  have hlH:Hid (l.length=m.length):=hlen
  clear hlen
  go_enter Tryz.func36,Tryz.ntmps36
  go_wp2
  go_loopw [13] (fun i wr=>∃k:Nat,k≤l.length∧i= V I k∧Hid (∀j (h:j<l.length) (h':j<m.length),j<k→l[j]=m[j])∧Gr w wr) (fun i _=>l.length-(intOf i).toNat)
  case atStart=>exact ⟨0,nZ _,rfl,fun j _ _ hj=>absurd hj (Nat.not_lt_zero _),gR _⟩
  case round =>
   obtain ⟨k,hk,rfl,hno,hgr⟩:=hrel
   by_cases hlt:k<l.length
   ·have hltz:(k:Int)<(l.length:Int):=by omega
    have hlt2:k<m.length:=by have:=hlH.out;omega
    have hltz2:(k:Int)<(m.length:Int):=by omega
    obtain ⟨bb,off,rfl,hb,hcs⟩:=bw.get (hr.gr hgr) hlt
    obtain ⟨bb2,off2,rfl,hb2,hcs2⟩:=bw.get (hs.gr hgr) hlt2
    obtain ⟨e0,e1,e2,e3,e4⟩:=hcs k hlt
    obtain ⟨f0,f1,f2,f3,f4⟩:=hcs2 k hlt2
    obtain ⟨x,hx⟩:∃x,l[k]=x:=⟨_,rfl⟩
    obtain ⟨y,hy⟩:∃y,m[k]=y:=⟨_,rfl⟩
    rw[hx] at e0 e1 e2 e3 e4
    rw[hy] at f0 f1 f2 f3 f4
    have hxH:Hid (l[k]=x):=hx
    have hyH:Hid (m[k]=y):=hy
    clear hcs hcs2 hx hy
    cases hq:ie x y
    ·have hfin:Hid (ko l m=false):=by
      show ko l m=false
      simp only[ko,decide_eq_false_iff_not]
      intro h
      subst h
      have:x=y:=hxH.out.symm.trans hyH.out
      rw[iH.2 this] at hq
      cases hq
     go_wp2
     go_quiet (fail)
     go_wp2
     go_ret
     rw[hfin.out]
     exact ⟨rfl,hgr.trans ⟨nq,#[],by rw[grow_empty]⟩⟩
    ·have hne:Hid (l[k]=m[k]):=hxH.out.trans ((iH.1 hq).trans hyH.out.symm)
     go_wp2
     go_quiet (fail)
     go_wp2
     go_roundw
     case rel =>
      refine ⟨k+1,by omega,by go_num,?_,hgr.trans ⟨nq,#[],by rw[grow_empty]⟩⟩
      intro j hj hj' hjk
      by_cases e:j=k
      ·subst e;exact hne
      ·exact hno j hj hj' (by omega)
     case measure=>simp[intOf];omega
   ·have hltz:¬(k:Int)<(l.length:Int):=by omega
    have hfin:Hid (ko l m=true):=by
     show ko l m=true
     simp only[ko,decide_eq_true_eq]
     exact List.ext_getElem hlH.out fun j h1 h2=>hno j h1 h2 (by omega)
    go_wp2
    go_ret
    rw[hfin.out]
    exact ⟨rfl,hgr⟩
 ·have hlz:((l.length:Int) != (m.length:Int))=true:=by simp;omega
  have hfin:Hid (ko l m=false):=by
   show ko l m=false
   simp only[ko,decide_eq_false_iff_not]
   intro h
   exact hlen (by rw[h])
  clear hlen
  go_enter Tryz.func36,Tryz.ntmps36
  go_wp2
  go_ret
  rw[hfin.out]
  exact ⟨rfl,gR _⟩

def fj (s t:Tab):Bool:=jb s.c t.c && ko s.e t.e

theorem kK (s t:Tab) (A B C D:Option Addr) (ca cb cc cd:Nat) (w:World) (hsl:s.c.l.length≤maxLen) (htl:t.c.l.length≤maxLen) (hse:s.e.length≤maxLen) (hte:t.e.length≤maxLen) (hr:Row w A s.c.l) (hs:Row w C t.c.l) (hre:bw w B s.e) (hte':bw w D t.e) :
  Calls S 15 #[H (T6 s A ca B cb).toArray,H (T6 t C cc D cd).toArray] w fun e w'=>e= Z (Y (fj s t))∧Gr w w':=by
 have hgX:Gr w ((w.alloc (J #[V I s.c.c0,V I s.c.c1,V I s.c.c2,V I s.c.c3,O A s.c.l.length ca,O B s.e.length cb] 41)).alloc (J #[V I t.c.c0,V I t.c.c1,V I t.c.c2,V I t.c.c3,O C t.c.l.length cc,O D t.e.length cd] 41)):=((gR _).alloc _).alloc _
 have hS0:TabAt ((w.alloc (J #[V I s.c.c0,V I s.c.c1,V I s.c.c2,V I s.c.c3,O A s.c.l.length ca,O B s.e.length cb] 41)).alloc (J #[V I t.c.c0,V I t.c.c1,V I t.c.c2,V I t.c.c3,O C t.c.l.length cc,O D t.e.length cd] 41)) w.heap.size s A ca B cb:=(TabAt.new 41 hr hre rfl).gr ((gR _).alloc _)
 have hT0:TabAt ((w.alloc (J #[V I s.c.c0,V I s.c.c1,V I s.c.c2,V I s.c.c3,O A s.c.l.length ca,O B s.e.length cb] 41)).alloc (J #[V I t.c.c0,V I t.c.c1,V I t.c.c2,V I t.c.c3,O C t.c.l.length cc,O D t.e.length cd] 41)) (w.heap.size+1) t C cc D cd:=TabAt.new 41 (hs.gr ((gR _).alloc _)) (hte'.gr ((gR _).alloc _)) (by simp)
 have hc:=xW s.c t.c A C ca cc _ hsl htl hS0.row hT0.row
 have hcH:Hid _:=hc
 clear hc
 go_enter Tryz.func15,Tryz.ntmps15
 go_wp2_with fail
 refine cM (show Calls _ _ _ _ _ from hcH.out) ?_
 rintro e w1 ⟨rfl,hg1⟩
 clear hcH
 have hS1:=hS0.gr hg1
 have hT1:=hT0.gr hg1
 have hgW:Gr w w1:=hgX.trans hg1
 clear hS0 hT0 hgX hg1
 cases hq:jb s.c t.c
 ·have hfin:Hid (fj s t=false):=by
   show fj s t=false
   unfold fj;rw[hq];rfl
  go_wp2
  go_ret
  rw[hfin.out]
  exact ⟨rfl,hgW⟩
 ·have hfin:Hid (fj s t=ko s.e t.e):=by
   show fj s t=_
   unfold fj;rw[hq];rfl
  have s5:=hS1.k5
  have t5:=hT1.k5
  have he:=sd s.e t.e B D cb cd w1 hse hte hS1.rowC hT1.rowC
  have heH:Hid _:=he
  clear he
  go_wp2_with fail
  refine cM (show Calls _ _ _ _ _ from heH.out) ?_
  rintro e w2 ⟨rfl,hg2⟩
  go_wp2
  go_ret
  rw[hfin.out]
  exact ⟨rfl,hgW.trans hg2⟩

theorem dP (t:Tab):fj t t=true:=by
 unfold fj jb qz eqL ko
 simp

def clP (l:List Cel) (x:Cel):Bool:=l.any fun y=>decide (y.1=x.1) && !ie y x

theorem vU {l:List Cel} (hs:Asc l) {i j:Nat} (hi:i<l.length) (hj:j<l.length) (h:l[i].1=l[j].1):i=j:=by
 rcases Nat.lt_trichotomy i j with h1|h1|h1
 ·have:=(List.pairwise_iff_getElem.1 hs) i j hi hj h1
  exact absurd h (iG this)
 ·exact h1
 ·have:=(List.pairwise_iff_getElem.1 hs) j i hj hi h1
  exact absurd h.symm (iG this)
theorem Ak {l:List Cel} {x:Cel} (hs:Asc l) {i:Nat} (hi:i<l.length) (h:l[i].1=x.1):clP l x= !ie l[i] x:=by
 cases hq:ie l[i] x
 ·unfold clP
  show _=true
  rw[List.any_eq_true]
  exact ⟨l[i],gM hi,by rw[hq];simpa using h⟩
 ·unfold clP
  show _=false
  rw[List.any_eq_false]
  intro y hy
  obtain ⟨j,hj,rfl⟩:=List.getElem_of_mem hy
  by_cases hd:l[j].1=x.1
  ·obtain rfl:=vU hs hi hj (h.trans hd.symm)
   rw[hq];simp
  ·simp[hd]
theorem wm {l:List Cel} {x:Cel} (h:gZ l x.1=false):clP l x=false:=by
 unfold gZ at h
 rw[List.any_eq_false] at h
 unfold clP
 rw[List.any_eq_false]
 intro y hy
 have:=h y hy
 simp at this ⊢
 intro he
 exact absurd he this

theorem rV (l:List Cel) (B:Option Addr) (cb:Nat) (p:Nat) (x:Cel) (w:World) (hl:l.length≤400) (hp:p<w.heap.size) (kp:w.cell? ⟨p,0,none⟩=some (O B l.length cb)) (hr:bw w B l) (hs:Asc l) :
  Calls S 160 #[H #[V I x.1.1,V I x.1.2,V I x.2.1,V I x.2.2.1,V I x.2.2.2],X (some ⟨p,0,none⟩)] w fun e w'=>e= Z (Y (clP l x))∧Gr w w':=by
 have mixed:Tryz.prog.follows .mixedOrders=true:=by kernel_rfl
 have hx0:CelAt (w.alloc (J #[V I x.1.1,V I x.1.2,V I x.2.1,V I x.2.2.1,V I x.2.2.2] 97)) w.heap.size x:=CelAt.new x 97 rfl
 have hg0:Gr w (w.alloc (J #[V I x.1.1,V I x.1.2,V I x.2.1,V I x.2.2.1,V I x.2.2.2] 97)):=(gR w).alloc _
 go_enter Tryz.func160,Tryz.ntmps160
 go_wp2_with fail
 refine (kU l B cb x _ hl (hr.gr hg0) hs).mono ?_
 rintro e w1 ⟨i,rfl,hf,hg1⟩
 have hgW:Gr w w1:=hg0.trans hg1
 have kp1:w1.cell? ⟨p,0,none⟩=some (O B l.length cb):=(hgW.cell (p:=⟨p,0,none⟩) hp).trans kp
 have hp1:p<w1.heap.size:=nL hp hgW.size
 have hx1:=hx0.gr hg1
 have hr1:=hr.gr hgW
 clear hx0 hg0 hg1 kp hr
 cases hm:gZ l x.1
 ·have hfin:Hid (clP l x=false):=wm hm
  clear hf
  go_wp2
  refine wp_region_quiet_grown mixed (by kernel_rfl) ?_
  repeat (go_big_quiet_step (fail))
  refine wpQuiet_nil ?_
  rintro _ ⟨⟨nq2,osq2⟩,rfl⟩
  go_wp2
  go_ret
  rw[hfin.out]
  exact ⟨rfl,hgW.trans ⟨nq2,osq2,rfl⟩⟩
 ·obtain ⟨hi,hd⟩:=hf hm
  have hfin:Hid (clP l x= !ie l[i] x):=Ak hs hi hd
  have hiz:(i:Int)<(l.length:Int):=by omega
  obtain ⟨bb,off,rfl,hb,hcs⟩:=bw.get hr1 hi
  obtain ⟨y,hy⟩:∃y,l[i]=y:=⟨_,rfl⟩
  obtain ⟨e0,e1,e2,e3,e4⟩:=hcs i hi
  rw[hy] at e0 e1 e2 e3 e4 hfin
  have q0:=cell_grown (a:=⟨bb,off+i*5,none⟩) hb e0
  have q1:=cell_grown (a:=⟨bb,off+i*5+1,none⟩) hb e1
  have q2:=cell_grown (a:=⟨bb,off+i*5+2,none⟩) hb e2
  have q3:=cell_grown (a:=⟨bb,off+i*5+3,none⟩) hb e3
  have q4:=cell_grown (a:=⟨bb,off+i*5+4,none⟩) hb e4
  have kG:=cell_grown (a:=⟨p,0,none⟩) hp1 kp1
  obtain ⟨x0,x1,x2,x3,x4⟩:=hx1.G
  have hE:=xz
  have hG:=qP
  clear e0 e1 e2 e3 e4 hcs hf hd hy hs
  go_wp2
  refine wp_region_quiet_grown mixed (by kernel_rfl) ?_
  repeat (go_big_quiet_step (fail))
  refine wpQuiet_nil ?_
  rintro _ ⟨⟨nq2,osq2⟩,rfl⟩
  go_wp2
  go_ret
  rw[hfin.out]
  exact ⟨rfl,hgW.trans ⟨nq2,osq2,rfl⟩⟩

theorem uo (a b:List Cel) (A B:Option Addr) (ca cb:Nat) (w:World) (hal:a.length≤400) (hbl:b.length≤400) (hra:bw w A a) (hrb:bw w B b) (hs:Asc b) :
  Calls S 106 #[O A a.length ca,O B b.length cb] w fun e w'=>e= Z (Y (a.any (clP b)))∧Gr w w':=by
 have hg0:Gr w (w.alloc (J #[O B b.length cb] 39)):=(gR w).alloc _
 have k0:(w.alloc (J #[O B b.length cb] 39)).cell? ⟨w.heap.size,0,none⟩=some (O B b.length cb):=ab (gR _) rfl
 have hlt0:w.heap.size<(w.alloc (J #[O B b.length cb] 39)).heap.size:=by simp
 have hpr:tv 160 #[X (some ⟨w.heap.size,0,none⟩)] (clP b) (w.alloc (J #[O B b.length cb] 39)):=fun W hg x =>
  rV b B cb w.heap.size x W hbl (nL hlt0 hg.size) ((hg.cell (p:=⟨w.heap.size,0,none⟩) hlt0).trans k0) (hrb.gr (hg0.trans hg)) hs
 have hc:=fx (clP b) 160 #[X (some ⟨w.heap.size,0,none⟩)] (enters_of Tryz.func160 (by kernel_rfl) rfl) a A ca _ (by unfold maxLen;omega) (hra.gr hg0) hpr
 have hcH:Hid _:=hc
 clear hc hpr
 go_enter Tryz.func106,Tryz.ntmps106
 go_wp2_with fail
 refine cM (show Calls _ _ _ _ _ from hcH.out) ?_
 rintro e w1 ⟨rfl,hg1⟩
 go_wp2
 go_ret
 exact ⟨rfl,hg0.trans hg1⟩


abbrev dB (w:World) (base:Nat) (v:Value) (l:List Cel):Prop:=af gY 5 97 w base v l
theorem Tryz.infoC:(Tryz.prog.info? 97).map (fun i=>(i.zero,i.size,i.bytes))=some (some (H #[V I 0,V I 0,V I 0,V I 0,V I 0]),5,40):=by kernel_rfl

theorem jU {W:World} {n:Nat} (hn:W.heap.size=n) (x:Cel) (T:TypeId):bw (W.alloc (J #[V I x.1.1,V I x.1.2,V I x.2.1,V I x.2.2.1,V I x.2.2.2] T)) (some ⟨n,0,none⟩) [x]:=by
 subst hn
 refine oR ⟨W.heap.size,0,rfl,by simp,fun j hj i hi=> ?_⟩
 obtain rfl:j=0:=by simp at hj;omega
 match i,hi with
 | 0,_=>exact ab (w:=W) (gR _) (j:=0) rfl
 | 1,_=>exact ab (w:=W) (gR _) (j:=1) rfl
 | 2,_=>exact ab (w:=W) (gR _) (j:=2) rfl
 | 3,_=>exact ab (w:=W) (gR _) (j:=3) rfl
 | 4,_=>exact ab (w:=W) (gR _) (j:=4) rfl

theorem dI (w:World) {ops:Array Oper} {rest:List Oper} {o:Oper} {a:Act} {Q:Exit→Act→World→Prop} (hgd:o.guard=none) (s x:Operand)
  (ho:o.op= .call { callee:= .builtin .append,args:= #[s,x],argTypes:= #[39,39] })
  (base:Nat) (v:Value) (l m:List Cel) (A:Option Addr) (cap:Nat) (hs:a.eval s=v) (hx:a.eval x= O A m.length cap) (hown:dB w base v l) (hr:bw w A m) (hA:A=none→cap=0)
  (hml:l.length+m.length≤maxLen) (hb:(l.length+m.length)*40≤140737488355328) (hbase:base≤w.heap.size)
  (h:∀v' w',dB w' base v' (l++m)→w.grownBy w' v.ownBlock→wpList S ops Q rest (a.put o.dst v') w'):wpList S ops Q (o::rest) a w :=
 wpList_plain hgd fun _ hK=>dZ dD me (by omega) 39 Tryz.underlying39 (H #[V I 0,V I 0,V I 0,V I 0,V I 0]) 40 Tryz.infoC rfl w s x ho base v l m A cap hs hx hown hr hA hml hb hbase fun v' w' h2 h3=>hK _ _ (h v' w' h2 h3)

theorem ij {p:Cel→Bool} {l:List Cel} {k:Nat} (h:k<l.length) {x:Cel} (hx:l[k]=x):(l.take (k+1)).filter p=(l.take k).filter p++(if p x then [x] else []):=by
 rw[List.take_succ_eq_append_getElem h,List.filter_append,hx]
 cases hq:p x<;>simp[hq]
theorem ox (p:Cel→Bool) (l:List Cel) (k:Nat):((l.take k).filter p).length≤l.length:=nT (List.length_filter_le _ _) (by rw[List.length_take];omega)

section
open Go.Shelf Go.Lib

def tw (l:List Cel):Prop:=∀x∈l,∀y∈l,x.1=y.1→x=y
def fJ (x y:Cel):Bool:=bD x.1 y.1
def gO (l:List Cel):List Cel:=l.mergeSort fun x y=> !fJ y x

theorem qt (x y:Cel):fJ x y=true↔x.1.1<y.1.1∨(x.1.1=y.1.1∧x.1.2<y.1.2):=jF _ _
theorem jE (x y:Cel):fJ x y=false↔y.1.1<x.1.1∨(x.1.1=y.1.1∧y.1.2≤x.1.2):=by
 simp[fJ,bD];omega
theorem BS {cf:Cel→Cel→Int} (hcf:∀x y,ltOf cf x y=fJ x y):SWO (ltOf cf) where
 irrefl x:=by rw[hcf];simp[fJ,bD]
 trans x y z h1 h2:=by rw[hcf,qt] at *;omega
 ntrans x y z h1 h2:=by rw[hcf,jE] at *;omega
theorem iB (l:List Cel):(gO l).length=l.length:=by simp[gO]
theorem iV (l:List Cel):(gO l).Perm l:=List.mergeSort_perm _ _
theorem po (l:List Cel):(gO l).Pairwise fun x y=>(!fJ y x)=true:=by
 refine List.pairwise_mergeSort ?_ ?_ _
 ·intro a b c h1 h2
  simp only[Bool.not_eq_true',jE] at h1 h2 ⊢
  omega
 ·intro a b
  cases h:fJ b a
  ·simp
  ·have:fJ a b=false:=by rw[jE];rw[qt] at h;omega
   simp[this]
theorem tD {x y:Cel} (h1:(!fJ y x)=true) (h2:(!fJ x y)=true):x.1=y.1:=by
 simp only[Bool.not_eq_true',jE] at h1 h2
 exact Prod.ext (by omega) (by omega)
theorem zP {l m:List Cel} (hu:tw l) (hp:m.Perm l) (hs:m.Pairwise fun x y=>(!fJ y x)=true):m=gO l:=by
 refine List.Perm.eq_of_pairwise (le:=fun x y=>(!fJ y x)=true) ?_ hs (po l) (hp.trans (iV l).symm)
 intro a b ha hb h1 h2
 exact hu a (hp.mem_iff.1 ha) b ((iV l).mem_iff.1 hb) (tD h1 h2)
theorem ya {l:List Cel} (hn:(l.map (·.1)).Nodup):Asc (gO l):=by
 have h1:=po l
 have h2:((gO l).map (·.1)).Nodup:=((iV l).map (·.1)).nodup_iff.2 hn
 have h3:(gO l).Pairwise fun x y=>x.1≠y.1:=List.pairwise_map.1 h2
 unfold Asc
 refine (h1.and h3).imp ?_
 intro x y ⟨h4,h5⟩
 cases h6:bD x.1 y.1
 ·exfalso
  refine h5 (tD h4 ?_)
  show (!bD x.1 y.1)=true
  rw[h6];rfl
 ·rfl

theorem As {w:World} {g:Nat} {l:List Cel} (h:bw w (some ⟨g,0,none⟩) l) (hf:∀j,w.frozen? ⟨g,j,none⟩=false):HoldsK gY 5 w g 0 l.toArray:=by
 intro t ht
 rw[size_flatK] at ht
 rw[get_flatK _ _ _ t ht]
 simp only[List.size_toArray] at ht
 have hk:t / 5<l.length:=by omega
 refine ⟨?_,hf _⟩
 obtain ⟨b,off,hA,hb,hc⟩:=h.at hk
 obtain ⟨rfl,rfl⟩:g=b∧0=off:=by injection hA with hA;injection hA with h1 h2;exact ⟨h1,h2⟩
 have e:l.toArray[t / 5]! = l[t / 5]:=by simp[hk]
 rw[e]
 have:=hc (t / 5) hk (t % 5) (Nat.mod_lt _ (by omega))
 rw[show 0+t / 5*5+t % 5=0+t from by omega] at this
 rw[this]
 have hm:t % 5<5:=Nat.mod_lt _ (by omega)
 match t % 5,hm with
 | 0,_=>rfl
 | 1,_=>rfl
 | 2,_=>rfl
 | 3,_=>rfl
 | 4,_=>rfl

theorem Bh {w:World} {g:Nat} {l:List Cel} (h:HoldsK gY 5 w g 0 l.toArray) (hg:g<w.heap.size):bw w (some ⟨g,0,none⟩) l:=by
 refine oR ⟨g,0,rfl,hg,fun j hj i hi=> ?_⟩
 have h0:=(h (j*5+i) (by rw[size_flatK];simp;omega)).1
 rw[get_flatK _ _ _ _ (by simp;omega)] at h0
 rw[show (j*5+i) / 5=j from by omega,show (j*5+i) % 5=i from by omega] at h0
 have e:l.toArray[j]! = l[j]:=by simp[hj]
 rw[e] at h0
 rw[show 0+j*5+i=0+(j*5+i) from by omega,h0]
 match i,hi with
 | 0,_=>rfl
 | 1,_=>rfl
 | 2,_=>rfl
 | 3,_=>rfl
 | 4,_=>rfl

theorem qv {w:World} {g n base:Nat} {os:Array Obj} {d:Array Cel} (hb:base≤g) (hs:base≤w.heap.size):Go.RowKit.Below base w (sortWorldK gY 5 w g 0 n d os):=by
 refine ⟨rfl,rfl,rfl,by simp[sortWorldK,grow,putRowK],fun k hk=> ?_⟩
 show ((putRowK gY 5 (Sort.ahead w n) g 0 d).heap++os)[k]? = _
 rw[Array.getElem?_append_left (by simp[putRowK];omega)]
 show ((Sort.ahead w n).heap.modify g _)[k]? = _
 rw[Array.getElem?_modify,if_neg (by omega)]
 rfl

theorem AL {cf:Cel→Cel→Int} (hcf:∀x y,ltOf cf x y=fJ x y) (fid:Nat) (cb:Array Value) (eg:∀args w,(callFunc fid args).run S w= .ok (.enter fid args) w) (g cap:Nat) (l:List Cel) (w:World) (hcmp:CmpLays S fid cb gY 5 cf g 0 l.length w) (hu:tw l) (hH:HoldsK gY 5 w g 0 l.toArray) (hg:g<w.heap.size) (hsz:l.length<4611686018427387904) :
  Calls S 165 #[O (some ⟨g,0,none⟩) l.length cap,.func (.func fid) #[] cb] w fun e w'=>e= Z (U #[])∧bw w' (some ⟨g,0,none⟩) (gO l)∧∀base,base≤g→base≤w.heap.size→Go.RowKit.Below base w w':=by
 have hcon:=AnyQ.slices_SortFunc Tryz.sortCell 5 Tryz.isAgg97 Tryz.sizeOf97 gY (fun _=>rfl) me cf (BS hcf) fid cb g 0 cap l.toArray w eg (by simpa using hcmp) hH hg (by simpa using hsz)
 change Calls S 165 _ _ _ at hcon
 simp only[List.size_toArray] at hcon
 refine hcon.mono ?_
 rintro e w' ⟨he,d',n,os,hp,hs,hw⟩
 obtain ⟨hsz',_,hperm⟩:=hp
 simp only[List.size_toArray] at hsz'
 have e1:d'.extract 0 l.length=d':=by rw[←hsz'];exact Array.extract_size
 have e2:(l.toArray.extract 0 l.length).toList=l:=by simp
 rw[e1,e2] at hperm
 have hpw:d'.toList.Pairwise fun x y=>(!fJ y x)=true:=by
  rw[List.pairwise_iff_getElem]
  intro i j hi hj hij
  have hi':i<d'.size:=by simpa using hi
  have hj':j<d'.size:=by simpa using hj
  have:=hs i j (nZ _) hij (by omega)
  rw[getElem!_pos d' j hj',getElem!_pos d' i hi',hcf] at this
  simpa using this
 have hd:d'=(gO l).toArray:=by
  have:=zP hu hperm hpw
  rw[←this]
 subst hd
 refine ⟨he,?_,fun base h1 h2=>by rw[hw];exact qv h1 h2⟩
 have hH':HoldsK gY 5 w' g 0 (gO l).toArray:=by
  rw[hw]
  refine holdsK_grow _ _ _ _ _ _ _ (by simp[putRowK];exact hg) ?_
  exact holdsK_putRowK _ _ _ _ _ l.toArray _ (holdsK_ahead _ _ _ _ _ _ _ hH) (by simp[iB])
 refine Bh hH' ?_
 rw[hw]
 simp[sortWorldK,grow,putRowK]
 omega

theorem xY {cf:Cel→Cel→Int} (hcf:∀x y,ltOf cf x y=fJ x y) (fid:Nat) (cb:Array Value) (eg:∀args w,(callFunc fid args).run S w= .ok (.enter fid args) w) (base:Nat) (v:Value) (l:List Cel) (w:World) (hcmp:∀g,CmpLays S fid cb gY 5 cf g 0 l.length w) (hu:tw l) (hown:dB w base v l) (hb:base≤w.heap.size) (hsz:l.length<4611686018427387904) :
  Calls S 165 #[v,.func (.func fid) #[] cb] w fun e w'=>e= Z (U #[])∧(∃C cap,v= O C (gO l).length cap∧bw w' C (gO l)∧(C=none→cap=0)∧∀a,C=some a→base≤a.block)∧Go.RowKit.Below base w w':=by
 obtain ⟨A,cap,rfl,hA,hrow,hcap,hlt,hfz⟩:=af.full dD hown
 by_cases h0:l=[]
 ·subst h0
  have hcon:=AnyF.slices_SortFunc_none Tryz.sortCell A cap (.func (.func fid) #[] cb) w
  change Calls S 165 _ _ _ at hcon
  refine hcon.mono ?_
  rintro e w' ⟨he,rfl⟩
  exact ⟨he,⟨A,cap,by simp[gO],oL (by simp[gO]),hA,fun a ha=>(hlt a ha).1⟩,bR _ _⟩
 ·have hpos:0<l.length:=List.length_pos_iff.2 h0
  obtain ⟨b,off,hAe,hbb,_⟩:=hrow.at hpos
  subst hAe
  have h5:=hlt _ rfl
  obtain rfl:off=0:=h5.2.2.1
  refine (AL hcf fid cb eg b cap l w (hcmp b) hu (As hrow (hfz _ rfl)) hbb hsz).mono ?_
  rintro e w' ⟨he,hr',hbel⟩
  refine ⟨he,⟨_,cap,by rw[iB],hr',hA,fun a ha=>(hlt a ha).1⟩,hbel base h5.1 hb⟩

theorem B5 (x y:Cel):ltOf (fun x y:Cel=>eh x.1 y.1) x y=fJ x y:=by
 unfold ltOf fJ
 cases h:bD x.1 y.1
 ·have:=iu h
  simp;omega
 ·simp[ir h]
theorem Al (blk off size:Nat) (w:World):CmpLays S 68 #[] gY 5 (fun x y:Cel=>eh x.1 y.1) blk off size w :=
 fun _ _ _ _ x y=>mO x y _

end
end Go.Proofs.YtkefkplnamkicaaGreatDoor
