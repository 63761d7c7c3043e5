/-
  slices.BinarySearchFunc at cells, with table.order.
  viewref.SameContext: whether two contexts are the same.
  slices.Equal at cells; viewref.SameTable: whether two tables are the same.
  table.clash: has a cell of one list the dot of one of the other, and is another one?
  Cells in memory of the call's own, and what append makes of them.
  slices.SortFunc at cells: by their dots.
-/
import Derived.ChangeKeysEq
import Derived.Test.YtclfpkibchoneaaGreatDoorM04
set_option maxRecDepth 100000
set_option maxHeartbeats 8000000
open Go.Ending renaming returned → Z
open Go.IntKind renaming i64 → I
open Go.Obj renaming cells → J
open Go.Proofs.Tryz renaming prog → S
open Go.Value renaming int → V, slice → O, agg → H, bool → Y, pointer → X, tuple → U
namespace Go.Proofs.YtclfpkibchoneaaGreatDoor
open Go.RowKit Go.Sort

theorem jA (x y:Int×Int):bI x y=true↔x.1<y.1∨(x.1=y.1∧x.2<y.2):=by simp[bI]
theorem gl {x y z:Int×Int} (h:bI x y=true) (k:bI y z=true):bI x z=true:=by rw[jA] at *;omega
theorem pO (x:Int×Int):bI x x=false:=by simp[bI]
theorem iC {x y:Int×Int} (h:bI x y=true):x≠y:=by rintro rfl;rw[pO] at h;cases h
theorem oB (x y:Int×Int):el x y=0↔x=y:=by
 obtain ⟨a,b⟩:=x
 obtain ⟨c,d⟩:=y
 unfold el bB
 simp only[Prod.mk.injEq]
 constructor
 ·intro h
  by_cases h1:a<c
  ·simp[h1] at h
  ·by_cases h2:c<a
   ·simp[h1,h2] at h
   ·by_cases h3:b<d
    ·simp[h1,h2,h3] at h
    ·by_cases h4:d<b
     ·simp[h1,h2,h3,h4] at h
     ·omega
 ·rintro ⟨rfl,rfl⟩;simp
theorem CelAt.G {w:World} {B:Nat} {x:Cel} (h:CelAt w B x):(∀n os,(grow (w.drewN n) os).cell? ⟨B,0,none⟩=some (V I x.1.1))∧(∀n os,(grow (w.drewN n) os).cell? ⟨B,1,none⟩=some (V I x.1.2))∧(∀n os,(grow (w.drewN n) os).cell? ⟨B,2,none⟩=some (V I x.2.1))∧(∀n os,(grow (w.drewN n) os).cell? ⟨B,3,none⟩=some (V I x.2.2.1))∧(∀n os,(grow (w.drewN n) os).cell? ⟨B,4,none⟩=some (V I x.2.2.2)) :=
 ⟨cell_grown (a:=⟨B,0,none⟩) h.lt h.k0,cell_grown (a:=⟨B,1,none⟩) h.lt h.k1,cell_grown (a:=⟨B,2,none⟩) h.lt h.k2,cell_grown (a:=⟨B,3,none⟩) h.lt h.k3,cell_grown (a:=⟨B,4,none⟩) h.lt h.k4⟩

def Asc (l:List Cel):Prop:=l.Pairwise fun x y=>bI x.1 y.1=true
def gS (l:List Cel) (d:Int×Int):Bool:=l.any fun y=>decide (y.1=d)

theorem wP {l:List Cel} {d:Int×Int} {a:Nat} (hs:Asc l) (h1:∀k (h:k<l.length),k<a→bI l[k].1 d=true) (h2:∀k (h:k<l.length),a≤k→bI l[k].1 d=false) :
  gS l d=decide (∃h:a<l.length,l[a].1=d):=by
 by_cases hm:∃h:a<l.length,l[a].1=d
 ·rw[decide_eq_true hm]
  obtain ⟨h,e⟩:=hm
  unfold gS
  rw[List.any_eq_true]
  exact ⟨l[a],gM h,by simpa using e⟩
 ·rw[decide_eq_false hm]
  unfold gS
  rw[List.any_eq_false]
  intro y hy he
  have he':y.1=d:=by simpa using he
  obtain ⟨k,hk,rfl⟩:=List.getElem_of_mem hy
  by_cases hka:k<a
  ·exact iC (h1 k hk hka) he'
  ·by_cases e:k=a
   ·subst e;exact hm ⟨hk,he'⟩
   ·have h3:=(List.pairwise_iff_getElem.1 hs) a k (by omega) hk (by omega)
    rw[he',h2 a (by omega) (Nat.le_refl _)] at h3
    cases h3

theorem kO (l:List Cel) (A:Option Addr) (cap:Nat) (x:Cel) (w:World) (hl:l.length≤400) (hr:bD w A l) (hs:Asc l) :
  Calls S 112 #[O A l.length cap,H #[V I x.1.1,V I x.1.2,V I x.2.1,V I x.2.2.1,V I x.2.2.2],.func (.func 70) #[] #[]] w fun e w'=>∃i:Nat,e= Z (U #[V I i,Y (gS l x.1)])∧(gS l x.1=true→∃h:i<l.length,l[i].1=x.1)∧Gr w w':=by
 have mixed:Tryz.prog.follows .mixedOrders=true:=by kernel_rfl
 have hx0:CelAt (w.alloc (J #[V I x.1.1,V I x.1.2,V I x.2.1,V I x.2.2.1,V I x.2.2.2] 91)) w.heap.size x:=CelAt.new x 91 rfl
 have hg0:Gr w (w.alloc (J #[V I x.1.1,V I x.1.2,V I x.2.1,V I x.2.2.1,V I x.2.2.2] 91)):=(gR w).alloc _
 have hsH:Hid (Asc l):=hs
 clear hs
 go_enter Tryz.func112,Tryz.ntmps112
 go_wp2
 generalize w.alloc (J #[V I x.1.1,V I x.1.2,V I x.2.1,V I x.2.2.1,V I x.2.2.2] 91)=w0 at hx0 hg0 ⊢
 go_loopw [9,10] (fun i j wr=>∃a b:Nat,a≤b∧b≤l.length∧i= V I a∧j= V I b∧Hid ((∀k (h:k<l.length),k<a→bI l[k].1 x.1=true)∧(∀k (h:k<l.length),b≤k→bI l[k].1 x.1=false))∧Gr w0 wr) (fun i j _=>(intOf j).toNat-(intOf i).toNat)
 case atStart=>exact ⟨0,l.length,by omega,by omega,rfl,rfl,⟨fun k _ h=>absurd h (Nat.not_lt_zero _),fun k h1 h2=>by omega⟩,gR _⟩
 case round =>
  obtain ⟨a,b,hab,hbl,rfl,rfl,hinv,hgr⟩:=hrel
  have hxR:=hx0.gr hgr
  obtain ⟨x0,x1,x2,x3,x4⟩:=hxR.G
  by_cases hlt:a<b
  ·have hltz:(a:Int)<(b:Int):=by omega
   obtain ⟨h,hh⟩:∃h,(a+b) / 2=h:=⟨_,rfl⟩
   have hha:a≤h:=by omega
   have hhb:h<b:=by omega
   have hhl:h<l.length:=by omega
   obtain ⟨bb,off,rfl,hb,hcs⟩:=bD.get (hr.gr (hg0.trans hgr)) hhl
   obtain ⟨y,hy⟩:∃y,l[h]=y:=⟨_,rfl⟩
   obtain ⟨e0,e1,e2,e3,e4⟩:=hcs h hhl
   rw[hy] at e0 e1 e2 e3 e4
   have q0:=cell_grown (a:=⟨bb,off+h*5,none⟩) hb e0
   have q1:=cell_grown (a:=⟨bb,off+h*5+1,none⟩) hb e1
   have q2:=cell_grown (a:=⟨bb,off+h*5+2,none⟩) hb e2
   have q3:=cell_grown (a:=⟨bb,off+h*5+3,none⟩) hb e3
   have q4:=cell_grown (a:=⟨bb,off+h*5+4,none⟩) hb e4
   clear e0 e1 e2 e3 e4
   have hyH:Hid (l[h]=y):=hy
   clear hcs hy
   have hz:((a:Int)+(b:Int)) / 2=(h:Int):=by omega
   have hhz:(h:Int)<(l.length:Int):=by omega
   have hhH:Hid ((a+b) / 2=h):=hh
   clear hh
   cases hbe:bI y.1 x.1
   ·have hge:=io hbe
    have hgez:(decide (el y.1 x.1<0))=false:=decide_eq_false (by omega)
    go_wp2
    refine wp_region_quiet_grown mixed (by kernel_rfl) ?_
    repeat (go_big_quiet_step ((go_at_call 70;refine Calls.grown_of (gf rfl _))))
    refine wpQuiet_nil ?_
    rintro _ ⟨⟨nq2,osq2⟩,rfl⟩
    go_wp2
    go_roundw
    case rel =>
     refine ⟨a,h,hha,by omega,rfl,rfl,⟨hinv.out.1,fun k hk hhk=> ?_⟩,hgr.trans ⟨nq2,osq2,rfl⟩⟩
     by_cases e:k=h
     ·subst e;rw[hyH.out];exact hbe
     ·have:=(List.pairwise_iff_getElem.1 hsH.out) h k hhl hk (by omega)
      rw[hyH.out] at this
      cases hk2:bI l[k].1 x.1
      ·rfl
      ·rw[gl this hk2] at hbe;cases hbe
    case measure=>simp[intOf];omega
   ·have hge:=im hbe
    go_wp2
    refine wp_region_quiet_grown mixed (by kernel_rfl) ?_
    repeat (go_big_quiet_step ((go_at_call 70;refine Calls.grown_of (gf hge _))))
    refine wpQuiet_nil ?_
    rintro _ ⟨⟨nq2,osq2⟩,rfl⟩
    go_wp2
    go_roundw
    case rel =>
     refine ⟨h+1,b,by omega,hbl,by go_num,rfl,⟨fun k hk hkh=> ?_,hinv.out.2⟩,hgr.trans ⟨nq2,osq2,rfl⟩⟩
     by_cases e:k=h
     ·subst e;rw[hyH.out];exact hbe
     ·have:=(List.pairwise_iff_getElem.1 hsH.out) k h hk hhl (by omega)
      rw[hyH.out] at this
      exact gl this hbe
    case measure=>simp[intOf];omega
  ·have hltz:¬(a:Int)<(b:Int):=by omega
   obtain rfl:a=b:=by omega
   have hme:=wP hsH.out hinv.out.1 hinv.out.2
   have hwR:Gr w wr:=hg0.trans hgr
   clear hlt
   by_cases hal:a<l.length
   ·have halz:(a:Int)<(l.length:Int):=by omega
    obtain ⟨bb,off,rfl,hb,hcs⟩:=bD.get (hr.gr hwR) hal
    obtain ⟨y,hy⟩:∃y,l[a]=y:=⟨_,rfl⟩
    obtain ⟨e0,e1,e2,e3,e4⟩:=hcs a hal
    rw[hy] at e0 e1 e2 e3 e4
    have q0:=cell_grown (a:=⟨bb,off+a*5,none⟩) hb e0
    have q1:=cell_grown (a:=⟨bb,off+a*5+1,none⟩) hb e1
    have q2:=cell_grown (a:=⟨bb,off+a*5+2,none⟩) hb e2
    have q3:=cell_grown (a:=⟨bb,off+a*5+3,none⟩) hb e3
    have q4:=cell_grown (a:=⟨bb,off+a*5+4,none⟩) hb e4
    clear e0 e1 e2 e3 e4
    have hyH:Hid (l[a]=y):=hy
    clear hcs
    by_cases hq:y.1=x.1
    ·have hoz:=(oB y.1 x.1).2 hq
     have hfin:Hid (gS l x.1=true∧∃h:a<l.length,l[a].1=x.1):=by
      have hex:∃h:a<l.length,l[a].1=x.1:=⟨hal,by rw[hy];exact hq⟩
      exact ⟨by rw[hme];exact decide_eq_true hex,hex⟩
     clear hme hq hy
     go_wp2
     refine wp_region_quiet_grown mixed (by kernel_rfl) ?_
     repeat (go_big_quiet_step ((go_at_call 70;refine Calls.grown_of (gf hoz _))))
     refine wpQuiet_nil ?_
     rintro _ ⟨⟨nq2,osq2⟩,rfl⟩
     go_wp2
     go_ret2
     rw[hfin.out.1]
     exact ⟨a,rfl,fun _=>hfin.out.2,hwR.trans ⟨nq2,osq2,rfl⟩⟩
    ·have hoz:(el y.1 x.1==0)=false:=beq_eq_false_iff_ne.2 (fun h=>hq ((oB y.1 x.1).1 h))
     have hfin:Hid (gS l x.1=false):=by
      show gS l x.1=false
      rw[hme]
      refine decide_eq_false ?_
      rintro ⟨_,h⟩
      rw[hy] at h
      exact hq h
     clear hme hq hy
     go_wp2
     refine wp_region_quiet_grown mixed (by kernel_rfl) ?_
     repeat (go_big_quiet_step ((go_at_call 70;refine Calls.grown_of (gf rfl _))))
     refine wpQuiet_nil ?_
     rintro _ ⟨⟨nq2,osq2⟩,rfl⟩
     go_wp2
     go_ret2
     rw[hfin.out]
     exact ⟨a,rfl,(fun h=>by cases h),hwR.trans ⟨nq2,osq2,rfl⟩⟩
   ·have halz:¬(a:Int)<(l.length:Int):=by omega
    have hfin:Hid (gS l x.1=false):=by
     show gS l x.1=false
     rw[hme]
     refine decide_eq_false ?_
     rintro ⟨h,_⟩
     exact hal h
    clear hme
    go_wp2
    refine wp_region_quiet_grown mixed (by kernel_rfl) ?_
    repeat (go_big_quiet_step (fail))
    refine wpQuiet_nil ?_
    rintro _ ⟨⟨nq2,osq2⟩,rfl⟩
    go_wp2
    go_ret2
    rw[hfin.out]
    exact ⟨a,rfl,(fun h=>by cases h),hwR.trans ⟨nq2,osq2,rfl⟩⟩


theorem Tryz.info3:(Tryz.prog.info? 3).map (fun i=>(i.zero,i.size,i.bytes))=some (some (V I 0),1,8):=by kernel_rfl

def pT (a b c d a' b' c' d':Int):Bool:=decide ((a,b,c,d)=(a',b',c',d'))

theorem An (a b c d a' b' c' d':Int) (w:World):(binOp .eql 35 (H #[V I a,V I b,V I c,V I d]) (H #[V I a',V I b',V I c',V I d'])).run S w= .ok (Y (pT a b c d a' b' c' d')) w:=by
 unfold pT
 obtain ⟨i0,hi,hz0,hz1,hz2⟩:=info_parts Tryz.info3
 have u3:=Tryz.underlying3
 have a3:=Tryz.isAgg3
 have z3:=Tryz.sizeOf3
 have c3:Tryz.prog.cellsOf 3=1:=by kernel_rfl
 rw[run_eql_struct,show (10000:Nat)=9998+1+1 from rfl,run_equalIn_array w (9998+1) _ _ Tryz.underlying35 hi,c3]
 simp only[show List.range 4=[0,1,2,3] from rfl,Op.eqItems]
 go_simp
 by_cases h1:a=a'<;>by_cases h2:b=b'<;>by_cases h3:c=c'<;>by_cases h4:d=d'<;>simp[h1,h2,h3,h4]

theorem ww (op:BinOp) (p q:Operand) (a b c d a' b' c' d':Int) (w:World):(eqGuard op 35 p q (H #[V I a,V I b,V I c,V I d]) (H #[V I a',V I b',V I c',V I d'])).run S w= .ok () w :=
 run_eqGuard_agg w op 35 p q _ _ (by kernel_rfl)

def j0 (c d:Ctx):Bool:=pT c.c0 c.c1 c.c2 c.c3 d.c0 d.c1 d.c2 d.c3 && eqL c.l d.l

theorem xx (c d:Ctx) (A B:Option Addr) (cap dap:Nat) (w:World) (hl:c.l.length≤maxLen) (hm:d.l.length≤maxLen) (hr:Row w A c.l) (hs:Row w B d.l) :
  Calls S 33 #[H #[V I c.c0,V I c.c1,V I c.c2,V I c.c3,O A c.l.length cap],H #[V I d.c0,V I d.c1,V I d.c2,V I d.c3,O B d.l.length dap]] w fun e w'=>e= Z (Y (j0 c d))∧Gr w w':=by
 have hE:=An
 have hG:=ww
 cases hq:pT c.c0 c.c1 c.c2 c.c3 d.c0 d.c1 d.c2 d.c3
 ·have hfin:Hid (j0 c d=false):=by
   show j0 c d=false
   unfold j0;rw[hq];rfl
  go_enter Tryz.func33,Tryz.ntmps33
  go_wp2
  go_ret
  rw[hfin.out]
  exact ⟨rfl,((gR _).alloc _).alloc _⟩
 ·have hfin:Hid (j0 c d=eqL c.l d.l):=by
   show j0 c d=_
   unfold j0;rw[hq];rfl
  go_enter Tryz.func33,Tryz.ntmps33
  go_wp2_with fail
  refine (tY c.l d.l A B cap dap _ hl hm (hr.gr (((gR _).alloc _).alloc _)) (hs.gr (((gR _).alloc _).alloc _))).mono ?_
  rintro e w' ⟨rfl,hg⟩
  go_wp2
  go_ret
  rw[hfin.out]
  exact ⟨rfl,ct (ct hg)⟩


def gW (x y:Cel):Bool:=decide (x=y)
theorem iD {x y:Cel}:gW x y=true↔x=y:=by simp[gW]

theorem yu (a b c d:Int) (w:World):(Op.equalIn 9999 89 (H #[V I a,V I b]) (H #[V I c,V I d])).run S w= .ok (a==c && b==d) w:=by
 have u3:=Tryz.underlying3
 have a3:=Tryz.isAgg3
 have z3:=Tryz.sizeOf3
 have hS:Tryz.prog.underlying 89=some (.struct (Tryz.prog.fieldsOf 89)):=by kernel_rfl
 have hp:Tryz.prog.stoodInHeld 89=false:=by kernel_rfl
 rw[show (9999:Nat)=9998+1 from rfl,run_equalIn_agg w 9998 89 _ _ hS hp]
 simp only[Program.fieldsOf,Tryz.underlying89]
 go_simp
 by_cases h1:a=c<;>by_cases h2:b=d<;>simp[h1,h2]

theorem yt (x y:Cel) (w:World):(Op.equalIn 10000 91 (H #[V I x.1.1,V I x.1.2,V I x.2.1,V I x.2.2.1,V I x.2.2.2]) (H #[V I y.1.1,V I y.1.2,V I y.2.1,V I y.2.2.1,V I y.2.2.2])).run S w= .ok (gW x y) w:=by
 obtain ⟨⟨a0,a1⟩,a2,a3,a4⟩:=x
 obtain ⟨⟨b0,b1⟩,b2,b3,b4⟩:=y
 have u3:=Tryz.underlying3
 have g3:=Tryz.isAgg3
 have z3:=Tryz.sizeOf3
 have c2:Tryz.prog.cellsOf 89=2:=by kernel_rfl
 have c1:Tryz.prog.cellsOf 3=1:=by kernel_rfl
 have gD:=Tryz.isAgg89
 have zD:=Tryz.sizeOf89
 have hd:=yu
 have hS:Tryz.prog.underlying 91=some (.struct (Tryz.prog.fieldsOf 91)):=by kernel_rfl
 have hp:Tryz.prog.stoodInHeld 91=false:=by kernel_rfl
 rw[show (10000:Nat)=9999+1 from rfl,run_equalIn_agg w 9999 91 _ _ hS hp]
 simp only[Program.fieldsOf,Tryz.underlying91]
 clear hS hp
 go_simp
 by_cases h0:a0=b0<;>by_cases h1:a1=b1<;>by_cases h2:a2=b2<;>by_cases h3:a3=b3<;>by_cases h4:a4=b4<;>simp[gW,h0,h1,h2,h3,h4]

theorem wV (x y:Cel) (w:World):(binOp .neq 91 (H #[V I x.1.1,V I x.1.2,V I x.2.1,V I x.2.2.1,V I x.2.2.2]) (H #[V I y.1.1,V I y.1.2,V I y.2.1,V I y.2.2.1,V I y.2.2.2])).run S w= .ok (Y (!gW x y)) w:=by
 rw[run_neq_struct,yt];rfl
theorem qk (op:BinOp) (p q:Operand) (x y:Cel) (w:World):(eqGuard op 91 p q (H #[V I x.1.1,V I x.1.2,V I x.2.1,V I x.2.2.1,V I x.2.2.2]) (H #[V I y.1.1,V I y.1.2,V I y.2.1,V I y.2.2.1,V I y.2.2.2])).run S w= .ok () w :=
 run_eqGuard_agg w op 91 p q _ _ (by kernel_rfl)

def kn (l m:List Cel):Bool:=decide (l=m)

theorem rE (l m:List Cel) (A B:Option Addr) (cap dap:Nat) (w:World) (hl:l.length≤maxLen) (hm:m.length≤maxLen) (hr:bD w A l) (hs:bD w B m) :
  Calls S 34 #[O A l.length cap,O B m.length dap] w fun e w'=>e= Z (Y (kn l m))∧Gr w w':=by
 unfold maxLen at hl hm
 have hE:=wV
 have hG:=qk
 by_cases hlen:l.length=m.length
 ·have hlz:((l.length:Int) != (m.length:Int))=false:=by rw[hlen];simp
  have hlH:Hid (l.length=m.length):=hlen
  clear hlen
  go_enter Tryz.func34,Tryz.ntmps34
  go_wp2
  go_loopw [13] (fun i wr=>∃k:Nat,k≤l.length∧i= V I k∧Hid (∀j (h:j<l.length) (h':j<m.length),j<k→l[j]=m[j])∧Gr w wr) (fun i _=>l.length-(intOf i).toNat)
  case atStart=>exact ⟨0,nZ _,rfl,fun j _ _ hj=>absurd hj (Nat.not_lt_zero _),gR _⟩
  case round =>
   obtain ⟨k,hk,rfl,hno,hgr⟩:=hrel
   by_cases hlt:k<l.length
   ·have hltz:(k:Int)<(l.length:Int):=by omega
    have hlt2:k<m.length:=by have:=hlH.out;omega
    have hltz2:(k:Int)<(m.length:Int):=by omega
    obtain ⟨bb,off,rfl,hb,hcs⟩:=bD.get (hr.gr hgr) hlt
    obtain ⟨bb2,off2,rfl,hb2,hcs2⟩:=bD.get (hs.gr hgr) hlt2
    obtain ⟨e0,e1,e2,e3,e4⟩:=hcs k hlt
    obtain ⟨f0,f1,f2,f3,f4⟩:=hcs2 k hlt2
    obtain ⟨x,hx⟩:∃x,l[k]=x:=⟨_,rfl⟩
    obtain ⟨y,hy⟩:∃y,m[k]=y:=⟨_,rfl⟩
    rw[hx] at e0 e1 e2 e3 e4
    rw[hy] at f0 f1 f2 f3 f4
    have hxH:Hid (l[k]=x):=hx
    have hyH:Hid (m[k]=y):=hy
    clear hcs hcs2 hx hy
    cases hq:gW x y
    ·have hfin:Hid (kn l m=false):=by
      show kn l m=false
      simp only[kn,decide_eq_false_iff_not]
      intro h
      subst h
      have:x=y:=hxH.out.symm.trans hyH.out
      rw[iD.2 this] at hq
      cases hq
     go_wp2
     go_quiet (fail)
     go_wp2
     go_ret
     rw[hfin.out]
     exact ⟨rfl,hgr.trans ⟨nq,#[],by rw[grow_empty]⟩⟩
    ·have hne:Hid (l[k]=m[k]):=hxH.out.trans ((iD.1 hq).trans hyH.out.symm)
     go_wp2
     go_quiet (fail)
     go_wp2
     go_roundw
     case rel =>
      refine ⟨k+1,by omega,by go_num,?_,hgr.trans ⟨nq,#[],by rw[grow_empty]⟩⟩
      intro j hj hj' hjk
      by_cases e:j=k
      ·subst e;exact hne
      ·exact hno j hj hj' (by omega)
     case measure=>simp[intOf];omega
   ·have hltz:¬(k:Int)<(l.length:Int):=by omega
    have hfin:Hid (kn l m=true):=by
     show kn l m=true
     simp only[kn,decide_eq_true_eq]
     exact List.ext_getElem hlH.out fun j h1 h2=>hno j h1 h2 (by omega)
    go_wp2
    go_ret
    rw[hfin.out]
    exact ⟨rfl,hgr⟩
 ·have hlz:((l.length:Int) != (m.length:Int))=true:=by simp;omega
  have hfin:Hid (kn l m=false):=by
   show kn l m=false
   simp only[kn,decide_eq_false_iff_not]
   intro h
   exact hlen (by rw[h])
  clear hlen
  go_enter Tryz.func34,Tryz.ntmps34
  go_wp2
  go_ret
  rw[hfin.out]
  exact ⟨rfl,gR _⟩

def fo (s t:Tab):Bool:=j0 s.c t.c && kn s.e t.e

theorem kF (s t:Tab) (A B C D:Option Addr) (ca cb cc cd:Nat) (w:World) (hsl:s.c.l.length≤maxLen) (htl:t.c.l.length≤maxLen) (hse:s.e.length≤maxLen) (hte:t.e.length≤maxLen) (hr:Row w A s.c.l) (hs:Row w C t.c.l) (hre:bD w B s.e) (hte':bD w D t.e) :
  Calls S 14 #[H (T6 s A ca B cb).toArray,H (T6 t C cc D cd).toArray] w fun e w'=>e= Z (Y (fo s t))∧Gr w w':=by
 have hgX:Gr w ((w.alloc (J #[V I s.c.c0,V I s.c.c1,V I s.c.c2,V I s.c.c3,O A s.c.l.length ca,O B s.e.length cb] 41)).alloc (J #[V I t.c.c0,V I t.c.c1,V I t.c.c2,V I t.c.c3,O C t.c.l.length cc,O D t.e.length cd] 41)):=((gR _).alloc _).alloc _
 have hS0:TabAt ((w.alloc (J #[V I s.c.c0,V I s.c.c1,V I s.c.c2,V I s.c.c3,O A s.c.l.length ca,O B s.e.length cb] 41)).alloc (J #[V I t.c.c0,V I t.c.c1,V I t.c.c2,V I t.c.c3,O C t.c.l.length cc,O D t.e.length cd] 41)) w.heap.size s A ca B cb:=(TabAt.new 41 hr hre rfl).gr ((gR _).alloc _)
 have hT0:TabAt ((w.alloc (J #[V I s.c.c0,V I s.c.c1,V I s.c.c2,V I s.c.c3,O A s.c.l.length ca,O B s.e.length cb] 41)).alloc (J #[V I t.c.c0,V I t.c.c1,V I t.c.c2,V I t.c.c3,O C t.c.l.length cc,O D t.e.length cd] 41)) (w.heap.size+1) t C cc D cd:=TabAt.new 41 (hs.gr ((gR _).alloc _)) (hte'.gr ((gR _).alloc _)) (by simp)
 have hc:=xx s.c t.c A C ca cc _ hsl htl hS0.row hT0.row
 have hcH:Hid _:=hc
 clear hc
 go_enter Tryz.func14,Tryz.ntmps14
 go_wp2_with fail
 refine cM (show Calls _ _ _ _ _ from hcH.out) ?_
 rintro e w1 ⟨rfl,hg1⟩
 clear hcH
 have hS1:=hS0.gr hg1
 have hT1:=hT0.gr hg1
 have hgW:Gr w w1:=hgX.trans hg1
 clear hS0 hT0 hgX hg1
 cases hq:j0 s.c t.c
 ·have hfin:Hid (fo s t=false):=by
   show fo s t=false
   unfold fo;rw[hq];rfl
  go_wp2
  go_ret
  rw[hfin.out]
  exact ⟨rfl,hgW⟩
 ·have hfin:Hid (fo s t=kn s.e t.e):=by
   show fo s t=_
   unfold fo;rw[hq];rfl
  have s5:=hS1.k5
  have t5:=hT1.k5
  have he:=rE s.e t.e B D cb cd w1 hse hte hS1.rowC hT1.rowC
  have heH:Hid _:=he
  clear he
  go_wp2_with fail
  refine cM (show Calls _ _ _ _ _ from heH.out) ?_
  rintro e w2 ⟨rfl,hg2⟩
  go_wp2
  go_ret
  rw[hfin.out]
  exact ⟨rfl,hgW.trans hg2⟩

theorem fp (t:Tab):fo t t=true:=by
 unfold fo j0 pT eqL kn
 simp

def clP (l:List Cel) (x:Cel):Bool:=l.any fun y=>decide (y.1=x.1) && !gW y x

theorem vt {l:List Cel} (hs:Asc l) {i j:Nat} (hi:i<l.length) (hj:j<l.length) (h:l[i].1=l[j].1):i=j:=by
 rcases Nat.lt_trichotomy i j with h1|h1|h1
 ·have:=(List.pairwise_iff_getElem.1 hs) i j hi hj h1
  exact absurd h (iC this)
 ·exact h1
 ·have:=(List.pairwise_iff_getElem.1 hs) j i hj hi h1
  exact absurd h.symm (iC this)
theorem zK {l:List Cel} {x:Cel} (hs:Asc l) {i:Nat} (hi:i<l.length) (h:l[i].1=x.1):clP l x= !gW l[i] x:=by
 cases hq:gW l[i] x
 ·unfold clP
  show _=true
  rw[List.any_eq_true]
  exact ⟨l[i],gM hi,by rw[hq];simpa using h⟩
 ·unfold clP
  show _=false
  rw[List.any_eq_false]
  intro y hy
  obtain ⟨j,hj,rfl⟩:=List.getElem_of_mem hy
  by_cases hd:l[j].1=x.1
  ·obtain rfl:=vt hs hi hj (h.trans hd.symm)
   rw[hq];simp
  ·simp[hd]
theorem vF {l:List Cel} {x:Cel} (h:gS l x.1=false):clP l x=false:=by
 unfold gS at h
 rw[List.any_eq_false] at h
 unfold clP
 rw[List.any_eq_false]
 intro y hy
 have:=h y hy
 simp at this ⊢
 intro he
 exact absurd he this

theorem ru (l:List Cel) (B:Option Addr) (cb:Nat) (p:Nat) (x:Cel) (w:World) (hl:l.length≤400) (hp:p<w.heap.size) (kp:w.cell? ⟨p,0,none⟩=some (O B l.length cb)) (hr:bD w B l) (hs:Asc l) :
  Calls S 111 #[H #[V I x.1.1,V I x.1.2,V I x.2.1,V I x.2.2.1,V I x.2.2.2],X (some ⟨p,0,none⟩)] w fun e w'=>e= Z (Y (clP l x))∧Gr w w':=by
 have mixed:Tryz.prog.follows .mixedOrders=true:=by kernel_rfl
 have hx0:CelAt (w.alloc (J #[V I x.1.1,V I x.1.2,V I x.2.1,V I x.2.2.1,V I x.2.2.2] 91)) w.heap.size x:=CelAt.new x 91 rfl
 have hg0:Gr w (w.alloc (J #[V I x.1.1,V I x.1.2,V I x.2.1,V I x.2.2.1,V I x.2.2.2] 91)):=(gR w).alloc _
 go_enter Tryz.func111,Tryz.ntmps111
 go_wp2_with fail
 refine (kO l B cb x _ hl (hr.gr hg0) hs).mono ?_
 rintro e w1 ⟨i,rfl,hf,hg1⟩
 have hgW:Gr w w1:=hg0.trans hg1
 have kp1:w1.cell? ⟨p,0,none⟩=some (O B l.length cb):=(hgW.cell (p:=⟨p,0,none⟩) hp).trans kp
 have hp1:p<w1.heap.size:=nL hp hgW.size
 have hx1:=hx0.gr hg1
 have hr1:=hr.gr hgW
 clear hx0 hg0 hg1 kp hr
 cases hm:gS l x.1
 ·have hfin:Hid (clP l x=false):=vF hm
  clear hf
  go_wp2
  refine wp_region_quiet_grown mixed (by kernel_rfl) ?_
  repeat (go_big_quiet_step (fail))
  refine wpQuiet_nil ?_
  rintro _ ⟨⟨nq2,osq2⟩,rfl⟩
  go_wp2
  go_ret
  rw[hfin.out]
  exact ⟨rfl,hgW.trans ⟨nq2,osq2,rfl⟩⟩
 ·obtain ⟨hi,hd⟩:=hf hm
  have hfin:Hid (clP l x= !gW l[i] x):=zK hs hi hd
  have hiz:(i:Int)<(l.length:Int):=by omega
  obtain ⟨bb,off,rfl,hb,hcs⟩:=bD.get hr1 hi
  obtain ⟨y,hy⟩:∃y,l[i]=y:=⟨_,rfl⟩
  obtain ⟨e0,e1,e2,e3,e4⟩:=hcs i hi
  rw[hy] at e0 e1 e2 e3 e4 hfin
  have q0:=cell_grown (a:=⟨bb,off+i*5,none⟩) hb e0
  have q1:=cell_grown (a:=⟨bb,off+i*5+1,none⟩) hb e1
  have q2:=cell_grown (a:=⟨bb,off+i*5+2,none⟩) hb e2
  have q3:=cell_grown (a:=⟨bb,off+i*5+3,none⟩) hb e3
  have q4:=cell_grown (a:=⟨bb,off+i*5+4,none⟩) hb e4
  have kG:=cell_grown (a:=⟨p,0,none⟩) hp1 kp1
  obtain ⟨x0,x1,x2,x3,x4⟩:=hx1.G
  have hE:=wV
  have hG:=qk
  clear e0 e1 e2 e3 e4 hcs hf hd hy hs
  go_wp2
  refine wp_region_quiet_grown mixed (by kernel_rfl) ?_
  repeat (go_big_quiet_step (fail))
  refine wpQuiet_nil ?_
  rintro _ ⟨⟨nq2,osq2⟩,rfl⟩
  go_wp2
  go_ret
  rw[hfin.out]
  exact ⟨rfl,hgW.trans ⟨nq2,osq2,rfl⟩⟩

theorem tM (a b:List Cel) (A B:Option Addr) (ca cb:Nat) (w:World) (hal:a.length≤400) (hbl:b.length≤400) (hra:bD w A a) (hrb:bD w B b) (hs:Asc b) :
  Calls S 75 #[O A a.length ca,O B b.length cb] w fun e w'=>e= Z (Y (a.any (clP b)))∧Gr w w':=by
 have hg0:Gr w (w.alloc (J #[O B b.length cb] 39)):=(gR w).alloc _
 have k0:(w.alloc (J #[O B b.length cb] 39)).cell? ⟨w.heap.size,0,none⟩=some (O B b.length cb):=aa (gR _) rfl
 have hlt0:w.heap.size<(w.alloc (J #[O B b.length cb] 39)).heap.size:=by simp
 have hpr:sJ 111 #[X (some ⟨w.heap.size,0,none⟩)] (clP b) (w.alloc (J #[O B b.length cb] 39)):=fun W hg x =>
  ru b B cb w.heap.size x W hbl (nL hlt0 hg.size) ((hg.cell (p:=⟨w.heap.size,0,none⟩) hlt0).trans k0) (hrb.gr (hg0.trans hg)) hs
 have hc:=fA (clP b) 111 #[X (some ⟨w.heap.size,0,none⟩)] (enters_of Tryz.func111 (by kernel_rfl) rfl) a A ca _ (by unfold maxLen;omega) (hra.gr hg0) hpr
 have hcH:Hid _:=hc
 clear hc hpr
 go_enter Tryz.func75,Tryz.ntmps75
 go_wp2_with fail
 refine cM (show Calls _ _ _ _ _ from hcH.out) ?_
 rintro e w1 ⟨rfl,hg1⟩
 go_wp2
 go_ret
 exact ⟨rfl,hg0.trans hg1⟩


abbrev dL (w:World) (base:Nat) (v:Value) (l:List Cel):Prop:=ai gQ 5 91 w base v l
theorem Tryz.infoC:(Tryz.prog.info? 91).map (fun i=>(i.zero,i.size,i.bytes))=some (some (H #[V I 0,V I 0,V I 0,V I 0,V I 0]),5,40):=by kernel_rfl

theorem jS {W:World} {n:Nat} (hn:W.heap.size=n) (x:Cel) (T:TypeId):bD (W.alloc (J #[V I x.1.1,V I x.1.2,V I x.2.1,V I x.2.2.1,V I x.2.2.2] T)) (some ⟨n,0,none⟩) [x]:=by
 subst hn
 refine oR ⟨W.heap.size,0,rfl,by simp,fun j hj i hi=> ?_⟩
 obtain rfl:j=0:=by simp at hj;omega
 match i,hi with
 | 0,_=>exact aa (w:=W) (gR _) (j:=0) rfl
 | 1,_=>exact aa (w:=W) (gR _) (j:=1) rfl
 | 2,_=>exact aa (w:=W) (gR _) (j:=2) rfl
 | 3,_=>exact aa (w:=W) (gR _) (j:=3) rfl
 | 4,_=>exact aa (w:=W) (gR _) (j:=4) rfl

theorem dO (w:World) {ops:Array Oper} {rest:List Oper} {o:Oper} {a:Act} {Q:Exit→Act→World→Prop} (hgd:o.guard=none) (s x:Operand)
  (ho:o.op= .call { callee:= .builtin .append,args:= #[s,x],argTypes:= #[39,39] })
  (base:Nat) (v:Value) (l m:List Cel) (A:Option Addr) (cap:Nat) (hs:a.eval s=v) (hx:a.eval x= O A m.length cap) (hown:dL w base v l) (hr:bD w A m) (hA:A=none→cap=0)
  (hml:l.length+m.length≤maxLen) (hb:(l.length+m.length)*40≤140737488355328) (hbase:base≤w.heap.size)
  (h:∀v' w',dL w' base v' (l++m)→w.grownBy w' v.ownBlock→wpList S ops Q rest (a.put o.dst v') w'):wpList S ops Q (o::rest) a w :=
 wpList_plain hgd fun _ hK=>ec dM lT (by omega) 39 Tryz.underlying39 (H #[V I 0,V I 0,V I 0,V I 0,V I 0]) 40 Tryz.infoC rfl w s x ho base v l m A cap hs hx hown hr hA hml hb hbase fun v' w' h2 h3=>hK _ _ (h v' w' h2 h3)

theorem i7 {p:Cel→Bool} {l:List Cel} {k:Nat} (h:k<l.length) {x:Cel} (hx:l[k]=x):(l.take (k+1)).filter p=(l.take k).filter p++(if p x then [x] else []):=by
 rw[List.take_succ_eq_append_getElem h,List.filter_append,hx]
 cases hq:p x<;>simp[hq]
theorem nY (p:Cel→Bool) (l:List Cel) (k:Nat):((l.take k).filter p).length≤l.length:=nT (List.length_filter_le _ _) (by rw[List.length_take];omega)

section
open Go.Shelf Go.Lib

def sK (l:List Cel):Prop:=∀x∈l,∀y∈l,x.1=y.1→x=y
def fM (x y:Cel):Bool:=bI x.1 y.1
def gH (l:List Cel):List Cel:=l.mergeSort fun x y=> !fM y x

theorem pN (x y:Cel):fM x y=true↔x.1.1<y.1.1∨(x.1.1=y.1.1∧x.1.2<y.1.2):=jA _ _
theorem jz (x y:Cel):fM x y=false↔y.1.1<x.1.1∨(x.1.1=y.1.1∧y.1.2≤x.1.2):=by
 simp[fM,bI];omega
theorem Bp {cf:Cel→Cel→Int} (hcf:∀x y,ltOf cf x y=fM x y):SWO (ltOf cf) where
 irrefl x:=by rw[hcf];simp[fM,bI]
 trans x y z h1 h2:=by rw[hcf,pN] at *;omega
 ntrans x y z h1 h2:=by rw[hcf,jz] at *;omega
theorem iw (l:List Cel):(gH l).length=l.length:=by simp[gH]
theorem iQ (l:List Cel):(gH l).Perm l:=List.mergeSort_perm _ _
theorem oQ (l:List Cel):(gH l).Pairwise fun x y=>(!fM y x)=true:=by
 refine List.pairwise_mergeSort ?_ ?_ _
 ·intro a b c h1 h2
  simp only[Bool.not_eq_true',jz] at h1 h2 ⊢
  omega
 ·intro a b
  cases h:fM b a
  ·simp
  ·have:fM a b=false:=by rw[jz];rw[pN] at h;omega
   simp[this]
theorem sS {x y:Cel} (h1:(!fM y x)=true) (h2:(!fM x y)=true):x.1=y.1:=by
 simp only[Bool.not_eq_true',jz] at h1 h2
 exact Prod.ext (by omega) (by omega)
theorem ze {l m:List Cel} (hu:sK l) (hp:m.Perm l) (hs:m.Pairwise fun x y=>(!fM y x)=true):m=gH l:=by
 refine List.Perm.eq_of_pairwise (le:=fun x y=>(!fM y x)=true) ?_ hs (oQ l) (hp.trans (iQ l).symm)
 intro a b ha hb h1 h2
 exact hu a (hp.mem_iff.1 ha) b ((iQ l).mem_iff.1 hb) (sS h1 h2)
theorem xB {l:List Cel} (hn:(l.map (·.1)).Nodup):Asc (gH l):=by
 have h1:=oQ l
 have h2:((gH l).map (·.1)).Nodup:=((iQ l).map (·.1)).nodup_iff.2 hn
 have h3:(gH l).Pairwise fun x y=>x.1≠y.1:=List.pairwise_map.1 h2
 unfold Asc
 refine (h1.and h3).imp ?_
 intro x y ⟨h4,h5⟩
 cases h6:bI x.1 y.1
 ·exfalso
  refine h5 (sS h4 ?_)
  show (!bI x.1 y.1)=true
  rw[h6];rfl
 ·rfl

theorem zU {w:World} {g:Nat} {l:List Cel} (h:bD w (some ⟨g,0,none⟩) l) (hf:∀j,w.frozen? ⟨g,j,none⟩=false):HoldsK gQ 5 w g 0 l.toArray:=by
 intro t ht
 rw[size_flatK] at ht
 rw[get_flatK _ _ _ t ht]
 simp only[List.size_toArray] at ht
 have hk:t / 5<l.length:=by omega
 refine ⟨?_,hf _⟩
 obtain ⟨b,off,hA,hb,hc⟩:=h.at hk
 obtain ⟨rfl,rfl⟩:g=b∧0=off:=by injection hA with hA;injection hA with h1 h2;exact ⟨h1,h2⟩
 have e:l.toArray[t / 5]! = l[t / 5]:=by simp[hk]
 rw[e]
 have:=hc (t / 5) hk (t % 5) (Nat.mod_lt _ (by omega))
 rw[show 0+t / 5*5+t % 5=0+t from by omega] at this
 rw[this]
 have hm:t % 5<5:=Nat.mod_lt _ (by omega)
 match t % 5,hm with
 | 0,_=>rfl
 | 1,_=>rfl
 | 2,_=>rfl
 | 3,_=>rfl
 | 4,_=>rfl

theorem AN {w:World} {g:Nat} {l:List Cel} (h:HoldsK gQ 5 w g 0 l.toArray) (hg:g<w.heap.size):bD w (some ⟨g,0,none⟩) l:=by
 refine oR ⟨g,0,rfl,hg,fun j hj i hi=> ?_⟩
 have h0:=(h (j*5+i) (by rw[size_flatK];simp;omega)).1
 rw[get_flatK _ _ _ _ (by simp;omega)] at h0
 rw[show (j*5+i) / 5=j from by omega,show (j*5+i) % 5=i from by omega] at h0
 have e:l.toArray[j]! = l[j]:=by simp[hj]
 rw[e] at h0
 rw[show 0+j*5+i=0+(j*5+i) from by omega,h0]
 match i,hi with
 | 0,_=>rfl
 | 1,_=>rfl
 | 2,_=>rfl
 | 3,_=>rfl
 | 4,_=>rfl

theorem pP {w:World} {g n base:Nat} {os:Array Obj} {d:Array Cel} (hb:base≤g) (hs:base≤w.heap.size):Go.RowKit.Below base w (sortWorldK gQ 5 w g 0 n d os):=by
 refine ⟨rfl,rfl,rfl,by simp[sortWorldK,grow,putRowK],fun k hk=> ?_⟩
 show ((putRowK gQ 5 (Sort.ahead w n) g 0 d).heap++os)[k]? = _
 rw[Array.getElem?_append_left (by simp[putRowK];omega)]
 show ((Sort.ahead w n).heap.modify g _)[k]? = _
 rw[Array.getElem?_modify,if_neg (by omega)]
 rfl

theorem Ah {cf:Cel→Cel→Int} (hcf:∀x y,ltOf cf x y=fM x y) (fid:Nat) (cb:Array Value) (eg:∀args w,(callFunc fid args).run S w= .ok (.enter fid args) w) (g cap:Nat) (l:List Cel) (w:World) (hcmp:CmpLays S fid cb gQ 5 cf g 0 l.length w) (hu:sK l) (hH:HoldsK gQ 5 w g 0 l.toArray) (hg:g<w.heap.size) (hsz:l.length<4611686018427387904) :
  Calls S 116 #[O (some ⟨g,0,none⟩) l.length cap,.func (.func fid) #[] cb] w fun e w'=>e= Z (U #[])∧bD w' (some ⟨g,0,none⟩) (gH l)∧∀base,base≤g→base≤w.heap.size→Go.RowKit.Below base w w':=by
 have hcon:=AnyQ.slices_SortFunc Tryz.sortCell 5 Tryz.isAgg91 Tryz.sizeOf91 gQ (fun _=>rfl) lT cf (Bp hcf) fid cb g 0 cap l.toArray w eg (by simpa using hcmp) hH hg (by simpa using hsz)
 change Calls S 116 _ _ _ at hcon
 simp only[List.size_toArray] at hcon
 refine hcon.mono ?_
 rintro e w' ⟨he,d',n,os,hp,hs,hw⟩
 obtain ⟨hsz',_,hperm⟩:=hp
 simp only[List.size_toArray] at hsz'
 have e1:d'.extract 0 l.length=d':=by rw[←hsz'];exact Array.extract_size
 have e2:(l.toArray.extract 0 l.length).toList=l:=by simp
 rw[e1,e2] at hperm
 have hpw:d'.toList.Pairwise fun x y=>(!fM y x)=true:=by
  rw[List.pairwise_iff_getElem]
  intro i j hi hj hij
  have hi':i<d'.size:=by simpa using hi
  have hj':j<d'.size:=by simpa using hj
  have:=hs i j (nZ _) hij (by omega)
  rw[getElem!_pos d' j hj',getElem!_pos d' i hi',hcf] at this
  simpa using this
 have hd:d'=(gH l).toArray:=by
  have:=ze hu hperm hpw
  rw[←this]
 subst hd
 refine ⟨he,?_,fun base h1 h2=>by rw[hw];exact pP h1 h2⟩
 have hH':HoldsK gQ 5 w' g 0 (gH l).toArray:=by
  rw[hw]
  refine holdsK_grow _ _ _ _ _ _ _ (by simp[putRowK];exact hg) ?_
  exact holdsK_putRowK _ _ _ _ _ l.toArray _ (holdsK_ahead _ _ _ _ _ _ _ hH) (by simp[iw])
 refine AN hH' ?_
 rw[hw]
 simp[sortWorldK,grow,putRowK]
 omega

theorem xz {cf:Cel→Cel→Int} (hcf:∀x y,ltOf cf x y=fM x y) (fid:Nat) (cb:Array Value) (eg:∀args w,(callFunc fid args).run S w= .ok (.enter fid args) w) (base:Nat) (v:Value) (l:List Cel) (w:World) (hcmp:∀g,CmpLays S fid cb gQ 5 cf g 0 l.length w) (hu:sK l) (hown:dL w base v l) (hb:base≤w.heap.size) (hsz:l.length<4611686018427387904) :
  Calls S 116 #[v,.func (.func fid) #[] cb] w fun e w'=>e= Z (U #[])∧(∃C cap,v= O C (gH l).length cap∧bD w' C (gH l)∧(C=none→cap=0)∧∀a,C=some a→base≤a.block)∧Go.RowKit.Below base w w':=by
 obtain ⟨A,cap,rfl,hA,hrow,hcap,hlt,hfz⟩:=ai.full dM hown
 by_cases h0:l=[]
 ·subst h0
  have hcon:=AnyF.slices_SortFunc_none Tryz.sortCell A cap (.func (.func fid) #[] cb) w
  change Calls S 116 _ _ _ at hcon
  refine hcon.mono ?_
  rintro e w' ⟨he,rfl⟩
  exact ⟨he,⟨A,cap,by simp[gH],oL (by simp[gH]),hA,fun a ha=>(hlt a ha).1⟩,bR _ _⟩
 ·have hpos:0<l.length:=List.length_pos_iff.2 h0
  obtain ⟨b,off,hAe,hbb,_⟩:=hrow.at hpos
  subst hAe
  have h5:=hlt _ rfl
  obtain rfl:off=0:=h5.2.2.1
  refine (Ah hcf fid cb eg b cap l w (hcmp b) hu (zU hrow (hfz _ rfl)) hbb hsz).mono ?_
  rintro e w' ⟨he,hr',hbel⟩
  refine ⟨he,⟨_,cap,by rw[iw],hr',hA,fun a ha=>(hlt a ha).1⟩,hbel base h5.1 hb⟩

theorem Az (x y:Cel):ltOf (fun x y:Cel=>el x.1 y.1) x y=fM x y:=by
 unfold ltOf fM
 cases h:bI x.1 y.1
 ·have:=io h
  simp;omega
 ·simp[im h]
theorem zL (blk off size:Nat) (w:World):CmpLays S 70 #[] gQ 5 (fun x y:Cel=>el x.1 y.1) blk off size w :=
 fun _ _ _ _ x y=>mE x y _

end
end Go.Proofs.YtclfpkibchoneaaGreatDoor
