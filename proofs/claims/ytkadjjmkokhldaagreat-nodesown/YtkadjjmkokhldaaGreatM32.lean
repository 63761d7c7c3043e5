/-
  slices.BinarySearchFunc at cells, with table.order.
  viewref.SameContext: whether two contexts are the same.
  slices.Equal at cells; viewref.SameTable: whether two tables are the same.
-/
import Derived.Test.YtkadjjmkokhldaaGreatM03
import Derived.Test.YtkadjjmkokhldaaGreatM04
import Derived.ChangeKeysEq
namespace Go.Proofs.YtkadjjmkokhldaaGreat
open Go.RowKit Go.Sort

theorem befT_iff (x y:Int×Int):befB x y=true↔x.1<y.1∨(x.1=y.1∧x.2<y.2):=by simp[befB]
theorem befT_trans {x y z:Int×Int} (h:befB x y=true) (k:befB y z=true):befB x z=true:=by rw[befT_iff] at *;omega
theorem befT_irr (x:Int×Int):befB x x=false:=by simp[befB]
theorem befT_ne {x y:Int×Int} (h:befB x y=true):x≠y:=by rintro rfl;rw[befT_irr] at h;cases h
theorem ordI_zero (x y:Int×Int):ordI x y=0↔x=y:=by
 obtain ⟨a,b⟩:=x
 obtain ⟨c,d⟩:=y
 unfold ordI cmpI
 simp only[Prod.mk.injEq]
 constructor
 ·intro h
  by_cases h1:a<c
  ·simp[h1] at h
  ·by_cases h2:c<a
   ·simp[h1,h2] at h
   ·by_cases h3:b<d
    ·simp[h1,h2,h3] at h
    ·by_cases h4:d<b
     ·simp[h1,h2,h3,h4] at h
     ·omega
 ·rintro ⟨rfl,rfl⟩;simp
/-- The cell's cells, some draws and blocks on. -/
theorem CelAt.G {w:World} {B:Nat} {x:Cel} (h:CelAt w B x):(∀n os,(grow (w.drewN n) os).cell? ⟨B,0,none⟩=some (.int .i64 x.1.1))∧(∀n os,(grow (w.drewN n) os).cell? ⟨B,1,none⟩=some (.int .i64 x.1.2))∧(∀n os,(grow (w.drewN n) os).cell? ⟨B,2,none⟩=some (.int .i64 x.2.1))∧(∀n os,(grow (w.drewN n) os).cell? ⟨B,3,none⟩=some (.int .i64 x.2.2.1))∧(∀n os,(grow (w.drewN n) os).cell? ⟨B,4,none⟩=some (.int .i64 x.2.2.2)) :=
 ⟨cell_grown (a:=⟨B,0,none⟩) h.lt h.k0,cell_grown (a:=⟨B,1,none⟩) h.lt h.k1,cell_grown (a:=⟨B,2,none⟩) h.lt h.k2,cell_grown (a:=⟨B,3,none⟩) h.lt h.k3,cell_grown (a:=⟨B,4,none⟩) h.lt h.k4⟩

/-- Rising by the dots. -/
def Asc (l:List Cel):Prop:=l.Pairwise fun x y=>befB x.1 y.1=true
/-- One of the cells has the dot. -/
def memD (l:List Cel) (d:Int×Int):Bool:=l.any fun y=>decide (y.1=d)

/-- Where the search ends: the first cell whose dot is not ahead. -/
theorem memD_end {l:List Cel} {d:Int×Int} {a:Nat} (hs:Asc l) (h1:∀k (h:k<l.length),k<a→befB l[k].1 d=true) (h2:∀k (h:k<l.length),a≤k→befB l[k].1 d=false) :
  memD l d=decide (∃h:a<l.length,l[a].1=d):=by
 by_cases hm:∃h:a<l.length,l[a].1=d
 ·rw[decide_eq_true hm]
  obtain ⟨h,e⟩:=hm
  unfold memD
  rw[List.any_eq_true]
  exact ⟨l[a],List.getElem_mem h,by simpa using e⟩
 ·rw[decide_eq_false hm]
  unfold memD
  rw[List.any_eq_false]
  intro y hy he
  have he':y.1=d:=by simpa using he
  obtain ⟨k,hk,rfl⟩:=List.getElem_of_mem hy
  by_cases hka:k<a
  ·exact befT_ne (h1 k hk hka) he'
  ·by_cases e:k=a
   ·subst e;exact hm ⟨hk,he'⟩
   ·have h3:=(List.pairwise_iff_getElem.1 hs) a k (by omega) hk (by omega)
    rw[he',h2 a (by omega) (Nat.le_refl _)] at h3
    cases h3

set_option maxRecDepth 100000 in
set_option maxHeartbeats 1000000 in
theorem bsearch_any (l:List Cel) (A:Option Addr) (cap:Nat) (x:Cel) (w:World) (hl:l.length≤400) (hr:RowC w A l) (hs:Asc l) :
  Calls Tryz.prog 62 #[.slice A l.length cap,.agg #[.int .i64 x.1.1,.int .i64 x.1.2,.int .i64 x.2.1,.int .i64 x.2.2.1,.int .i64 x.2.2.2],.func (.func 60) #[] #[]] w fun e w'=>∃i:Nat,e= .returned (.tuple #[.int .i64 i,.bool (memD l x.1)])∧(memD l x.1=true→∃h:i<l.length,l[i].1=x.1)∧Gr w w':=by
 have mixed:Tryz.prog.follows .mixedOrders=true:=by kernel_rfl
 have hx0:CelAt (w.alloc (.cells #[.int .i64 x.1.1,.int .i64 x.1.2,.int .i64 x.2.1,.int .i64 x.2.2.1,.int .i64 x.2.2.2] 55)) w.heap.size x:=CelAt.new x 55 rfl
 have hg0:Gr w (w.alloc (.cells #[.int .i64 x.1.1,.int .i64 x.1.2,.int .i64 x.2.1,.int .i64 x.2.2.1,.int .i64 x.2.2.2] 55)):=(Gr.refl w).alloc _
 have hsH:Hid (Asc l):=hs
 clear hs
 go_enter Tryz.func62,Tryz.ntmps62
 go_wp2
 generalize w.alloc (.cells #[.int .i64 x.1.1,.int .i64 x.1.2,.int .i64 x.2.1,.int .i64 x.2.2.1,.int .i64 x.2.2.2] 55)=w0 at hx0 hg0 ⊢
 go_loopw [9,10] (fun i j wr=>∃a b:Nat,a≤b∧b≤l.length∧i= .int .i64 a∧j= .int .i64 b∧Hid ((∀k (h:k<l.length),k<a→befB l[k].1 x.1=true)∧(∀k (h:k<l.length),b≤k→befB l[k].1 x.1=false))∧Gr w0 wr) (fun i j _=>(intOf j).toNat-(intOf i).toNat)
 case atStart=>exact ⟨0,l.length,by omega,by omega,rfl,rfl,⟨fun k _ h=>absurd h (Nat.not_lt_zero _),fun k h1 h2=>by omega⟩,Gr.refl _⟩
 case round =>
  obtain ⟨a,b,hab,hbl,rfl,rfl,hinv,hgr⟩:=hrel
  have hxR:=hx0.gr hgr
  obtain ⟨x0,x1,x2,x3,x4⟩:=hxR.G
  by_cases hlt:a<b
  ·have hltz:(a:Int)<(b:Int):=by omega
   obtain ⟨h,hh⟩:∃h,(a+b) / 2=h:=⟨_,rfl⟩
   have hha:a≤h:=by omega
   have hhb:h<b:=by omega
   have hhl:h<l.length:=by omega
   obtain ⟨bb,off,rfl,hb,hcs⟩:=RowC.get (hr.gr (hg0.trans hgr)) hhl
   obtain ⟨y,hy⟩:∃y,l[h]=y:=⟨_,rfl⟩
   obtain ⟨e0,e1,e2,e3,e4⟩:=hcs h hhl
   rw[hy] at e0 e1 e2 e3 e4
   have q0:=cell_grown (a:=⟨bb,off+h*5,none⟩) hb e0
   have q1:=cell_grown (a:=⟨bb,off+h*5+1,none⟩) hb e1
   have q2:=cell_grown (a:=⟨bb,off+h*5+2,none⟩) hb e2
   have q3:=cell_grown (a:=⟨bb,off+h*5+3,none⟩) hb e3
   have q4:=cell_grown (a:=⟨bb,off+h*5+4,none⟩) hb e4
   clear e0 e1 e2 e3 e4
   have hyH:Hid (l[h]=y):=hy
   clear hcs hy
   have hz:((a:Int)+(b:Int)) / 2=(h:Int):=by omega
   have hhz:(h:Int)<(l.length:Int):=by omega
   have hhH:Hid ((a+b) / 2=h):=hh
   clear hh
   cases hbe:befB y.1 x.1
   ·have hge:=ordI_not hbe
    have hgez:(decide (ordI y.1 x.1<0))=false:=decide_eq_false (by omega)
    go_wp2
    refine wp_region_quiet_grown mixed (by kernel_rfl) ?_
    repeat (go_big_quiet_step ((go_at_call 60;refine Calls.grown_of (orderC_g rfl _))))
    refine wpQuiet_nil ?_
    rintro _ ⟨⟨nq2,osq2⟩,rfl⟩
    go_wp2
    go_roundw
    case rel =>
     refine ⟨a,h,hha,by omega,rfl,rfl,⟨hinv.out.1,fun k hk hhk=> ?_⟩,hgr.trans ⟨nq2,osq2,rfl⟩⟩
     by_cases e:k=h
     ·subst e;rw[hyH.out];exact hbe
     ·have:=(List.pairwise_iff_getElem.1 hsH.out) h k hhl hk (by omega)
      rw[hyH.out] at this
      cases hk2:befB l[k].1 x.1
      ·rfl
      ·rw[befT_trans this hk2] at hbe;cases hbe
    case measure=>simp[intOf];omega
   ·have hge:=ordI_bef hbe
    go_wp2
    refine wp_region_quiet_grown mixed (by kernel_rfl) ?_
    repeat (go_big_quiet_step ((go_at_call 60;refine Calls.grown_of (orderC_g hge _))))
    refine wpQuiet_nil ?_
    rintro _ ⟨⟨nq2,osq2⟩,rfl⟩
    go_wp2
    go_roundw
    case rel =>
     refine ⟨h+1,b,by omega,hbl,by go_num,rfl,⟨fun k hk hkh=> ?_,hinv.out.2⟩,hgr.trans ⟨nq2,osq2,rfl⟩⟩
     by_cases e:k=h
     ·subst e;rw[hyH.out];exact hbe
     ·have:=(List.pairwise_iff_getElem.1 hsH.out) k h hk hhl (by omega)
      rw[hyH.out] at this
      exact befT_trans this hbe
    case measure=>simp[intOf];omega
  ·have hltz:¬(a:Int)<(b:Int):=by omega
   obtain rfl:a=b:=by omega
   have hme:=memD_end hsH.out hinv.out.1 hinv.out.2
   have hwR:Gr w wr:=hg0.trans hgr
   clear hlt
   by_cases hal:a<l.length
   ·have halz:(a:Int)<(l.length:Int):=by omega
    obtain ⟨bb,off,rfl,hb,hcs⟩:=RowC.get (hr.gr hwR) hal
    obtain ⟨y,hy⟩:∃y,l[a]=y:=⟨_,rfl⟩
    obtain ⟨e0,e1,e2,e3,e4⟩:=hcs a hal
    rw[hy] at e0 e1 e2 e3 e4
    have q0:=cell_grown (a:=⟨bb,off+a*5,none⟩) hb e0
    have q1:=cell_grown (a:=⟨bb,off+a*5+1,none⟩) hb e1
    have q2:=cell_grown (a:=⟨bb,off+a*5+2,none⟩) hb e2
    have q3:=cell_grown (a:=⟨bb,off+a*5+3,none⟩) hb e3
    have q4:=cell_grown (a:=⟨bb,off+a*5+4,none⟩) hb e4
    clear e0 e1 e2 e3 e4
    have hyH:Hid (l[a]=y):=hy
    clear hcs
    by_cases hq:y.1=x.1
    ·have hoz:=(ordI_zero y.1 x.1).2 hq
     have hfin:Hid (memD l x.1=true∧∃h:a<l.length,l[a].1=x.1):=by
      have hex:∃h:a<l.length,l[a].1=x.1:=⟨hal,by rw[hy];exact hq⟩
      exact ⟨by rw[hme];exact decide_eq_true hex,hex⟩
     clear hme hq hy
     go_wp2
     refine wp_region_quiet_grown mixed (by kernel_rfl) ?_
     repeat (go_big_quiet_step ((go_at_call 60;refine Calls.grown_of (orderC_g hoz _))))
     refine wpQuiet_nil ?_
     rintro _ ⟨⟨nq2,osq2⟩,rfl⟩
     go_wp2
     go_ret2
     rw[hfin.out.1]
     exact ⟨a,rfl,fun _=>hfin.out.2,hwR.trans ⟨nq2,osq2,rfl⟩⟩
    ·have hoz:(ordI y.1 x.1==0)=false:=beq_eq_false_iff_ne.2 (fun h=>hq ((ordI_zero y.1 x.1).1 h))
     have hfin:Hid (memD l x.1=false):=by
      show memD l x.1=false
      rw[hme]
      refine decide_eq_false ?_
      rintro ⟨_,h⟩
      rw[hy] at h
      exact hq h
     clear hme hq hy
     go_wp2
     refine wp_region_quiet_grown mixed (by kernel_rfl) ?_
     repeat (go_big_quiet_step ((go_at_call 60;refine Calls.grown_of (orderC_g rfl _))))
     refine wpQuiet_nil ?_
     rintro _ ⟨⟨nq2,osq2⟩,rfl⟩
     go_wp2
     go_ret2
     rw[hfin.out]
     exact ⟨a,rfl,(fun h=>by cases h),hwR.trans ⟨nq2,osq2,rfl⟩⟩
   ·have halz:¬(a:Int)<(l.length:Int):=by omega
    have hfin:Hid (memD l x.1=false):=by
     show memD l x.1=false
     rw[hme]
     refine decide_eq_false ?_
     rintro ⟨h,_⟩
     exact hal h
    clear hme
    go_wp2
    refine wp_region_quiet_grown mixed (by kernel_rfl) ?_
    repeat (go_big_quiet_step (fail))
    refine wpQuiet_nil ?_
    rintro _ ⟨⟨nq2,osq2⟩,rfl⟩
    go_wp2
    go_ret2
    rw[hfin.out]
    exact ⟨a,rfl,(fun h=>by cases h),hwR.trans ⟨nq2,osq2,rfl⟩⟩

end Go.Proofs.YtkadjjmkokhldaaGreat

namespace Go.Proofs.YtkadjjmkokhldaaGreat
open Go.RowKit Go.Sort

theorem Tryz.info3:(Tryz.prog.info? 3).map (fun i=>(i.zero,i.size,i.bytes))=some (some (.int .i64 0),1,8):=by kernel_rfl

/-- Two clocks are the same. -/
def clkEq (a b c d a' b' c' d':Int):Bool:=decide ((a,b,c,d)=(a',b',c',d'))

/-- '==' on two clocks. -/
theorem eqClk (a b c d a' b' c' d':Int) (w:World):(binOp .eql 31 (.agg #[.int .i64 a,.int .i64 b,.int .i64 c,.int .i64 d]) (.agg #[.int .i64 a',.int .i64 b',.int .i64 c',.int .i64 d'])).run Tryz.prog w= .ok (.bool (clkEq a b c d a' b' c' d')) w:=by
 unfold clkEq
 obtain ⟨i0,hi,hz0,hz1,hz2⟩:=info_parts Tryz.info3
 have u3:=Tryz.underlying3
 have a3:=Tryz.isAgg3
 have z3:=Tryz.sizeOf3
 have c3:Tryz.prog.cellsOf 3=1:=by kernel_rfl
 rw[run_eql_struct,show (10000:Nat)=9998+1+1 from rfl,run_equalIn_array w (9998+1) _ _ Tryz.underlying31 hi,c3]
 simp only[show List.range 4=[0,1,2,3] from rfl,Op.eqItems]
 go_simp
 by_cases h1:a=a'<;>by_cases h2:b=b'<;>by_cases h3:c=c'<;>by_cases h4:d=d'<;>simp[h1,h2,h3,h4]

theorem guardClk (op:BinOp) (p q:Operand) (a b c d a' b' c' d':Int) (w:World):(eqGuard op 31 p q (.agg #[.int .i64 a,.int .i64 b,.int .i64 c,.int .i64 d]) (.agg #[.int .i64 a',.int .i64 b',.int .i64 c',.int .i64 d'])).run Tryz.prog w= .ok () w :=
 run_eqGuard_agg w op 31 p q _ _ (by kernel_rfl)

/-- Two contexts are the same. -/
def sameB (c d:Ctx):Bool:=clkEq c.c0 c.c1 c.c2 c.c3 d.c0 d.c1 d.c2 d.c3 && eqL c.l d.l

set_option maxHeartbeats 1000000 in
theorem same_any (c d:Ctx) (A B:Option Addr) (cap dap:Nat) (w:World) (hl:c.l.length≤maxLen) (hm:d.l.length≤maxLen) (hr:Row w A c.l) (hs:Row w B d.l) :
  Calls Tryz.prog 34 #[.agg #[.int .i64 c.c0,.int .i64 c.c1,.int .i64 c.c2,.int .i64 c.c3,.slice A c.l.length cap],.agg #[.int .i64 d.c0,.int .i64 d.c1,.int .i64 d.c2,.int .i64 d.c3,.slice B d.l.length dap]] w fun e w'=>e= .returned (.bool (sameB c d))∧Gr w w':=by
 have hE:=eqClk
 have hG:=guardClk
 cases hq:clkEq c.c0 c.c1 c.c2 c.c3 d.c0 d.c1 d.c2 d.c3
 ·have hfin:Hid (sameB c d=false):=by
   show sameB c d=false
   unfold sameB;rw[hq];rfl
  go_enter Tryz.func34,Tryz.ntmps34
  go_wp2
  go_ret
  rw[hfin.out]
  exact ⟨rfl,((Gr.refl _).alloc _).alloc _⟩
 ·have hfin:Hid (sameB c d=eqL c.l d.l):=by
   show sameB c d=_
   unfold sameB;rw[hq];rfl
  go_enter Tryz.func34,Tryz.ntmps34
  go_wp2_with fail
  refine (equal_any c.l d.l A B cap dap _ hl hm (hr.gr (((Gr.refl _).alloc _).alloc _)) (hs.gr (((Gr.refl _).alloc _).alloc _))).mono ?_
  rintro e w' ⟨rfl,hg⟩
  go_wp2
  go_ret
  rw[hfin.out]
  exact ⟨rfl,unbox (unbox hg)⟩

end Go.Proofs.YtkadjjmkokhldaaGreat

namespace Go.Proofs.YtkadjjmkokhldaaGreat
open Go.RowKit Go.Sort

/-- Two cells are the same. -/
def celEq (x y:Cel):Bool:=decide (x=y)
theorem celEq_iff {x y:Cel}:celEq x y=true↔x=y:=by simp[celEq]

theorem eqDotIn (a b c d:Int) (w:World):(Op.equalIn 9999 52 (.agg #[.int .i64 a,.int .i64 b]) (.agg #[.int .i64 c,.int .i64 d])).run Tryz.prog w= .ok (a==c && b==d) w:=by
 have u3:=Tryz.underlying3
 have a3:=Tryz.isAgg3
 have z3:=Tryz.sizeOf3
 have hS:Tryz.prog.underlying 52=some (.struct (Tryz.prog.fieldsOf 52)):=by kernel_rfl
 have hp:Tryz.prog.stoodInHeld 52=false:=by kernel_rfl
 rw[show (9999:Nat)=9998+1 from rfl,run_equalIn_agg w 9998 52 _ _ hS hp]
 simp only[Program.fieldsOf,Tryz.underlying52]
 go_simp
 by_cases h1:a=c<;>by_cases h2:b=d<;>simp[h1,h2]

set_option maxRecDepth 100000 in
theorem eqCelIn (x y:Cel) (w:World):(Op.equalIn 10000 55 (.agg #[.int .i64 x.1.1,.int .i64 x.1.2,.int .i64 x.2.1,.int .i64 x.2.2.1,.int .i64 x.2.2.2]) (.agg #[.int .i64 y.1.1,.int .i64 y.1.2,.int .i64 y.2.1,.int .i64 y.2.2.1,.int .i64 y.2.2.2])).run Tryz.prog w= .ok (celEq x y) w:=by
 obtain ⟨⟨a0,a1⟩,a2,a3,a4⟩:=x
 obtain ⟨⟨b0,b1⟩,b2,b3,b4⟩:=y
 have u3:=Tryz.underlying3
 have g3:=Tryz.isAgg3
 have z3:=Tryz.sizeOf3
 have c2:Tryz.prog.cellsOf 52=2:=by kernel_rfl
 have c1:Tryz.prog.cellsOf 3=1:=by kernel_rfl
 have gD:=Tryz.isAgg52
 have zD:=Tryz.sizeOf52
 have hd:=eqDotIn
 have hS:Tryz.prog.underlying 55=some (.struct (Tryz.prog.fieldsOf 55)):=by kernel_rfl
 have hp:Tryz.prog.stoodInHeld 55=false:=by kernel_rfl
 rw[show (10000:Nat)=9999+1 from rfl,run_equalIn_agg w 9999 55 _ _ hS hp]
 simp only[Program.fieldsOf,Tryz.underlying55]
 clear hS hp
 go_simp
 by_cases h0:a0=b0<;>by_cases h1:a1=b1<;>by_cases h2:a2=b2<;>by_cases h3:a3=b3<;>by_cases h4:a4=b4<;>simp[celEq,h0,h1,h2,h3,h4]

theorem neqCel (x y:Cel) (w:World):(binOp .neq 55 (.agg #[.int .i64 x.1.1,.int .i64 x.1.2,.int .i64 x.2.1,.int .i64 x.2.2.1,.int .i64 x.2.2.2]) (.agg #[.int .i64 y.1.1,.int .i64 y.1.2,.int .i64 y.2.1,.int .i64 y.2.2.1,.int .i64 y.2.2.2])).run Tryz.prog w= .ok (.bool (!celEq x y)) w:=by
 rw[run_neq_struct,eqCelIn];rfl
theorem guardCel (op:BinOp) (p q:Operand) (x y:Cel) (w:World):(eqGuard op 55 p q (.agg #[.int .i64 x.1.1,.int .i64 x.1.2,.int .i64 x.2.1,.int .i64 x.2.2.1,.int .i64 x.2.2.2]) (.agg #[.int .i64 y.1.1,.int .i64 y.1.2,.int .i64 y.2.1,.int .i64 y.2.2.1,.int .i64 y.2.2.2])).run Tryz.prog w= .ok () w :=
 run_eqGuard_agg w op 55 p q _ _ (by kernel_rfl)

/-- Two lists of cells are the same. -/
def eqLC (l m:List Cel):Bool:=decide (l=m)

set_option maxHeartbeats 1000000 in
theorem equalC_any (l m:List Cel) (A B:Option Addr) (cap dap:Nat) (w:World) (hl:l.length≤maxLen) (hm:m.length≤maxLen) (hr:RowC w A l) (hs:RowC w B m) :
  Calls Tryz.prog 35 #[.slice A l.length cap,.slice B m.length dap] w fun e w'=>e= .returned (.bool (eqLC l m))∧Gr w w':=by
 unfold maxLen at hl hm
 have hE:=neqCel
 have hG:=guardCel
 by_cases hlen:l.length=m.length
 ·have hlz:((l.length:Int) != (m.length:Int))=false:=by rw[hlen];simp
  have hlH:Hid (l.length=m.length):=hlen
  clear hlen
  go_enter Tryz.func35,Tryz.ntmps35
  go_wp2
  go_loopw [13] (fun i wr=>∃k:Nat,k≤l.length∧i= .int .i64 k∧Hid (∀j (h:j<l.length) (h':j<m.length),j<k→l[j]=m[j])∧Gr w wr) (fun i _=>l.length-(intOf i).toNat)
  case atStart=>exact ⟨0,Nat.zero_le _,rfl,fun j _ _ hj=>absurd hj (Nat.not_lt_zero _),Gr.refl _⟩
  case round =>
   obtain ⟨k,hk,rfl,hno,hgr⟩:=hrel
   by_cases hlt:k<l.length
   ·have hltz:(k:Int)<(l.length:Int):=by omega
    have hlt2:k<m.length:=by have:=hlH.out;omega
    have hltz2:(k:Int)<(m.length:Int):=by omega
    obtain ⟨bb,off,rfl,hb,hcs⟩:=RowC.get (hr.gr hgr) hlt
    obtain ⟨bb2,off2,rfl,hb2,hcs2⟩:=RowC.get (hs.gr hgr) hlt2
    obtain ⟨e0,e1,e2,e3,e4⟩:=hcs k hlt
    obtain ⟨f0,f1,f2,f3,f4⟩:=hcs2 k hlt2
    obtain ⟨x,hx⟩:∃x,l[k]=x:=⟨_,rfl⟩
    obtain ⟨y,hy⟩:∃y,m[k]=y:=⟨_,rfl⟩
    rw[hx] at e0 e1 e2 e3 e4
    rw[hy] at f0 f1 f2 f3 f4
    have hxH:Hid (l[k]=x):=hx
    have hyH:Hid (m[k]=y):=hy
    clear hcs hcs2 hx hy
    cases hq:celEq x y
    ·have hfin:Hid (eqLC l m=false):=by
      show eqLC l m=false
      simp only[eqLC,decide_eq_false_iff_not]
      intro h
      subst h
      have:x=y:=hxH.out.symm.trans hyH.out
      rw[celEq_iff.2 this] at hq
      cases hq
     go_wp2
     go_quiet (fail)
     go_wp2
     go_ret
     rw[hfin.out]
     exact ⟨rfl,hgr.trans ⟨nq,#[],by rw[grow_empty]⟩⟩
    ·have hne:Hid (l[k]=m[k]):=hxH.out.trans ((celEq_iff.1 hq).trans hyH.out.symm)
     go_wp2
     go_quiet (fail)
     go_wp2
     go_roundw
     case rel =>
      refine ⟨k+1,by omega,by go_num,?_,hgr.trans ⟨nq,#[],by rw[grow_empty]⟩⟩
      intro j hj hj' hjk
      by_cases e:j=k
      ·subst e;exact hne
      ·exact hno j hj hj' (by omega)
     case measure=>simp[intOf];omega
   ·have hltz:¬(k:Int)<(l.length:Int):=by omega
    have hfin:Hid (eqLC l m=true):=by
     show eqLC l m=true
     simp only[eqLC,decide_eq_true_eq]
     exact List.ext_getElem hlH.out fun j h1 h2=>hno j h1 h2 (by omega)
    go_wp2
    go_ret
    rw[hfin.out]
    exact ⟨rfl,hgr⟩
 ·have hlz:((l.length:Int) != (m.length:Int))=true:=by simp;omega
  have hfin:Hid (eqLC l m=false):=by
   show eqLC l m=false
   simp only[eqLC,decide_eq_false_iff_not]
   intro h
   exact hlen (by rw[h])
  clear hlen
  go_enter Tryz.func35,Tryz.ntmps35
  go_wp2
  go_ret
  rw[hfin.out]
  exact ⟨rfl,Gr.refl _⟩

/-- Two tables are the same. -/
def sameT (s t:Tab):Bool:=sameB s.c t.c && eqLC s.e t.e

set_option maxRecDepth 100000 in
set_option maxHeartbeats 1000000 in
theorem sameT_any (s t:Tab) (A B C D:Option Addr) (ca cb cc cd:Nat) (w:World) (hsl:s.c.l.length≤maxLen) (htl:t.c.l.length≤maxLen) (hse:s.e.length≤maxLen) (hte:t.e.length≤maxLen) (hr:Row w A s.c.l) (hs:Row w C t.c.l) (hre:RowC w B s.e) (hte':RowC w D t.e) :
  Calls Tryz.prog 21 #[.agg #[.int .i64 s.c.c0,.int .i64 s.c.c1,.int .i64 s.c.c2,.int .i64 s.c.c3,.slice A s.c.l.length ca,.slice B s.e.length cb],.agg #[.int .i64 t.c.c0,.int .i64 t.c.c1,.int .i64 t.c.c2,.int .i64 t.c.c3,.slice C t.c.l.length cc,.slice D t.e.length cd]] w fun e w'=>e= .returned (.bool (sameT s t))∧Gr w w':=by
 have hgX:Gr w ((w.alloc (.cells #[.int .i64 s.c.c0,.int .i64 s.c.c1,.int .i64 s.c.c2,.int .i64 s.c.c3,.slice A s.c.l.length ca,.slice B s.e.length cb] 37)).alloc (.cells #[.int .i64 t.c.c0,.int .i64 t.c.c1,.int .i64 t.c.c2,.int .i64 t.c.c3,.slice C t.c.l.length cc,.slice D t.e.length cd] 37)):=((Gr.refl _).alloc _).alloc _
 have hS0:TabAt ((w.alloc (.cells #[.int .i64 s.c.c0,.int .i64 s.c.c1,.int .i64 s.c.c2,.int .i64 s.c.c3,.slice A s.c.l.length ca,.slice B s.e.length cb] 37)).alloc (.cells #[.int .i64 t.c.c0,.int .i64 t.c.c1,.int .i64 t.c.c2,.int .i64 t.c.c3,.slice C t.c.l.length cc,.slice D t.e.length cd] 37)) w.heap.size s A ca B cb:=(TabAt.new 37 hr hre rfl).gr ((Gr.refl _).alloc _)
 have hT0:TabAt ((w.alloc (.cells #[.int .i64 s.c.c0,.int .i64 s.c.c1,.int .i64 s.c.c2,.int .i64 s.c.c3,.slice A s.c.l.length ca,.slice B s.e.length cb] 37)).alloc (.cells #[.int .i64 t.c.c0,.int .i64 t.c.c1,.int .i64 t.c.c2,.int .i64 t.c.c3,.slice C t.c.l.length cc,.slice D t.e.length cd] 37)) (w.heap.size+1) t C cc D cd:=TabAt.new 37 (hs.gr ((Gr.refl _).alloc _)) (hte'.gr ((Gr.refl _).alloc _)) (by simp)
 have hc:=same_any s.c t.c A C ca cc _ hsl htl hS0.row hT0.row
 have hcH:Hid _:=hc
 clear hc
 go_enter Tryz.func21,Tryz.ntmps21
 go_wp2_with fail
 refine Calls.mono (show Calls _ _ _ _ _ from hcH.out) ?_
 rintro e w1 ⟨rfl,hg1⟩
 clear hcH
 have hS1:=hS0.gr hg1
 have hT1:=hT0.gr hg1
 have hgW:Gr w w1:=hgX.trans hg1
 clear hS0 hT0 hgX hg1
 cases hq:sameB s.c t.c
 ·have hfin:Hid (sameT s t=false):=by
   show sameT s t=false
   unfold sameT;rw[hq];rfl
  go_wp2
  go_ret
  rw[hfin.out]
  exact ⟨rfl,hgW⟩
 ·have hfin:Hid (sameT s t=eqLC s.e t.e):=by
   show sameT s t=_
   unfold sameT;rw[hq];rfl
  have s5:=hS1.k5
  have t5:=hT1.k5
  have he:=equalC_any s.e t.e B D cb cd w1 hse hte hS1.rowC hT1.rowC
  have heH:Hid _:=he
  clear he
  go_wp2_with fail
  refine Calls.mono (show Calls _ _ _ _ _ from heH.out) ?_
  rintro e w2 ⟨rfl,hg2⟩
  go_wp2
  go_ret
  rw[hfin.out]
  exact ⟨rfl,hgW.trans hg2⟩

theorem sameT_self (t:Tab):sameT t t=true:=by
 unfold sameT sameB clkEq eqL eqLC
 simp
end Go.Proofs.YtkadjjmkokhldaaGreat
