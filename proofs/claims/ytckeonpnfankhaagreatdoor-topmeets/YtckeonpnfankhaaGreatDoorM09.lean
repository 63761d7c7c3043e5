/-
  query.width: the width of a step behind those whose widths are given.
  query.widths, query.Check, query.Width.
  What a query tells, on plain lists: each step's set; where, pick, union and minus of two sets together are those of both, together.
  query.Check, query.Width; viewref.In.
  What a step's width is, in the document's tests, kind by kind.
  What each step of a query tells, on plain lists, and that it is a right set whose rows are as wide as they should be.
-/
import Derived.Test.YtckeonpnfankhaaGreatDoorM08
set_option maxRecDepth 100000
set_option maxHeartbeats 8000000
namespace Go.Proofs.YtckeonpnfankhaaGreatDoor
open Go.RowKit Go.Sort

def aH (s:Stp) (ah:List Int):Int:=if aK s=true then (if s.k=1 then (if belowB s.a 2=true then 4 else 0) else if belowB s.a ah.length=true then (if s.k=4∨s.k=5∨s.k=6 then (if belowB s.b ah.length=true then dq s (ah.getD s.a.toNat 0) (ah.getD s.b.toNat 0) else 0) else cz s (ah.getD s.a.toNat 0)) else 0) else 0
theorem grD {w w':World} (h:Gr w w'):∃q os',w'=grow (w.drewN q) os':=h
theorem ml {n:Int} {m:Nat} (h:belowB n m=true):∃k:Nat,n=k∧k<m:=by
 simp only[belowB,Bool.and_eq_true,decide_eq_true_eq] at h
 exact ⟨n.toNat,by omega,by omega⟩
theorem rt {l:List Int} {k:Nat} (h:k<l.length):l.getD k 0=l[k]:=by rw[List.getD_eq_getElem?_getD,List.getElem?_eq_getElem h];rfl

theorem sD (s:Stp) (ah:List Int) (A:Option Addr) (ca:Nat) (w:World) (hl:s.l.length≤maxLen) (hr:ay w s.p s.l) (hra:ay w A ah) (hah:∀x∈ah,0≤x∧x≤8) :
  Calls Tryz.prog 89 #[.agg #[.int .i64 s.k,.int .i64 s.a,.int .i64 s.b,.int .i64 s.c,.int .i64 s.o,.int .i64 s.v,.slice s.p s.l.length s.n],.slice A ah.length ca] w fun e w'=>e= .returned (.int .i64 (aH s ah))∧Gr w w':=by
 have mixed:Tryz.prog.follows .mixedOrders=true:=by kernel_rfl
 have hg0:Gr w (w.alloc (.cells #[.int .i64 s.k,.int .i64 s.a,.int .i64 s.b,.int .i64 s.c,.int .i64 s.o,.int .i64 s.v,.slice s.p s.l.length s.n] 105)):=(gR w).alloc _
 have hlo:=sP s (w.alloc (.cells #[.int .i64 s.k,.int .i64 s.a,.int .i64 s.b,.int .i64 s.c,.int .i64 s.o,.int .i64 s.v,.slice s.p s.l.length s.n] 105))
 have hloH:Hid _:=hlo
 have c0:(w.alloc (.cells #[.int .i64 s.k,.int .i64 s.a,.int .i64 s.b,.int .i64 s.c,.int .i64 s.o,.int .i64 s.v,.slice s.p s.l.length s.n] 105)).cell? ⟨w.heap.size,0,none⟩=some (.int .i64 s.k):=aa (gR _) rfl
 have c1:(w.alloc (.cells #[.int .i64 s.k,.int .i64 s.a,.int .i64 s.b,.int .i64 s.c,.int .i64 s.o,.int .i64 s.v,.slice s.p s.l.length s.n] 105)).cell? ⟨w.heap.size,1,none⟩=some (.int .i64 s.a):=aa (gR _) rfl
 have c2:(w.alloc (.cells #[.int .i64 s.k,.int .i64 s.a,.int .i64 s.b,.int .i64 s.c,.int .i64 s.o,.int .i64 s.v,.slice s.p s.l.length s.n] 105)).cell? ⟨w.heap.size,2,none⟩=some (.int .i64 s.b):=aa (gR _) rfl
 have c3:(w.alloc (.cells #[.int .i64 s.k,.int .i64 s.a,.int .i64 s.b,.int .i64 s.c,.int .i64 s.o,.int .i64 s.v,.slice s.p s.l.length s.n] 105)).cell? ⟨w.heap.size,3,none⟩=some (.int .i64 s.c):=aa (gR _) rfl
 have c4:(w.alloc (.cells #[.int .i64 s.k,.int .i64 s.a,.int .i64 s.b,.int .i64 s.c,.int .i64 s.o,.int .i64 s.v,.slice s.p s.l.length s.n] 105)).cell? ⟨w.heap.size,4,none⟩=some (.int .i64 s.o):=aa (gR _) rfl
 have c5:(w.alloc (.cells #[.int .i64 s.k,.int .i64 s.a,.int .i64 s.b,.int .i64 s.c,.int .i64 s.o,.int .i64 s.v,.slice s.p s.l.length s.n] 105)).cell? ⟨w.heap.size,5,none⟩=some (.int .i64 s.v):=aa (gR _) rfl
 have c6:(w.alloc (.cells #[.int .i64 s.k,.int .i64 s.a,.int .i64 s.b,.int .i64 s.c,.int .i64 s.o,.int .i64 s.v,.slice s.p s.l.length s.n] 105)).cell? ⟨w.heap.size,6,none⟩=some (.slice s.p s.l.length s.n):=aa (gR _) rfl
 have hrH:Hid (ay w s.p s.l∧s.l.length≤maxLen∧ay w A ah∧∀x∈ah,0≤x∧x≤8):=⟨hr,hl,hra,hah⟩
 clear hlo hr hl hra hah
 go_enter Tryz.func89,Tryz.ntmps89
 go_wp2_with fail
 refine cM (show Calls _ _ _ _ _ from hloH.out) ?_
 rintro e w1 ⟨rfl,hg1⟩
 clear hloH c0 c1 c2 c3 c4 c5 c6
 have c0:w1.cell? ⟨w.heap.size,0,none⟩=some (.int .i64 s.k):=aa hg1 rfl
 have c1:w1.cell? ⟨w.heap.size,1,none⟩=some (.int .i64 s.a):=aa hg1 rfl
 have c2:w1.cell? ⟨w.heap.size,2,none⟩=some (.int .i64 s.b):=aa hg1 rfl
 have c3:w1.cell? ⟨w.heap.size,3,none⟩=some (.int .i64 s.c):=aa hg1 rfl
 have c4:w1.cell? ⟨w.heap.size,4,none⟩=some (.int .i64 s.o):=aa hg1 rfl
 have c5:w1.cell? ⟨w.heap.size,5,none⟩=some (.int .i64 s.v):=aa hg1 rfl
 have c6:w1.cell? ⟨w.heap.size,6,none⟩=some (.slice s.p s.l.length s.n):=aa hg1 rfl
 have hgw:Gr w w1:=hg0.trans hg1
 cases hal0:aK s
 ·have hfin:Hid (aH s ah=0):=by show _=_;unfold aH;rw[if_neg (by rw[hal0];simp)]
  go_wp2
  go_ret
  exact ⟨by rw[hfin.out];rfl,hgw⟩
 have hun:Hid (aH s ah=if s.k=1 then (if belowB s.a 2=true then 4 else 0) else if belowB s.a ah.length=true then (if s.k=4∨s.k=5∨s.k=6 then (if belowB s.b ah.length=true then dq s (ah.getD s.a.toNat 0) (ah.getD s.b.toNat 0) else 0) else cz s (ah.getD s.a.toNat 0)) else 0):=by show _=_;unfold aH;rw[if_pos hal0]
 by_cases hk:s.k=1
 ·have e0:w1.cell? ⟨w.heap.size,0,none⟩=some (.int .i64 1):=by rw[←hk];exact c0
  clear c0
  cases hb:belowB s.a 2
  ·have hfin:Hid (aH s ah=0):=by show _=_;rw[hun.out,if_pos hk,if_neg (by rw[hb];simp)]
   have hzH:Hid (Calls Tryz.prog 126 #[.int .i64 s.a,.int .i64 2] w1 fun e w'=>e= .returned (.bool false)∧w'=w1):=bE hb w1
   clear hk
   go_wp2_with (go_at_call 126;(with_reducible refine cM hzH.out ?_);rintro e w' ⟨rfl,hw'⟩;subst w')
   go_ret
   exact ⟨by rw[hfin.out];rfl,hgw⟩
  ·have hfin:Hid (aH s ah=4):=by show _=_;rw[hun.out,if_pos hk,if_pos hb]
   have hzH:Hid (Calls Tryz.prog 126 #[.int .i64 s.a,.int .i64 2] w1 fun e w'=>e= .returned (.bool true)∧w'=w1):=bE hb w1
   clear hk
   go_wp2_with (go_at_call 126;(with_reducible refine cM hzH.out ?_);rintro e w' ⟨rfl,hw'⟩;subst w')
   go_ret
   exact ⟨by rw[hfin.out];rfl,hgw⟩
 have hkb:(s.k==1)=false:=by simpa using hk
 cases hb:belowB s.a ah.length
 ·have hfin:Hid (aH s ah=0):=by show _=_;rw[hun.out,if_neg hk,if_neg (by rw[hb];simp)]
  have hzH:Hid (Calls Tryz.prog 126 #[.int .i64 s.a,.int .i64 ah.length] w1 fun e w'=>e= .returned (.bool false)∧w'=w1):=bE hb w1
  clear hk
  go_wp2_with (go_at_call 126;(with_reducible refine cM hzH.out ?_);rintro e w' ⟨rfl,hw'⟩;subst w')
  go_ret
  exact ⟨by rw[hfin.out];rfl,hgw⟩
 have hzH:Hid (Calls Tryz.prog 126 #[.int .i64 s.a,.int .i64 ah.length] w1 fun e w'=>e= .returned (.bool true)∧w'=w1):=bE hb w1
 obtain ⟨ka,hka,hkal⟩:=ml hb
 have hra1:ay w1 A ah:=hrH.out.2.2.1.gr hgw
 obtain ⟨ba,oa,rfl,hba,hca⟩:=hra1.at hkal
 obtain ⟨xa,hxa⟩:∃x,ah[ka]=x:=⟨_,rfl⟩
 have ea0:=hca ka hkal 0 (by omega)
 rw[hxa] at ea0
 have ea:w1.cell? ⟨ba,oa+ka,none⟩=some (.int .i64 xa):=by simpa[fK] using ea0
 have hga:Hid (ah.getD s.a.toNat 0=xa∧0≤xa∧xa≤8):=by
  refine ⟨?_,hrH.out.2.2.2 xa (by rw[←hxa];exact gM hkal)⟩
  rw[hka,Int.toNat_natCast,rt hkal,hxa]
 have hkaz:(ka:Int)<(ah.length:Int):=by omega
 have d1:w1.cell? ⟨w.heap.size,1,none⟩=some (.int .i64 (ka:Int)):=by rw[←hka];exact c1
 rw[hka] at hzH
 clear ea0 hxa c1
 by_cases hk2:s.k=4∨s.k=5∨s.k=6
 ·cases hb2:belowB s.b ah.length
  ·have hfin:Hid (aH s ah=0):=by show _=_;rw[hun.out,if_neg hk,if_pos hb,if_pos hk2,if_neg (by rw[hb2];simp)]
   have hyH:Hid (Calls Tryz.prog 126 #[.int .i64 s.b,.int .i64 ah.length] w1 fun e w'=>e= .returned (.bool false)∧w'=w1):=bE hb2 w1
   clear hk hka hb hca hra1
   rcases hk2 with k4|k4|k4
   all_goals
    rw[k4] at c0
    clear k4 hkb
    go_wp2_with (first|(go_at_call 126;(with_reducible refine cM hzH.out ?_);rintro e w' ⟨rfl,hw'⟩;subst w')|(go_at_call 126;(with_reducible refine cM hyH.out ?_);rintro e w' ⟨rfl,hw'⟩;subst w'))
    go_ret
    exact ⟨by rw[hfin.out];rfl,hgw⟩
  ·have hyH0:Calls Tryz.prog 126 #[.int .i64 s.b,.int .i64 ah.length] w1 fun e w'=>e= .returned (.bool true)∧w'=w1:=bE hb2 w1
   obtain ⟨kb,hkb2,hkbl⟩:=ml hb2
   obtain ⟨xb,hxb⟩:∃x,ah[kb]=x:=⟨_,rfl⟩
   have eb0:=hca kb hkbl 0 (by omega)
   rw[hxb] at eb0
   have eb:w1.cell? ⟨ba,oa+kb,none⟩=some (.int .i64 xb):=by simpa[fK] using eb0
   have hgb:Hid (ah.getD s.b.toNat 0=xb∧0≤xb∧xb≤8):=by
    refine ⟨?_,hrH.out.2.2.2 xb (by rw[←hxb];exact gM hkbl)⟩
    rw[hkb2,Int.toNat_natCast,rt hkbl,hxb]
   have hkbz:(kb:Int)<(ah.length:Int):=by omega
   have d2:w1.cell? ⟨w.heap.size,2,none⟩=some (.int .i64 (kb:Int)):=by rw[←hkb2];exact c2
   rw[hkb2] at hyH0
   have hyH:Hid (Calls Tryz.prog 126 #[.int .i64 (kb:Int),.int .i64 ah.length] w1 fun e w'=>e= .returned (.bool true)∧w'=w1):=hyH0
   have hfin:Hid (aH s ah=dq s xa xb):=by show _=_;rw[hun.out,if_neg hk,if_pos hb,if_pos hk2,if_pos hb2,hga.out.1,hgb.out.1]
   have htw:∀n os,Calls Tryz.prog 127 #[.agg #[.int .i64 s.k,.int .i64 s.a,.int .i64 s.b,.int .i64 s.c,.int .i64 s.o,.int .i64 s.v,.slice s.p s.l.length s.n],.int .i64 xa,.int .i64 xb] (grow (w1.drewN n) os) fun e w'=>e= .returned (.int .i64 (dq s xa xb))∧∃q os',w'=grow ((grow (w1.drewN n) os).drewN q) os':=fun n os=>(tR s xa xb _ hga.out.2 hgb.out.2).mono fun e w' h=>⟨h.1,grD h.2⟩
   rw[hka,hkb2] at htw
   have gb:=(gR w1).cellG (a:=⟨ba,oa+kb,none⟩) hba eb
   have xlt:w.heap.size<w1.heap.size:=World.block_lt_of_cell? w1 ⟨w.heap.size,0,none⟩ c0
   have g0:=(gR w1).cellG (a:=⟨w.heap.size,0,none⟩) xlt c0
   have g1:=(gR w1).cellG (a:=⟨w.heap.size,1,none⟩) xlt d1
   have g2:=(gR w1).cellG (a:=⟨w.heap.size,2,none⟩) xlt d2
   have g3:=(gR w1).cellG (a:=⟨w.heap.size,3,none⟩) xlt c3
   have g4:=(gR w1).cellG (a:=⟨w.heap.size,4,none⟩) xlt c4
   have g5:=(gR w1).cellG (a:=⟨w.heap.size,5,none⟩) xlt c5
   have g6:=(gR w1).cellG (a:=⟨w.heap.size,6,none⟩) xlt c6
   have ga:=(gR w1).cellG (a:=⟨ba,oa+ka,none⟩) hba ea
   clear hk hb hca hra1 eb0 hxb c2 hyH0 hb2
   rcases hk2 with k4|k4|k4
   all_goals
    rw[k4] at c0 htw g0
    have htwH:Hid (∀n os,Calls Tryz.prog 127 _ (grow (w1.drewN n) os) _):=htw
    clear k4 hkb htw
    go_wp2_with (first|(go_at_call 126;(with_reducible refine cM hzH.out ?_);rintro e w' ⟨rfl,hw'⟩;subst w')|(go_at_call 126;(with_reducible refine cM hyH.out ?_);rintro e w' ⟨rfl,hw'⟩;subst w'))
    refine wp_region_quiet_grown mixed (by kernel_rfl) ?_
    repeat (go_big_quiet_step ((go_at_call 127;refine Calls.grown_of (htwH.out _ _))))
    refine wpQuiet_nil ?_
    rintro _ ⟨⟨nq2,osq2⟩,rfl⟩
    go_wp2
    go_ret
    exact ⟨by rw[hfin.out];rfl,hgw.trans ⟨nq2,osq2,rfl⟩⟩
 ·have hfin:Hid (aH s ah=cz s xa):=by show _=_;rw[hun.out,if_neg hk,if_pos hb,if_neg hk2,hga.out.1]
  have how:∀n os,Calls Tryz.prog 128 #[.agg #[.int .i64 s.k,.int .i64 s.a,.int .i64 s.b,.int .i64 s.c,.int .i64 s.o,.int .i64 s.v,.slice s.p s.l.length s.n],.int .i64 xa] (grow (w1.drewN n) os) fun e w'=>e= .returned (.int .i64 (cz s xa))∧∃q os',w'=grow ((grow (w1.drewN n) os).drewN q) os':=fun n os=>(uZ s xa _ hrH.out.2.1 (hrH.out.1.gr (hgw.trans ⟨n,os,rfl⟩))).mono fun e w' h=>⟨h.1,grD h.2⟩
  rw[hka] at how
  have howH:Hid (∀n os,Calls Tryz.prog 128 _ (grow (w1.drewN n) os) _):=how
  have q4:(s.k==4)=false:=by simp;omega
  have q5:(s.k==5)=false:=by simp;omega
  have q6:(s.k==6)=false:=by simp;omega
  have xlt:w.heap.size<w1.heap.size:=World.block_lt_of_cell? w1 ⟨w.heap.size,0,none⟩ c0
  have g0:=(gR w1).cellG (a:=⟨w.heap.size,0,none⟩) xlt c0
  have g1:=(gR w1).cellG (a:=⟨w.heap.size,1,none⟩) xlt d1
  have g2:=(gR w1).cellG (a:=⟨w.heap.size,2,none⟩) xlt c2
  have g3:=(gR w1).cellG (a:=⟨w.heap.size,3,none⟩) xlt c3
  have g4:=(gR w1).cellG (a:=⟨w.heap.size,4,none⟩) xlt c4
  have g5:=(gR w1).cellG (a:=⟨w.heap.size,5,none⟩) xlt c5
  have g6:=(gR w1).cellG (a:=⟨w.heap.size,6,none⟩) xlt c6
  have ga:=(gR w1).cellG (a:=⟨ba,oa+ka,none⟩) hba ea
  clear hk hb hca hra1 how hk2
  go_wp2_with (go_at_call 126;(with_reducible refine cM hzH.out ?_);rintro e w' ⟨rfl,hw'⟩;subst w')
  refine wp_region_quiet_grown mixed (by kernel_rfl) ?_
  repeat (go_big_quiet_step ((go_at_call 128;refine Calls.grown_of (howH.out _ _))))
  refine wpQuiet_nil ?_
  rintro _ ⟨⟨nq2,osq2⟩,rfl⟩
  go_wp2
  go_ret
  exact ⟨by rw[hfin.out];rfl,hgw.trans ⟨nq2,osq2,rfl⟩⟩


structure Stps (w:World) (A:Option Addr) (q:List Stp):Prop where
 row:ax iB 7 w A q
 each:∀s∈q,ay w s.p s.l∧s.l.length≤maxLen∧(s.p=none→s.n=0)
theorem Stps.below {w w':World} {A:Option Addr} {q:List Stp} (h:Stps w A q) (k:Below w.heap.size w w'):Stps w' A q:=⟨h.row.below k,fun s hs=>⟨(h.each s hs).1.below k,(h.each s hs).2⟩⟩
theorem Stps.gr {w w':World} {A:Option Addr} {q:List Stp} (h:Stps w A q) (k:Gr w w'):Stps w' A q:=h.below k.below
theorem Stps.at {w:World} {A:Option Addr} {q:List Stp} (h:Stps w A q) {j:Nat} (hj:j<q.length):∃b off,A=some ⟨b,off,none⟩∧b<w.heap.size∧∀i,i<7→w.cell? ⟨b,off+j*7+i,none⟩=(iB q[j])[i]? := by
 obtain ⟨b,off,hA,hb,hc⟩:=h.row.at hj
 exact ⟨b,off,hA,hb,fun i hi=>hc j hj i hi⟩
def dm:List Stp→List Int→Option (List Int)
 | [],ah=>some ah
 | s::t,ah=>if aH s ah=0 then none else dm t (ah++[aH s ah])
def bS (q:List Stp):Int:=if q.length=0 then 1 else if 8<q.length then 2 else if (dm q []).isSome=true then 0 else 1
def iu (q:List Stp):List Int:=if bS q=0 then (dm q []).getD [] else []
theorem lr {l:List Int} (h:∀x∈l,0≤x∧x≤8) (k:Nat):0≤l.getD k 0∧l.getD k 0≤8:=by
 rw[List.getD_eq_getElem?_getD]
 cases e:l[k]? with
 | none=>simp
 | some x=>exact h x (List.mem_of_getElem? e)
theorem xM (s:Stp) {a:Int} (h:0≤a∧a≤8):0≤cz s a∧cz s a≤8:=by
 unfold cz
 repeat' split
 all_goals first|omega|skip
 rename_i h1
 simp at h1
 omega
theorem yt (s:Stp) {a b:Int} (h:0≤a∧a≤8) (k:0≤b∧b≤8):0≤dq s a b∧dq s a b≤8:=by
 unfold dq
 repeat' split
 all_goals first|omega|skip
 rename_i h1
 simp at h1
 omega
theorem uv (s:Stp) {ah:List Int} (h:∀x∈ah,0≤x∧x≤8):0≤aH s ah∧aH s ah≤8:=by
 have h1:=xM s (lr h s.a.toNat)
 have h2:=yt s (lr h s.a.toNat) (lr h s.b.toNat)
 unfold aH
 repeat' split
 all_goals omega

theorem qM (q:List Stp) (A:Option Addr) (ca:Nat) (w:World) (hl:q.length≤maxLen) (hq:Stps w A q) :
  Calls Tryz.prog 64 #[.slice A q.length ca] w fun e w'=>∃(C:Option Addr) (c:Nat),e= .returned (.tuple #[.slice C (iu q).length c,.int .i64 (bS q)])∧ay w' C (iu q)∧(C=none→c=0)∧Below w.heap.size w w':=by
 unfold maxLen at hl
 by_cases h0:q.length=0
 ·have e1:Hid (bS q=1∧iu q=[]):=by
   have e:bS q=1:=by unfold bS;rw[if_pos h0]
   exact ⟨e,by unfold iu;rw[e,if_neg (by decide)]⟩
  have h0z:((q.length:Int)==0)=true:=by rw[h0];rfl
  clear h0
  go_enter Tryz.func64,Tryz.ntmps64
  go_wp2
  go_ret2
  exact ⟨none,0,by rw[e1.out.1,e1.out.2];rfl,by rw[e1.out.2];exact oL rfl,fun _=>rfl,bR _ _⟩
 have h0z:((q.length:Int)==0)=false:=beq_eq_false_iff_ne.2 (by omega)
 by_cases h8:8<q.length
 ·have e1:Hid (bS q=2∧iu q=[]):=by
   have e:bS q=2:=by unfold bS;rw[if_neg h0,if_pos h8]
   exact ⟨e,by unfold iu;rw[e,if_neg (by decide)]⟩
  have h8z:(8:Int)<(q.length:Int):=by omega
  clear h0
  go_enter Tryz.func64,Tryz.ntmps64
  go_wp2
  go_ret2
  exact ⟨none,0,by rw[e1.out.1,e1.out.2];rfl,by rw[e1.out.2];exact oL rfl,fun _=>rfl,bR _ _⟩
 have h8z:¬(8:Int)<(q.length:Int):=by omega
 have herr:Hid (bS q=if (dm q []).isSome=true then 0 else 1):=by show _=_;unfold bS;rw[if_neg h0,if_neg h8]
 have hqH:Hid (Stps w A q):=hq
 clear hq h0
 go_enter Tryz.func64,Tryz.ntmps64
 go_wp2
 go_loopw [4,16] (fun v i wr=>∃(j:Nat) (ah:List Int),j≤q.length∧i= .int .i64 j∧Hid (ah.length=j∧(∀x∈ah,0≤x∧x≤8)∧dm q []=dm (q.drop j) ah)∧Hid (ef wr w.heap.size v ah∧Below w.heap.size w wr)) (fun _ i _=>q.length-(intOf i).toNat)
 case atStart=>exact ⟨0,[],by omega,rfl,⟨rfl,(fun x hx=>by cases hx),by simp⟩,ai.nil _ _ _ _ _,bR _ _⟩
 case round =>
  obtain ⟨j,ah,hj,rfl,hfo,hov⟩:=hrel
  by_cases hlt:j<q.length
  ·have hltz:(j:Int)<(q.length:Int):=by omega
   have hI:Hid (Stps wr A q):=hqH.out.below hov.out.2
   obtain ⟨bb,off,rfl,hb,hcs⟩:=hI.out.at hlt
   obtain ⟨s,hs⟩:∃s,q[j]=s:=⟨_,rfl⟩
   have hsr:=hI.out.each s (by rw[←hs];exact gM hlt)
   rw[hs] at hcs
   have m0:wr.cell? ⟨bb,off+j*7,none⟩=some (.int .i64 s.k):=hcs 0 (by omega)
   have m1:wr.cell? ⟨bb,off+j*7+1,none⟩=some (.int .i64 s.a):=hcs 1 (by omega)
   have m2:wr.cell? ⟨bb,off+j*7+2,none⟩=some (.int .i64 s.b):=hcs 2 (by omega)
   have m3:wr.cell? ⟨bb,off+j*7+3,none⟩=some (.int .i64 s.c):=hcs 3 (by omega)
   have m4:wr.cell? ⟨bb,off+j*7+4,none⟩=some (.int .i64 s.o):=hcs 4 (by omega)
   have m5:wr.cell? ⟨bb,off+j*7+5,none⟩=some (.int .i64 s.v):=hcs 5 (by omega)
   have m6:wr.cell? ⟨bb,off+j*7+6,none⟩=some (.slice s.p s.l.length s.n):=hcs 6 (by omega)
   have hstep:Hid (dm q []=if aH s ah=0 then none else dm (q.drop (j+1)) (ah++[aH s ah])):=by
    show _=_
    rw[hfo.out.2.2,List.drop_eq_getElem_cons hlt,hs]
    rfl
   have hwb:=uv s hfo.out.2.1
   obtain ⟨G,gc,rfl,hG,hrow,hlt4⟩:=ai.row bV hov.out.1
   have hg0:Gr wr (wr.alloc (.cells #[.int .i64 s.k,.int .i64 s.a,.int .i64 s.b,.int .i64 s.c,.int .i64 s.o,.int .i64 s.v,.slice s.p s.l.length s.n] 105)):=(gR wr).alloc _
   have c0:(wr.alloc (.cells #[.int .i64 s.k,.int .i64 s.a,.int .i64 s.b,.int .i64 s.c,.int .i64 s.o,.int .i64 s.v,.slice s.p s.l.length s.n] 105)).cell? ⟨wr.heap.size,0,none⟩=some (.int .i64 s.k):=aa (gR _) rfl
   have c1:(wr.alloc (.cells #[.int .i64 s.k,.int .i64 s.a,.int .i64 s.b,.int .i64 s.c,.int .i64 s.o,.int .i64 s.v,.slice s.p s.l.length s.n] 105)).cell? ⟨wr.heap.size,1,none⟩=some (.int .i64 s.a):=aa (gR _) rfl
   have c2:(wr.alloc (.cells #[.int .i64 s.k,.int .i64 s.a,.int .i64 s.b,.int .i64 s.c,.int .i64 s.o,.int .i64 s.v,.slice s.p s.l.length s.n] 105)).cell? ⟨wr.heap.size,2,none⟩=some (.int .i64 s.b):=aa (gR _) rfl
   have c3:(wr.alloc (.cells #[.int .i64 s.k,.int .i64 s.a,.int .i64 s.b,.int .i64 s.c,.int .i64 s.o,.int .i64 s.v,.slice s.p s.l.length s.n] 105)).cell? ⟨wr.heap.size,3,none⟩=some (.int .i64 s.c):=aa (gR _) rfl
   have c4:(wr.alloc (.cells #[.int .i64 s.k,.int .i64 s.a,.int .i64 s.b,.int .i64 s.c,.int .i64 s.o,.int .i64 s.v,.slice s.p s.l.length s.n] 105)).cell? ⟨wr.heap.size,4,none⟩=some (.int .i64 s.o):=aa (gR _) rfl
   have c5:(wr.alloc (.cells #[.int .i64 s.k,.int .i64 s.a,.int .i64 s.b,.int .i64 s.c,.int .i64 s.o,.int .i64 s.v,.slice s.p s.l.length s.n] 105)).cell? ⟨wr.heap.size,5,none⟩=some (.int .i64 s.v):=aa (gR _) rfl
   have c6:(wr.alloc (.cells #[.int .i64 s.k,.int .i64 s.a,.int .i64 s.b,.int .i64 s.c,.int .i64 s.o,.int .i64 s.v,.slice s.p s.l.length s.n] 105)).cell? ⟨wr.heap.size,6,none⟩=some (.slice s.p s.l.length s.n):=aa (gR _) rfl
   have hwd:=sD s ah G gc (wr.alloc (.cells #[.int .i64 s.k,.int .i64 s.a,.int .i64 s.b,.int .i64 s.c,.int .i64 s.o,.int .i64 s.v,.slice s.p s.l.length s.n] 105)) hsr.2.1 (hsr.1.gr hg0) (hrow.gr hg0) hfo.out.2.1
   obtain ⟨n,hn⟩:∃n,aH s ah=n:=⟨_,rfl⟩
   rw[hn] at hwd hstep hwb
   have hwdH:Hid _:=hwd
   clear hcs hs hwd hsr
   go_wp2_with fail
   refine cM (show Calls _ _ _ _ _ from hwdH.out) ?_
   rintro e w1 ⟨rfl,hg1⟩
   clear hwdH c0 c1 c2 c3 c4 c5 c6 m0 m1 m2 m3 m4 m5 m6
   have hgw:Hid (Gr wr w1):=hg0.trans hg1
   clear hg0 hg1
   by_cases hn0:n=0
   ·have e1:Hid (bS q=1∧iu q=[]):=by
     have e:bS q=1:=by rw[herr.out,hstep.out,if_pos hn0];rfl
     exact ⟨e,by unfold iu;rw[e,if_neg (by decide)]⟩
    have hbF:Hid (Below w.heap.size w w1):=hov.out.2.trans (hgw.out.below.mono hov.out.2.size)
    subst hn0
    go_wp2
    go_ret2
    exact ⟨none,0,by rw[e1.out.1,e1.out.2];rfl,by rw[e1.out.2];exact oL rfl,fun _=>rfl,hbF.out⟩
   ·have hnb:(n==0)=false:=beq_eq_false_iff_ne.2 hn0
    have hoX:Hid (ef (w1.alloc (.cells #[.int .i64 n] 3)) w.heap.size (.slice G ah.length gc) ah∧ay (w1.alloc (.cells #[.int .i64 n] 3)) (some ⟨w1.heap.size,0,none⟩) [n]∧ah.length+1≤maxLen∧(ah.length+1)*8≤140737488355328∧Below w.heap.size w (w1.alloc (.cells #[.int .i64 n] 3))):=by
     have h1:=hfo.out.1
     have hg2:Gr wr (w1.alloc (.cells #[.int .i64 n] 3)):=hgw.out.alloc _
     exact ⟨hov.out.1.gr hg2,gV rfl n 3,by unfold maxLen;omega,by omega,hov.out.2.trans (hg2.below.mono hov.out.2.size)⟩
    have hnext:Hid ((ah++[n]).length=j+1∧(∀x∈ah++[n],0≤x∧x≤8)∧dm q []=dm (q.drop (j+1)) (ah++[n])):=by
     refine ⟨by simp[hfo.out.1],fun x hx=> ?_,by rw[hstep.out,if_neg hn0]⟩
     rcases List.mem_append.1 hx with k|k
     ·exact hfo.out.2.1 x k
     ·rw[List.mem_singleton.1 k];exact hwb
    clear hn0 hov hrow hG hlt4
    go_wp2_with (at_builtin;refine aR _ rfl (.tmp 25) (.tmp 27) rfl w.heap.size (.slice G ah.length gc) ah [n] (some ⟨w1.heap.size,0,none⟩) 1 rfl rfl hoX.out.1 hoX.out.2.1 (fun h=>by cases h) hoX.out.2.2.1 hoX.out.2.2.2.1 hoX.out.2.2.2.2.size ?_;intro v7 w7 hown7 hg7)
    have hfin7:Hid (ef w7 w.heap.size v7 (ah++[n])∧Below w.heap.size w w7):=⟨hown7,hoX.out.2.2.2.2.trans (ai.grown_below hoX.out.1 hg7 hoX.out.2.2.2.2.size)⟩
    clear hown7 hg7 hoX
    go_roundw
    case rel=>exact ⟨j+1,ah++[n],by omega,by go_num,hnext,hfin7⟩
    case measure=>simp[intOf];omega
  ·have hltz:¬(j:Int)<(q.length:Int):=by omega
   have hfin:Hid (bS q=0∧iu q=ah):=by
    have h1:=hfo.out.2.2
    rw[List.drop_eq_nil_of_le (by omega)] at h1
    have e:bS q=0:=by rw[herr.out,h1];rfl
    exact ⟨e,by unfold iu;rw[if_pos e,h1];rfl⟩
   obtain ⟨G,gc,rfl,hG,hrow,hlt4⟩:=ai.row bV hov.out.1
   have hfin2:Hid (ay wr G ah∧(G=none→gc=0)∧Below w.heap.size w wr):=⟨hrow,hG,hov.out.2⟩
   clear hrow hG hlt4 hov
   go_wp2
   go_ret2
   exact ⟨G,gc,by rw[hfin.out.1,hfin.out.2];rfl,by rw[hfin.out.2];exact hfin2.out.1,hfin2.out.2.1,hfin2.out.2.2⟩

end Go.Proofs.YtckeonpnfankhaaGreatDoor

namespace Go.Proofs.YtckeonpnfankhaaGreatDoor

def toB (n op v:Int):Bool:=if op=1 then decide (n<v) else if op=2 then decide (n=v) else decide (v<n)
def atI (r:List Int) (c:Int):Int:=r.getD c.toNat 0
def da (l:List Zit) (c o v:Int):List Zit:=l.filter fun x=>toB (atI x.1 c) o v
def dY (cols:List Int) (r:List Int):List Int:=cols.map fun c=>atI r c
def fB (l:List Zit) (cols:List Int):List Zit:=l.map fun x=>(dY cols x.1,x.2)
def fw (l:List Zit):List Zit:=(l.filter fun x=>decide (0<x.2)).map fun x=>(x.1,1)
theorem mL {a b:List Zit} (h:aP a b=0):av a=0∧av b=0∧av (aN a b)=0:=by
 unfold aP at h
 by_cases h1:av a=0
 ·rw[if_pos h1] at h
  by_cases h2:av b=0
  ·rw[if_pos h2] at h
   by_cases h3:d7 (a++b)=0
   ·rw[if_pos h3] at h
    by_cases h4:400<(cK (a++b)).length
    ·rw[if_pos h4] at h;cases h
    ·refine ⟨h1,h2,?_⟩
     have e:aN a b=cK (a++b):=by
      unfold aN aP
      rw[if_pos h1,if_pos h2,if_pos h3,if_neg h4,if_pos rfl]
     rw[e]
     have T:=aZ (a++b)
     refine (bx _).2 ⟨by omega,T.okZ (nf h3) (fun x hx=> ?_),T.rise⟩
     rcases List.mem_append.1 hx with k|k
     ·exact (bH (((bx a).1 h1).2.1 x k)).1
     ·exact (bH (((bx b).1 h2).2.1 x k)).1
   ·rw[if_neg h3] at h;exact absurd h h3
  ·rw[if_neg h2] at h;exact absurd h h2
 ·rw[if_neg h1] at h;exact absurd h h1
end Go.Proofs.YtckeonpnfankhaaGreatDoor

namespace Go.Proofs.YtckeonpnfankhaaGreatDoor
open Go.RowKit Go.Sort

theorem kD (q:List Stp) (A:Option Addr) (ca:Nat) (w:World) (hl:q.length≤maxLen) (hq:Stps w A q) :
  Calls Tryz.prog 42 #[.slice A q.length ca] w fun e w'=>e= .returned (.int .i64 (bS q))∧Below w.heap.size w w':=by
 have hwH:Hid _:=qM q A ca w hl hq
 clear hl hq
 go_enter Tryz.func42,Tryz.ntmps42
 go_wp2_with fail
 refine cM (show Calls _ _ _ _ _ from hwH.out) ?_
 rintro e w1 ⟨C,c,rfl,-,-,hb⟩
 clear hwH
 go_wp2
 go_ret
 exact ⟨rfl,hb⟩

end Go.Proofs.YtckeonpnfankhaaGreatDoor

namespace Go.Proofs.YtckeonpnfankhaaGreatDoor

theorem bz (n k:Int):belowB n k=inB n 0 (k-1):=by
 unfold belowB inB
 rw[Bool.eq_iff_iff]
 simp only[Bool.and_eq_true,decide_eq_true_eq]
 omega
theorem yW (n:Int):opB n=inB n 1 3:=by
 unfold opB inB
 rw[Bool.eq_iff_iff]
 simp only[Bool.and_eq_true,decide_eq_true_eq]
 omega
theorem yo {s:Stp} (h:s.k=1):aK s=(decide (s.b=0) && decide (s.c=0) && decide (s.o=0) && decide (s.v=0) && s.l.isEmpty):=by
 have t:ar 1 65=true∧ar 1 66=false∧ar 1 67=false∧ar 1 79=false∧ar 1 86=false∧ar 1 76=false:=by decide
 obtain ⟨t1,t2,t3,t4,t5,t6⟩:=t
 simp[aK,bF,h,List.range_succ,mh,Stp.at,t1,t2,t3,t4,t5,t6,Bool.and_assoc]
theorem ym {s:Stp} (h:s.k=2):aK s=(decide (s.b=0) && s.l.isEmpty):=by
 have t:ar 2 65=true∧ar 2 66=false∧ar 2 67=true∧ar 2 79=true∧ar 2 86=true∧ar 2 76=false:=by decide
 obtain ⟨t1,t2,t3,t4,t5,t6⟩:=t
 simp[aK,bF,h,List.range_succ,mh,Stp.at,t1,t2,t3,t4,t5,t6]
theorem xG {s:Stp} (h:s.k=3):aK s=(decide (s.b=0) && decide (s.c=0) && decide (s.o=0) && decide (s.v=0)):=by
 have t:ar 3 65=true∧ar 3 66=false∧ar 3 67=false∧ar 3 79=false∧ar 3 86=false∧ar 3 76=true:=by decide
 obtain ⟨t1,t2,t3,t4,t5,t6⟩:=t
 simp[aK,bF,h,List.range_succ,mh,Stp.at,t1,t2,t3,t4,t5,t6,Bool.and_assoc]
theorem ye {s:Stp} (h:s.k=4):aK s=(decide (s.o=0) && s.l.isEmpty):=by
 have t:ar 4 65=true∧ar 4 66=true∧ar 4 67=true∧ar 4 79=false∧ar 4 86=true∧ar 4 76=false:=by decide
 obtain ⟨t1,t2,t3,t4,t5,t6⟩:=t
 simp[aK,bF,h,List.range_succ,mh,Stp.at,t1,t2,t3,t4,t5,t6]
theorem yr {s:Stp} (h:s.k=5):aK s=(decide (s.c=0) && decide (s.o=0) && decide (s.v=0) && s.l.isEmpty):=by
 have t:ar 5 65=true∧ar 5 66=true∧ar 5 67=false∧ar 5 79=false∧ar 5 86=false∧ar 5 76=false:=by decide
 obtain ⟨t1,t2,t3,t4,t5,t6⟩:=t
 simp[aK,bF,h,List.range_succ,mh,Stp.at,t1,t2,t3,t4,t5,t6,Bool.and_assoc]
theorem xy {s:Stp} (h:s.k=6):aK s=(decide (s.c=0) && decide (s.o=0) && decide (s.v=0) && s.l.isEmpty):=by
 have t:ar 6 65=true∧ar 6 66=true∧ar 6 67=false∧ar 6 79=false∧ar 6 86=false∧ar 6 76=false:=by decide
 obtain ⟨t1,t2,t3,t4,t5,t6⟩:=t
 simp[aK,bF,h,List.range_succ,mh,Stp.at,t1,t2,t3,t4,t5,t6,Bool.and_assoc]
theorem xY {s:Stp} (h:s.k=7):aK s=(decide (s.b=0) && decide (s.c=0) && decide (s.o=0) && decide (s.v=0) && s.l.isEmpty):=by
 have t:ar 7 65=true∧ar 7 66=false∧ar 7 67=false∧ar 7 79=false∧ar 7 86=false∧ar 7 76=false:=by decide
 obtain ⟨t1,t2,t3,t4,t5,t6⟩:=t
 simp[aK,bF,h,List.range_succ,mh,Stp.at,t1,t2,t3,t4,t5,t6,Bool.and_assoc]
theorem xV {s:Stp} (h:s.k=8):aK s=(decide (s.b=0) && decide (s.o=0) && decide (s.v=0) && s.l.isEmpty):=by
 have t:ar 8 65=true∧ar 8 66=false∧ar 8 67=true∧ar 8 79=false∧ar 8 86=false∧ar 8 76=false:=by decide
 obtain ⟨t1,t2,t3,t4,t5,t6⟩:=t
 simp[aK,bF,h,List.range_succ,mh,Stp.at,t1,t2,t3,t4,t5,t6,Bool.and_assoc]
theorem yp {s:Stp} (h:s.k=9):aK s=(decide (s.b=0) && decide (s.o=0) && s.l.isEmpty):=by
 have t:ar 9 65=true∧ar 9 66=false∧ar 9 67=true∧ar 9 79=false∧ar 9 86=true∧ar 9 76=false:=by decide
 obtain ⟨t1,t2,t3,t4,t5,t6⟩:=t
 simp[aK,bF,h,List.range_succ,mh,Stp.at,t1,t2,t3,t4,t5,t6,Bool.and_assoc]
theorem yU (x y:Bool) (r:Int):(if x=true then (if y=true then r else 0) else 0)=if (x && y)=true then r else 0:=by cases x<;>cases y<;>simp
theorem xf (x y z:Bool) (r:Int):(if x=true then (if y=true then (if z=true then r else 0) else 0) else 0)=if (x && y && z)=true then r else 0:=by cases x<;>cases y<;>cases z<;>simp
theorem xt (x y z u:Bool) (r:Int):(if x=true then (if y=true then (if z=true then (if u=true then r else 0) else 0) else 0) else 0)=if (x && y && z && u)=true then r else 0:=by cases x<;>cases y<;>cases z<;>cases u<;>simp
theorem yq {s:Stp} (h:¬(1≤s.k∧s.k≤9)) {ah:List Int}:aH s ah=0:=by
 have h1:¬s.k=1:=by omega
 unfold aH
 rw[if_neg h1,if_neg (by omega:¬(s.k=4∨s.k=5∨s.k=6))]
 unfold cz
 rw[if_neg (by omega:¬s.k=2),if_neg (by omega:¬s.k=3),if_neg (by omega:¬s.k=7),if_neg (by omega:¬s.k=8),if_neg (by omega:¬s.k=9)]
 simp
theorem yO {s:Stp} (h:s.k=1) (ah:List Int):aH s ah=if (inB s.a 0 1 && decide (s.b=0) && decide (s.c=0) && decide (s.o=0) && decide (s.v=0) && s.l.isEmpty)=true then 4 else 0:=by
 unfold aH
 rw[yo h,if_pos h]
 rw[bz,show (2:Int)-1=1 from rfl,yU,show ((decide (s.b=0) && decide (s.c=0) && decide (s.o=0) && decide (s.v=0) && s.l.isEmpty) && inB s.a 0 1)=(inB s.a 0 1 && decide (s.b=0) && decide (s.c=0) && decide (s.o=0) && decide (s.v=0) && s.l.isEmpty) from by ac_rfl]
theorem ze {s:Stp} (h:s.k=2) (ah:List Int):aH s ah=if (inB s.a 0 ((ah.length:Int)-1) && decide (s.b=0) && s.l.isEmpty && inB s.o 1 3 && inB s.v (-1073741824) 1073741824 && inB s.c 0 ((ah.getD s.a.toNat 0)-1))=true then (ah.getD s.a.toNat 0) else 0:=by
 unfold aH
 rw[ym h,if_neg (by omega:¬s.k=1),if_neg (by omega:¬(s.k=4∨s.k=5∨s.k=6))]
 unfold cz
 rw[if_pos h]
 rw[bz,bz,yW,show kE s.v=inB s.v (-1073741824) 1073741824 from rfl,xf,show ((decide (s.b=0) && s.l.isEmpty) && inB s.a 0 ((ah.length:Int)-1) && (inB s.c 0 ((ah.getD s.a.toNat 0)-1) && inB s.o 1 3 && inB s.v (-1073741824) 1073741824))=(inB s.a 0 ((ah.length:Int)-1) && decide (s.b=0) && s.l.isEmpty && inB s.o 1 3 && inB s.v (-1073741824) 1073741824 && inB s.c 0 ((ah.getD s.a.toNat 0)-1)) from by ac_rfl]
theorem yV {s:Stp} (h:s.k=3) (ah:List Int):aH s ah=if (inB s.a 0 ((ah.length:Int)-1) && decide (s.b=0) && inB (s.l.length:Int) 1 8 && s.l.all (fun n=>inB n 0 ((ah.getD s.a.toNat 0)-1)) && decide (s.c=0) && decide (s.o=0) && decide (s.v=0))=true then (s.l.length:Int) else 0:=by
 unfold aH
 rw[xG h,if_neg (by omega:¬s.k=1),if_neg (by omega:¬(s.k=4∨s.k=5∨s.k=6))]
 unfold cz
 rw[if_neg (by omega:¬s.k=2),if_pos h]
 rw[bz,show (fun n=>belowB n (ah.getD s.a.toNat 0))=(fun n=>inB n 0 (ah.getD s.a.toNat 0-1)) from funext fun n=>bz n _]
 rw[show (if (decide (s.l.length≤8) && s.l.all (fun n=>inB n 0 (ah.getD s.a.toNat 0-1)))=true then (s.l.length:Int) else 0)=(if (inB (s.l.length:Int) 1 8 && s.l.all (fun n=>inB n 0 (ah.getD s.a.toNat 0-1)))=true then (s.l.length:Int) else 0) from ?_]
 ·rw[xf,show ((decide (s.b=0) && decide (s.c=0) && decide (s.o=0) && decide (s.v=0)) && inB s.a 0 ((ah.length:Int)-1) && (inB (s.l.length:Int) 1 8 && s.l.all (fun n=>inB n 0 ((ah.getD s.a.toNat 0)-1))))=(inB s.a 0 ((ah.length:Int)-1) && decide (s.b=0) && inB (s.l.length:Int) 1 8 && s.l.all (fun n=>inB n 0 ((ah.getD s.a.toNat 0)-1)) && decide (s.c=0) && decide (s.o=0) && decide (s.v=0)) from by ac_rfl]
 ·by_cases hl:s.l.length=0
  ·rw[hl];simp
  ·rw[show decide (s.l.length≤8)=inB (s.l.length:Int) 1 8 from ?_]
   unfold inB
   rw[Bool.eq_iff_iff]
   simp only[Bool.and_eq_true,decide_eq_true_eq]
   omega
theorem yI {s:Stp} (h:s.k=4) (ah:List Int):aH s ah=if (inB s.a 0 ((ah.length:Int)-1) && inB s.b 0 ((ah.length:Int)-1) && s.l.isEmpty && decide ((ah.getD s.a.toNat 0)+(ah.getD s.b.toNat 0)≤8) && inB s.v 0 ((ah.getD s.b.toNat 0)-1) && inB s.c 0 ((ah.getD s.a.toNat 0)-1) && decide (s.o=0))=true then (ah.getD s.a.toNat 0)+(ah.getD s.b.toNat 0) else 0:=by
 unfold aH
 rw[ye h,if_neg (by omega:¬s.k=1),if_pos (by omega:s.k=4∨s.k=5∨s.k=6)]
 unfold dq
 rw[if_pos h]
 rw[bz,bz,bz,bz,xt,show ((decide (s.o=0) && s.l.isEmpty) && inB s.a 0 ((ah.length:Int)-1) && inB s.b 0 ((ah.length:Int)-1) && (inB s.c 0 ((ah.getD s.a.toNat 0)-1) && inB s.v 0 ((ah.getD s.b.toNat 0)-1) && decide ((ah.getD s.a.toNat 0)+(ah.getD s.b.toNat 0)≤8)))=(inB s.a 0 ((ah.length:Int)-1) && inB s.b 0 ((ah.length:Int)-1) && s.l.isEmpty && decide ((ah.getD s.a.toNat 0)+(ah.getD s.b.toNat 0)≤8) && inB s.v 0 ((ah.getD s.b.toNat 0)-1) && inB s.c 0 ((ah.getD s.a.toNat 0)-1) && decide (s.o=0)) from by ac_rfl]
theorem yT {s:Stp} (h:s.k=5) (ah:List Int):aH s ah=if (inB s.a 0 ((ah.length:Int)-1) && inB s.b 0 ((ah.length:Int)-1) && s.l.isEmpty && decide ((ah.getD s.a.toNat 0)=(ah.getD s.b.toNat 0)) && decide (s.c=0) && decide (s.o=0) && decide (s.v=0))=true then (ah.getD s.a.toNat 0) else 0:=by
 unfold aH
 rw[yr h,if_neg (by omega:¬s.k=1),if_pos (by omega:s.k=4∨s.k=5∨s.k=6)]
 unfold dq
 rw[if_neg (by omega:¬s.k=4),if_pos h]
 rw[show (if (ah.getD s.a.toNat 0)=(ah.getD s.b.toNat 0) then (ah.getD s.a.toNat 0) else 0)=(if decide ((ah.getD s.a.toNat 0)=(ah.getD s.b.toNat 0))=true then (ah.getD s.a.toNat 0) else 0) from by simp only[decide_eq_true_eq],bz,bz,xt,show ((decide (s.c=0) && decide (s.o=0) && decide (s.v=0) && s.l.isEmpty) && inB s.a 0 ((ah.length:Int)-1) && inB s.b 0 ((ah.length:Int)-1) && decide ((ah.getD s.a.toNat 0)=(ah.getD s.b.toNat 0)))=(inB s.a 0 ((ah.length:Int)-1) && inB s.b 0 ((ah.length:Int)-1) && s.l.isEmpty && decide ((ah.getD s.a.toNat 0)=(ah.getD s.b.toNat 0)) && decide (s.c=0) && decide (s.o=0) && decide (s.v=0)) from by ac_rfl]
theorem yQ {s:Stp} (h:s.k=6) (ah:List Int):aH s ah=if (inB s.a 0 ((ah.length:Int)-1) && inB s.b 0 ((ah.length:Int)-1) && s.l.isEmpty && decide ((ah.getD s.a.toNat 0)=(ah.getD s.b.toNat 0)) && decide (s.c=0) && decide (s.o=0) && decide (s.v=0))=true then (ah.getD s.a.toNat 0) else 0:=by
 unfold aH
 rw[xy h,if_neg (by omega:¬s.k=1),if_pos (by omega:s.k=4∨s.k=5∨s.k=6)]
 unfold dq
 rw[if_neg (by omega:¬s.k=4),if_neg (by omega:¬s.k=5),if_pos h]
 rw[show (if (ah.getD s.a.toNat 0)=(ah.getD s.b.toNat 0) then (ah.getD s.a.toNat 0) else 0)=(if decide ((ah.getD s.a.toNat 0)=(ah.getD s.b.toNat 0))=true then (ah.getD s.a.toNat 0) else 0) from by simp only[decide_eq_true_eq],bz,bz,xt,show ((decide (s.c=0) && decide (s.o=0) && decide (s.v=0) && s.l.isEmpty) && inB s.a 0 ((ah.length:Int)-1) && inB s.b 0 ((ah.length:Int)-1) && decide ((ah.getD s.a.toNat 0)=(ah.getD s.b.toNat 0)))=(inB s.a 0 ((ah.length:Int)-1) && inB s.b 0 ((ah.length:Int)-1) && s.l.isEmpty && decide ((ah.getD s.a.toNat 0)=(ah.getD s.b.toNat 0)) && decide (s.c=0) && decide (s.o=0) && decide (s.v=0)) from by ac_rfl]
theorem zq {s:Stp} (h:s.k=7) (ah:List Int):aH s ah=if (inB s.a 0 ((ah.length:Int)-1) && decide (s.b=0) && s.l.isEmpty && decide (s.c=0) && decide (s.o=0) && decide (s.v=0))=true then (ah.getD s.a.toNat 0) else 0:=by
 unfold aH
 rw[xY h,if_neg (by omega:¬s.k=1),if_neg (by omega:¬(s.k=4∨s.k=5∨s.k=6))]
 unfold cz
 rw[if_neg (by omega:¬s.k=2),if_neg (by omega:¬s.k=3),if_pos h]
 rw[bz,yU,show ((decide (s.b=0) && decide (s.c=0) && decide (s.o=0) && decide (s.v=0) && s.l.isEmpty) && inB s.a 0 ((ah.length:Int)-1))=(inB s.a 0 ((ah.length:Int)-1) && decide (s.b=0) && s.l.isEmpty && decide (s.c=0) && decide (s.o=0) && decide (s.v=0)) from by ac_rfl]
theorem zn {s:Stp} (h:s.k=8) (ah:List Int):aH s ah=if (inB s.a 0 ((ah.length:Int)-1) && decide (s.b=0) && s.l.isEmpty && inB s.c 0 ((ah.getD s.a.toNat 0)-1) && decide (s.o=0) && decide (s.v=0))=true then 2 else 0:=by
 unfold aH
 rw[xV h,if_neg (by omega:¬s.k=1),if_neg (by omega:¬(s.k=4∨s.k=5∨s.k=6))]
 unfold cz
 rw[if_neg (by omega:¬s.k=2),if_neg (by omega:¬s.k=3),if_neg (by omega:¬s.k=7),if_pos h]
 rw[bz,bz,xf,show ((decide (s.b=0) && decide (s.o=0) && decide (s.v=0) && s.l.isEmpty) && inB s.a 0 ((ah.length:Int)-1) && inB s.c 0 ((ah.getD s.a.toNat 0)-1))=(inB s.a 0 ((ah.length:Int)-1) && decide (s.b=0) && s.l.isEmpty && inB s.c 0 ((ah.getD s.a.toNat 0)-1) && decide (s.o=0) && decide (s.v=0)) from by ac_rfl]
theorem zw {s:Stp} (h:s.k=9) (ah:List Int):aH s ah=if (inB s.a 0 ((ah.length:Int)-1) && decide (s.b=0) && s.l.isEmpty && inB s.v 0 ((ah.getD s.a.toNat 0)-1) && inB s.c 0 ((ah.getD s.a.toNat 0)-1) && decide (s.o=0))=true then 2 else 0:=by
 unfold aH
 rw[yp h,if_neg (by omega:¬s.k=1),if_neg (by omega:¬(s.k=4∨s.k=5∨s.k=6))]
 unfold cz
 rw[if_neg (by omega:¬s.k=2),if_neg (by omega:¬s.k=3),if_neg (by omega:¬s.k=7),if_neg (by omega:¬s.k=8),if_pos h]
 rw[bz,bz,bz,xf,show ((decide (s.b=0) && decide (s.o=0) && s.l.isEmpty) && inB s.a 0 ((ah.length:Int)-1) && (inB s.c 0 ((ah.getD s.a.toNat 0)-1) && inB s.v 0 ((ah.getD s.a.toNat 0)-1)))=(inB s.a 0 ((ah.length:Int)-1) && decide (s.b=0) && s.l.isEmpty && inB s.v 0 ((ah.getD s.a.toNat 0)-1) && inB s.c 0 ((ah.getD s.a.toNat 0)-1) && decide (s.o=0)) from by ac_rfl]

end Go.Proofs.YtckeonpnfankhaaGreatDoor

namespace Go.Proofs.YtckeonpnfankhaaGreatDoor

def eZ:List (Int×List Zit)→Int→Zit→List (Int×List Zit)
 | [],n,x=>[(n,[x])]
 | g::t,n,x=>if g.1=n then (g.1,g.2++[x])::t else g::eZ t n x
def lR (l:List Zit) (c:Int):List (Int×List Zit):=l.foldl (fun g x=>eZ g (atI x.1 c) x) []
def aW:List Zit→Int
 | []=>0
 | x::t=>x.2+aW t
def bX (v:Int):List Zit→Int
 | []=>0
 | x::t=>atI x.1 v*x.2+bX v t
def lB (g:Int×List Zit):Option Zit:=if aW g.2=0 then none else some ([g.1,aW g.2],1)
def l6 (v:Int) (g:Int×List Zit):Option Zit:=if aW g.2=0 then none else some ([g.1,bX v g.2],1)
def lJ (l:List Zit) (c:Int):List Zit:=(lR l c).filterMap lB
def vb (l:List Zit) (c v:Int):List Zit:=(lR l c).filterMap (l6 v)
def dV (s:Stp) (a:List Zit):List Zit:=if s.k=2 then da a s.c s.o s.v else if s.k=3 then fB a s.l else if s.k=7 then fw a else if s.k=8 then lJ a s.c else vb a s.c s.v
def dn (a b:List Zit) (c v:Int):List Zit:=a.flatMap fun x=>(b.filter fun y=>decide (atI y.1 v=atI x.1 c)).map fun y=>(x.1++y.1,x.2*y.2)
def jC (a b:List Zit) (c v:Int):Int:=if (dn a b c v).all (fun x=>okW x.2)=true then bW ((dn a b c v).take 401) else 5
def kM (a b:List Zit) (c v:Int):List Zit:=if jC a b c v=0 then df ((dn a b c v).take 401) else []
def eX (b:List Zit):List Zit:=b.map fun x=>(x.1,-x.2)
def lQ (a b:List Zit):Int:=if av b=0 then aP a (eX b) else av b
def pY (a b:List Zit):List Zit:=if lQ a b=0 then aN a (eX b) else []
def nJ (s:Stp) (a b:List Zit):List Zit:=if s.a=0 then a else b
def bD (S:List (List Zit)) (i:Int):List Zit:=S.getD i.toNat []
def aQ (s:Stp) (a b:List Zit) (S:List (List Zit)):Int:=if s.k=1 then bW (nJ s a b) else if s.k=4 then jC (bD S s.a) (bD S s.b) s.c s.v else if s.k=5 then aP (bD S s.a) (bD S s.b) else if s.k=6 then lQ (bD S s.a) (bD S s.b) else bW (dV s (bD S s.a))
def aT (s:Stp) (a b:List Zit) (S:List (List Zit)):List Zit:=if s.k=1 then df (nJ s a b) else if s.k=4 then kM (bD S s.a) (bD S s.b) s.c s.v else if s.k=5 then aN (bD S s.a) (bD S s.b) else if s.k=6 then pY (bD S s.a) (bD S s.b) else df (dV s (bD S s.a))
def iN (a b:List Zit):List Stp→List (List Zit)→Int
 | [],_=>0
 | s::t,S=>if aQ s a b S=0 then iN a b t (S++[aT s a b S]) else aQ s a b S
def kj (a b:List Zit):List Stp→List (List Zit)→List (List Zit)
 | [],S=>S
 | s::t,S=>if aQ s a b S=0 then kj a b t (S++[aT s a b S]) else []
def cQ (n:Int) (l:List Zit):Prop:=∀x∈l,(x.1.length:Int)=n
def mj (q:List Stp) (a b:List Zit):Int:=if bS q=0 then (if av a=0 then (if av b=0 then (if (a++b).all (fun x=>decide (x.1.length=4))=true then 0 else 5) else av b) else av a) else bS q
def cH (q:List Stp) (a b:List Zit):Int:=if mj q a b=0 then iN a b q [] else mj q a b
def iF (q:List Stp) (a b:List Zit):List (List Zit):=if cH q a b=0 then kj a b q [] else []

theorem jL {l:List Zit} {n:Int} (h:cQ n l):cQ n (df l):=fun x hx=>by
 unfold df at hx
 by_cases e:bW l=0
 ·rw[if_pos e] at hx
  obtain ⟨y,hy,e2⟩:=(aZ l).row hx
  rw[←e2];exact h y hy
 ·rw[if_neg e] at hx;cases hx
theorem oc {a b:List Zit} {n:Int} (h:cQ n a) (k:cQ n b):cQ n (aN a b):=fun x hx=>by
 unfold aN at hx
 by_cases e:aP a b=0
 ·rw[if_pos e] at hx
  obtain ⟨y,hy,e2⟩:=(aZ _).row hx
  rw[←e2]
  rcases List.mem_append.1 hy with m|m
  ·exact h y m
  ·exact k y m
 ·rw[if_neg e] at hx;cases hx
theorem iR {l:List Zit} (h:bW l=0):av (df l)=0:=by rw[(qU h).1];exact (qU h).2
structure Ahd (S:List (List Zit)) (ah:List Int):Prop where
 len:S.length=ah.length
 ok:∀i,i<S.length→av (S.getD i [])=0∧cQ (ah.getD i 0) (S.getD i [])
theorem Ahd.nil:Ahd [] []:=⟨rfl,fun i h=>absurd h (by simp)⟩
theorem Ahd.snoc {S:List (List Zit)} {ah:List Int} (h:Ahd S ah) {T:List Zit} {n:Int} (h1:av T=0) (h2:cQ n T):Ahd (S++[T]) (ah++[n]):=by
 refine ⟨by simp[h.len],fun i hi=> ?_⟩
 by_cases e:i<S.length
 ·have e2:i<ah.length:=by rw[←h.len];exact e
  rw[List.getD_eq_getElem?_getD,List.getD_eq_getElem?_getD,List.getElem?_append_left e,List.getElem?_append_left e2,←List.getD_eq_getElem?_getD,←List.getD_eq_getElem?_getD]
  exact h.ok i e
 ·have e1:i=S.length:=by simp at hi;omega
  have e2:i=ah.length:=by rw[←h.len];exact e1
  rw[List.getD_eq_getElem?_getD,List.getD_eq_getElem?_getD,List.getElem?_append_right (by omega),List.getElem?_append_right (by omega),e1,←h.len]
  simp only[Nat.sub_self,z0',Option.getD_some]
  exact ⟨h1,h2⟩
theorem Ahd.at {S:List (List Zit)} {ah:List Int} (h:Ahd S ah) {i:Int} (hi:inB i 0 ((ah.length:Int)-1)=true):0≤i∧i.toNat<S.length∧av (bD S i)=0∧cQ (ah.getD i.toNat 0) (bD S i):=by
 have hi':0≤i∧i≤(ah.length:Int)-1:=by simpa[inB] using hi
 have e:i.toNat<S.length:=by rw[h.len];omega
 exact ⟨hi'.1,e,h.ok _ e⟩
theorem qr (l:List Zit) (c:Int):cQ 2 (lJ l c):=fun x hx=>by
 obtain ⟨g,_,h⟩:=List.mem_filterMap.1 hx
 unfold lB at h
 by_cases e:aW g.2=0
 ·rw[if_pos e] at h;cases h
 ·rw[if_neg e] at h;cases h;rfl
theorem tY (l:List Zit) (c v:Int):cQ 2 (vb l c v):=fun x hx=>by
 obtain ⟨g,_,h⟩:=List.mem_filterMap.1 hx
 unfold l6 at h
 by_cases e:aW g.2=0
 ·rw[if_pos e] at h;cases h
 ·rw[if_neg e] at h;cases h;rfl
theorem pV {l:List Zit} {n:Int} (h:cQ n l) (c o v:Int):cQ n (da l c o v):=fun x hx=>h x (List.mem_filter.1 hx).1
theorem rU (l:List Zit) (cols:List Int):cQ cols.length (fB l cols):=fun x hx=>by
 obtain ⟨y,_,rfl⟩:=List.mem_map.1 hx
 simp[dY]
theorem sL {l:List Zit} {n:Int} (h:cQ n l):cQ n (fw l):=fun x hx=>by
 obtain ⟨y,hy,rfl⟩:=List.mem_map.1 hx
 exact h y (List.mem_filter.1 hy).1
theorem rQ {a b:List Zit} {n m:Int} (h:cQ n a) (k:cQ m b) (c v:Int):cQ (n+m) (dn a b c v):=fun x hx=>by
 obtain ⟨y,hy,hx⟩:=List.mem_flatMap.1 hx
 obtain ⟨z,hz,rfl⟩:=List.mem_map.1 hx
 have h1:=h y hy
 have h2:=k z (List.mem_filter.1 hz).1
 simp only[List.length_append]
 omega
theorem vO {l:List Zit} {n:Int} (h:cQ n l):cQ n (l.map fun x=>(x.1,-x.2)):=fun x hx=>by
 obtain ⟨y,hy,rfl⟩:=List.mem_map.1 hx
 exact h y hy
theorem cQ.take {l:List Zit} {n:Int} (h:cQ n l) (k:Nat):cQ n (l.take k):=fun x hx=>h x (List.mem_of_mem_take hx)
theorem kinds {s:Stp} {ah:List Int} (h:aH s ah≠0):s.k=1∨s.k=2∨s.k=3∨s.k=4∨s.k=5∨s.k=6∨s.k=7∨s.k=8∨s.k=9:=by
 by_cases h1:s.k=1 ;· exact oL h1
 by_cases h2:s.k=2 ;· simp[h2]
 by_cases h3:s.k=3 ;· simp[h3]
 by_cases h4:s.k=4 ;· simp[h4]
 by_cases h5:s.k=5 ;· simp[h5]
 by_cases h6:s.k=6 ;· simp[h6]
 by_cases h7:s.k=7 ;· simp[h7]
 by_cases h8:s.k=8 ;· simp[h8]
 by_cases h9:s.k=9 ;· simp[h9]
 exfalso
 apply h
 have h456:¬(s.k=4∨s.k=5∨s.k=6):=by omega
 unfold aH cz
 simp only[if_neg h1,if_neg h2,if_neg h3,if_neg h7,if_neg h8,if_neg h9,if_neg h456,ite_self]
theorem dh {p:Bool} {n:Int} (h:(if p=true then n else 0)≠0):p=true∧(if p=true then n else 0)=n:=by
 cases p with
 | true=>exact ⟨rfl,rfl⟩
 | false=>exact absurd rfl h
theorem yz {s:Stp} {ah:List Int} (h:aH s ah≠0) (k:s.k=1):(s.a=0∨s.a=1)∧aH s ah=4:=by
 rw[yO k] at h ⊢
 obtain ⟨h1,h2⟩:=dh h
 simp only[inB,Bool.and_eq_true,decide_eq_true_eq] at h1
 exact ⟨by omega,h2⟩
theorem xx {s:Stp} {ah:List Int} (h:aH s ah≠0) (k:s.k=2):inB s.a 0 ((ah.length:Int)-1)=true∧inB s.o 1 3=true∧inB s.c 0 ((ah.getD s.a.toNat 0)-1)=true∧aH s ah=ah.getD s.a.toNat 0:=by
 rw[ze k] at h ⊢
 obtain ⟨h1,h2⟩:=dh h
 simp only[Bool.and_eq_true] at h1
 exact ⟨h1.1.1.1.1.1,h1.1.1.2,h1.2,h2⟩
theorem xD {s:Stp} {ah:List Int} (h:aH s ah≠0) (k:s.k=3):inB s.a 0 ((ah.length:Int)-1)=true∧s.l.length≤8∧(∀n∈s.l,inB n 0 ((ah.getD s.a.toNat 0)-1)=true)∧aH s ah=s.l.length:=by
 rw[yV k] at h ⊢
 obtain ⟨h1,h2⟩:=dh h
 simp only[Bool.and_eq_true,List.all_eq_true] at h1
 refine ⟨h1.1.1.1.1.1.1,?_,h1.1.1.1.2,h2⟩
 have:=h1.1.1.1.1.2
 simp only[inB,Bool.and_eq_true,decide_eq_true_eq] at this
 omega
theorem xW {s:Stp} {ah:List Int} (h:aH s ah≠0) (k:s.k=4):inB s.a 0 ((ah.length:Int)-1)=true∧inB s.b 0 ((ah.length:Int)-1)=true∧inB s.v 0 ((ah.getD s.b.toNat 0)-1)=true∧inB s.c 0 ((ah.getD s.a.toNat 0)-1)=true∧aH s ah=ah.getD s.a.toNat 0+ah.getD s.b.toNat 0:=by
 rw[yI k] at h ⊢
 obtain ⟨h1,h2⟩:=dh h
 simp only[Bool.and_eq_true] at h1
 exact ⟨h1.1.1.1.1.1.1,h1.1.1.1.1.1.2,h1.1.1.2,h1.1.2,h2⟩
theorem yC {s:Stp} {ah:List Int} (h:aH s ah≠0) (k:s.k=5):inB s.a 0 ((ah.length:Int)-1)=true∧inB s.b 0 ((ah.length:Int)-1)=true∧ah.getD s.a.toNat 0=ah.getD s.b.toNat 0∧aH s ah=ah.getD s.a.toNat 0:=by
 rw[yT k] at h ⊢
 obtain ⟨h1,h2⟩:=dh h
 simp only[Bool.and_eq_true,decide_eq_true_eq] at h1
 exact ⟨h1.1.1.1.1.1.1,h1.1.1.1.1.1.2,h1.1.1.1.2,h2⟩
theorem zk {s:Stp} {ah:List Int} (h:aH s ah≠0) (k:s.k=6):inB s.a 0 ((ah.length:Int)-1)=true∧inB s.b 0 ((ah.length:Int)-1)=true∧ah.getD s.a.toNat 0=ah.getD s.b.toNat 0∧aH s ah=ah.getD s.a.toNat 0:=by
 rw[yQ k] at h ⊢
 obtain ⟨h1,h2⟩:=dh h
 simp only[Bool.and_eq_true,decide_eq_true_eq] at h1
 exact ⟨h1.1.1.1.1.1.1,h1.1.1.1.1.1.2,h1.1.1.1.2,h2⟩
theorem zx {s:Stp} {ah:List Int} (h:aH s ah≠0) (k:s.k=7):inB s.a 0 ((ah.length:Int)-1)=true∧aH s ah=ah.getD s.a.toNat 0:=by
 rw[zq k] at h ⊢
 obtain ⟨h1,h2⟩:=dh h
 simp only[Bool.and_eq_true] at h1
 exact ⟨h1.1.1.1.1.1,h2⟩
theorem xT {s:Stp} {ah:List Int} (h:aH s ah≠0) (k:s.k=8):inB s.a 0 ((ah.length:Int)-1)=true∧inB s.c 0 ((ah.getD s.a.toNat 0)-1)=true∧aH s ah=2:=by
 rw[zn k] at h ⊢
 obtain ⟨h1,h2⟩:=dh h
 simp only[Bool.and_eq_true] at h1
 exact ⟨h1.1.1.1.1.1,h1.1.1.2,h2⟩
theorem yh {s:Stp} {ah:List Int} (h:aH s ah≠0) (k:s.k=9):inB s.a 0 ((ah.length:Int)-1)=true∧inB s.v 0 ((ah.getD s.a.toNat 0)-1)=true∧inB s.c 0 ((ah.getD s.a.toNat 0)-1)=true∧aH s ah=2:=by
 rw[zw k] at h ⊢
 obtain ⟨h1,h2⟩:=dh h
 simp only[Bool.and_eq_true] at h1
 exact ⟨h1.1.1.1.1.1,h1.1.1.2,h1.1.2,h2⟩

theorem kL {s:Stp} {ah:List Int} {S:List (List Zit)} {a b:List Zit} (h:aH s ah≠0) (hS:Ahd S ah) (ha:cQ 4 a) (hb:cQ 4 b) (e:aQ s a b S=0):av (aT s a b S)=0∧cQ (aH s ah) (aT s a b S):=by
 have hone:s.k≠1→s.k≠4→s.k≠5→s.k≠6→(cQ (aH s ah) (dV s (bD S s.a)))→av (aT s a b S)=0∧cQ (aH s ah) (aT s a b S):=fun h1 h4 h5 h6 hw=>by
  unfold aQ at e
  unfold aT
  rw[if_neg h1,if_neg h4,if_neg h5,if_neg h6] at e ⊢
  exact ⟨iR e,jL hw⟩
 rcases kinds h with k|k|k|k|k|k|k|k|k
 ·obtain ⟨hp,hw⟩:=yz h k
  unfold aQ at e
  unfold aT
  rw[if_pos k] at e ⊢
  rw[hw]
  refine ⟨iR e,jL ?_⟩
  unfold nJ
  split
  ·exact ha
  ·exact hb
 ·obtain ⟨h1,h2,h3,h4⟩:=xx h k
  refine hone (by omega) (by omega) (by omega) (by omega) ?_
  unfold dV
  rw[if_pos k,h4]
  exact pV (hS.at h1).2.2.2 _ _ _
 ·obtain ⟨h1,h2,h3,h4⟩:=xD h k
  refine hone (by omega) (by omega) (by omega) (by omega) ?_
  unfold dV
  rw[if_neg (by omega),if_pos k,h4]
  exact rU _ _
 ·obtain ⟨h1,h2,h3,h4,h5⟩:=xW h k
  unfold aQ at e
  unfold aT
  rw[if_neg (by omega),if_pos k] at e ⊢
  unfold kM
  rw[if_pos e]
  unfold jC at e
  split at e
  ·rw[h5]
   exact ⟨iR e,jL ((rQ (hS.at h1).2.2.2 (hS.at h2).2.2.2 _ _).take _)⟩
  ·cases e
 ·obtain ⟨h1,h2,h3,h4⟩:=yC h k
  unfold aQ at e
  unfold aT
  rw[if_neg (by omega),if_neg (by omega),if_pos k] at e ⊢
  rw[h4]
  exact ⟨(mL e).2.2,oc (hS.at h1).2.2.2 (h3▸(hS.at h2).2.2.2)⟩
 ·obtain ⟨h1,h2,h3,h4⟩:=zk h k
  unfold aQ at e
  unfold aT
  rw[if_neg (by omega),if_neg (by omega),if_neg (by omega),if_pos k] at e ⊢
  unfold pY
  rw[if_pos e]
  unfold lQ at e
  rw[if_pos (hS.at h2).2.2.1] at e
  rw[h4]
  exact ⟨(mL e).2.2,oc (hS.at h1).2.2.2 (vO (h3▸(hS.at h2).2.2.2))⟩
 ·obtain ⟨h1,h4⟩:=zx h k
  refine hone (by omega) (by omega) (by omega) (by omega) ?_
  unfold dV
  rw[if_neg (by omega),if_neg (by omega),if_pos k,h4]
  exact sL (hS.at h1).2.2.2
 ·obtain ⟨h1,h2,h4⟩:=xT h k
  refine hone (by omega) (by omega) (by omega) (by omega) ?_
  unfold dV
  rw[if_neg (by omega),if_neg (by omega),if_neg (by omega),if_pos k,h4]
  exact qr _ _
 ·obtain ⟨h1,h2,h3,h4⟩:=yh h k
  refine hone (by omega) (by omega) (by omega) (by omega) ?_
  unfold dV
  rw[if_neg (by omega),if_neg (by omega),if_neg (by omega),if_neg (by omega),h4]
  exact tY _ _ _
end Go.Proofs.YtckeonpnfankhaaGreatDoor
