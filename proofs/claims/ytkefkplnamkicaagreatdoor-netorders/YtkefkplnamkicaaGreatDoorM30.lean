/-
  table.Since: what is to be merged with a table that has seen a context.
  What viewref.Since reckons with: the clock ahead of the dots that go; which dots are left.
  What is told since another one's context: which dots it has; that it is right; that it brings what all would.
  (*Node).become: a node's tables from now on; its views take what that brings.
-/
import Derived.Test.YtkefkplnamkicaaGreatDoorM29
set_option maxRecDepth 100000
set_option maxHeartbeats 8000000
open Go.Ending renaming returned → r
open Go.IntKind renaming i64 → Z
open Go.Obj renaming cells → U
open Go.Proofs.Tryz renaming prog → R
open Go.Value renaming slice → I, int → H, agg → f, tuple → ia, pointer → ib
namespace Go.Proofs.YtkefkplnamkicaaGreatDoor
open Go.RowKit Go.Sort

def aZ (c:Ctx) (x:Cel):Bool:=ai c x.1
def eu (c:Ctx) (l:List Cel):List Cel:=l.filter fun x=> !aZ c x
def aT (t:Tab) (c:Ctx):Int:=if am t≠0 then am t else if aP c≠0 then aP c else woE t.c (ak (aZ c) t.e)
def aB (t:Tab) (c:Ctx):Tab:=if aT t c=0 then ⟨woC t.c (ak (aZ c) t.e),eu c t.e⟩ else ⟨aM,[]⟩
theorem pj {t:Tab} {c:Ctx} {E:Int} (h:aT t c=E) (h0:E≠0):aT t c=E∧aB t c=⟨aM,[]⟩:=⟨h,by unfold aB;rw[h,if_neg h0]⟩

theorem sR {c:Ctx} {l:List Cel} {k:Nat} (h:k<l.length) {x:Cel} (hx:l[k]=x):eu c (l.take (k+1))=eu c (l.take k)++(if aZ c x then [] else [x]):=by
 unfold eu
 rw[ij h hx]
 cases aZ c x<;>simp
theorem oU (c:Ctx) (l:List Cel):(eu c l).length≤l.length:=List.length_filter_le _ _

theorem j8 {t:Tab} (h:am t=0) (p:Cel→Bool):∀x∈ak p t.e,ar x=true:=by
 intro x hx
 obtain ⟨y,hy,rfl⟩:=List.mem_map.1 hx
 exact kw (bX (ae h).1) (bS h (List.mem_filter.1 hy).1)

def eV (v u:Value):Prop:=∀g,v.ownBlock=some g→u.ownBlock=some g→False
theorem eV.symm {v u:Value} (h:eV v u):eV u v:=fun g h1 h2=>h g h2 h1
theorem eV.ne {v u:Value} (h:eV v u):v.ownBlock=none∨v.ownBlock≠u.ownBlock:=by
 cases hv:v.ownBlock with
 | none=>exact oL rfl
 | some g=>exact oR fun e=>h g hv e.symm
theorem eV.grown {v v' u:Value} {N:Nat} (h:eV v u) (hv:v'.ownBlock=v.ownBlock∨v'.ownBlock=some N) (hu:∀g,u.ownBlock=some g→g<N):eV v' u:=by
 intro g h1 h2
 rcases hv with e|e
 ·exact h g (e▸h1) h2
 ·rw[e] at h1
  have:=hu g h2
  have:=sI h1
  omega

theorem kh (w:World) {ops:Array Oper} {rest:List Oper} {o:Oper} {a:Act} {Q:Exit→Act→World→Prop} (hgd:o.guard=none) (s x:Operand)
  (ho:o.op= .call { callee:= .builtin .append,args:= #[s,x],argTypes:= #[39,39] })
  (base:Nat) (v:Value) (l m:List Cel) (ad:Addr) (cap:Nat) (hs:a.eval s=v) (hx:a.eval x= I (some ad) m.length cap) (hown:dB w base v l) (hr:bw w (some ad) m)
  (hml:l.length+m.length≤maxLen) (hb:(l.length+m.length)*40≤140737488355328) (hbase:base≤w.heap.size)
  (h:∀v' w',dB w' base v' (l++m)→w.grownBy w' v.ownBlock→(v'.ownBlock=v.ownBlock∨v'.ownBlock=some w.heap.size)→wpList R ops Q rest (a.put o.dst v') w'):wpList R ops Q (o::rest) a w :=
 wpList_plain hgd fun K hK=>by
  obtain ⟨i0,hi,hz0,hz1,hz2⟩:=info_parts Tryz.infoC
  obtain ⟨v',w',g1,g2,g3,_,g5⟩:=run_append_own_at (P:=R) w base 39 o.type 97 i0 (f #[H Z 0,H Z 0,H Z 0,H Z 0,H Z 0]) 5 40 Tryz.underlying39 hi hz0 hz1 hz2 rfl (by omega) v l.length (aI gY l) hown ad m.length cap (aI gY m) (bi dD m) (hr.cells dD (by omega)) (fun u hu=>dq me u m hu) hml hb hbase
  have h2:dB w' base v' (l++m):=by
   show w'.ownsRow base _ 5 v' (l++m).length (aI gY (l++m))
   rw[List.length_append,cg]
   exact g2
  unfold Oper.wp execOp
  simp only[ho,resolve,invoke,builtin,Sem.run_bind,Sem.run_pure,Result.andThen_ok,List.map_toArray,List.map_cons,List.map_nil,hs,hx,g1]
  exact hK _ _ (h v' w' h2 g3 g5)

structure SinceAt (w W:World) (t:Tab) (c:Ctx) (A:Option Addr) (ca:Nat) (D:Option Addr) (cd:Nat) (B:Option Addr) (cb:Nat):Prop where
 ta:TabAt W w.heap.size t A ca D cd
 tc:CtxAt W (w.heap.size+1) c B cb
 res:yC W (w.heap.size+1+1)
 hw:Below w.heap.size w W
theorem SinceAt.below {w W W':World} {t:Tab} {c:Ctx} {A B D:Option Addr} {ca cb cd:Nat} (h:SinceAt w W t c A ca D cd B cb) (k:Below W.heap.size W W'):SinceAt w W' t c A ca D cd B cb :=
 ⟨h.ta.below k,h.tc.below k,h.res.below k,h.hw.trans (k.mono h.hw.size)⟩
theorem SinceAt.gr {w W W':World} {t:Tab} {c:Ctx} {A B D:Option Addr} {ca cb cd:Nat} (h:SinceAt w W t c A ca D cd B cb) (k:Gr W W'):SinceAt w W' t c A ca D cd B cb:=h.below k.below

theorem pl (t:Tab) (c:Ctx) (A B D:Option Addr) (ca cb cd:Nat) (w:World) (htl:t.c.l.length≤maxLen) (hcl:c.l.length≤maxLen) (htel:t.e.length≤maxLen) (hra:Row w A t.c.l) (hrb:Row w B c.l) (hrd:bw w D t.e) :
  Calls R 110 #[f (T6 t A ca D cd).toArray,f #[H Z c.c0,H Z c.c1,H Z c.c2,H Z c.c3,I B c.l.length cb]] w fun e w'=>∃E ce F cf,e= r (ia #[f (T6 (aB t c) E ce F cf).toArray,H Z (aT t c)])∧Row w' E (aB t c).c.l∧bw w' F (aB t c).e∧(E=none→ce=0)∧(F=none→cf=0)∧Below w.heap.size w w'∧(∀x,E=some x→w.heap.size≤x.block)∧(∀x,F=some x→w.heap.size≤x.block):=by
 have hF0:SinceAt w (((w.alloc (U #[H Z t.c.c0,H Z t.c.c1,H Z t.c.c2,H Z t.c.c3,I A t.c.l.length ca,I D t.e.length cd] 41)).alloc (U #[H Z c.c0,H Z c.c1,H Z c.c2,H Z c.c3,I B c.l.length cb] 38)).alloc (U #[H Z 0,H Z 0,H Z 0,H Z 0,I none 0 0,I none 0 0] 41)) t c A ca D cd B cb :=
  ⟨(TabAt.new 41 hra hrd rfl).gr (((gR _).alloc _).alloc _),(CtxAt.new 38 (hrb.gr ((gR _).alloc _)) (by simp)).gr ((gR _).alloc _),Six.new _ _ _ _ _ _ _ 41 (by simp),((((gR w).alloc _).alloc _).alloc _).below⟩
 have hlH:Hid (t.c.l.length≤maxLen∧c.l.length≤maxLen∧t.e.length≤maxLen):=⟨htl,hcl,htel⟩
 have hck:=eE t A ca D cd _ htl htel hF0.ta.row hF0.ta.rowC
 have hckH:Hid _:=hck
 clear hck htl hcl htel hra hrb hrd
 go_enter Tryz.func110,Tryz.ntmps110
 go_wp2_with fail
 refine cM (show Calls _ _ _ _ _ from hckH.out) ?_
 rintro e w1 ⟨rfl,hg1⟩
 clear hckH
 have hF1:=hF0.gr hg1
 clear hF0 hg1
 obtain ⟨E1,hE1⟩:∃E,am t=E:=⟨_,rfl⟩
 rw[hE1]
 by_cases h1:E1=0
 ·subst h1
  have heA:Hid (am t=0):=hE1
  clear hE1
  obtain ⟨b0,b1,b2,b3,b4,blt,brow⟩:=(show CtxAt _ _ _ _ _ from hF1.tc)
  have hck:=fb c B cb w1 hlH.out.2.1 brow
  have hckH:Hid _:=hck
  clear hck brow
  go_wp2_with fail
  refine cM (show Calls _ _ _ _ _ from hckH.out) ?_
  rintro e w2 ⟨rfl,hg2⟩
  clear hckH b0 b1 b2 b3 b4 blt
  have hF2:=hF1.gr hg2
  clear hF1 hg2
  obtain ⟨E2,hE2⟩:∃E,aP c=E:=⟨_,rfl⟩
  rw[hE2]
  by_cases h2:E2=0
  ·subst h2
   have heB:Hid (aP c=0):=hE2
   clear hE2
   have a5:=hF2.ta.k5
   have hel4:t.e.length≤400:=(ae heA.out).2.1
   go_wp2
   clear a5
   go_loopw [8,9,29] (fun v u i wr=>∃k:Nat,k≤t.e.length∧i= H Z k∧dB wr w2.heap.size v (eu c (t.e.take k))∧Own wr w2.heap.size u (ak (aZ c) (t.e.take k))∧eV v u∧Below w2.heap.size w2 wr) (fun _ _ i _=>t.e.length-(intOf i).toNat)
   case atStart=>exact ⟨0,by omega,rfl,af.nil _ _ _ _ _,Own.nil _ _,(fun g h=>by cases h),bR _ _⟩
   case round =>
    obtain ⟨k,hk,rfl,hov,hou,hap,hbel⟩:=hrel
    have hFR:=hF2.below hbel
    have hsR:w2.heap.size≤wr.heap.size:=hbel.size
    by_cases hlt:k<t.e.length
    ·have hltz:(k:Int)<(t.e.length:Int):=by omega
     obtain ⟨bb,off,rfl,hbb,hcs⟩:=bw.get hFR.ta.rowC hlt
     obtain ⟨x,hx⟩:∃x,t.e[k]=x:=⟨_,rfl⟩
     obtain ⟨e0,e1,e2,e3,e4⟩:=hcs k hlt
     rw[hx] at e0 e1 e2 e3 e4
     have hst:=sR (c:=c) hlt hx
     have hst':=kW (p:=aZ c) hlt hx
     clear hcs hx
     obtain ⟨M,HM⟩:∃M,eu c (t.e.take k)=M:=⟨_,rfl⟩
     have hMl:M.length≤400:=by rw[←HM];exact nT (oU _ _) (by rw[List.length_take];omega)
     obtain ⟨N,HN⟩:∃N,ak (aZ c) (t.e.take k)=N:=⟨_,rfl⟩
     have hNl:N.length≤400:=by rw[←HN];exact nT (dM _ _) (by rw[List.length_take];omega)
     rw[HM] at hov hst
     rw[HN] at hou hst'
     clear HM HN
     obtain ⟨A1,cap1,rfl,hA1,hrow1,hlt1⟩:=af.row dD hov
     obtain ⟨A2,cap2,rfl,hA2,hrow2,hlt2⟩:=hou.row
     have hovH:Hid (dB wr w2.heap.size (I A1 M.length cap1) M):=hov
     have houH:Hid (Own wr w2.heap.size (I A2 N.length cap2) N):=hou
     have hapH:Hid (eV (I A1 M.length cap1) (I A2 N.length cap2)):=hap
     have hbelH:Hid (Below w2.heap.size w2 wr):=hbel
     have hgX:Gr wr (wr.alloc (U #[H Z x.1.1,H Z x.1.2,H Z x.2.1,H Z x.2.2.1,H Z x.2.2.2] 97)):=(gR _).alloc _
     have hxA:=CelAt.new (w:=wr) x 97 rfl
     have hFX:=hFR.gr hgX
     obtain ⟨b0,b1,b2,b3,b4,blt,brow⟩:=(show CtxAt _ _ _ _ _ from hFX.tc)
     obtain ⟨x0,x1,x2,x3,x4,xlt⟩:=(show CelAt _ _ _ from hxA)
     have hha:=jL c B cb x.1 _ hlH.out.2.1 brow
     have hhaH:Hid _:=hha
     clear hov hou hap hbel hrow1 hrow2 hha hlt1 hlt2 hFR
     go_wp2_with fail
     refine cM (show Calls _ _ _ _ _ from hhaH.out) ?_
     rintro e w3 ⟨rfl,hg3⟩
     clear hhaH x0 x1 x2 x3 x4 b0 b1 b2 b3 b4
     have hgW:Gr wr w3:=hgX.trans hg3
     obtain ⟨x0,x1,x2,x3,x4,xlt3⟩:=(show CelAt _ _ _ from hxA.gr hg3)
     clear hFX hgX hg3 hxA xlt brow
     cases hq:ai c x.1
     ·have hst2:Hid (eu c (t.e.take (k+1))=M++[x]):=by show _=_;rw[hst,if_neg (by simp[aZ,hq])]
      have hst3:Hid (ak (aZ c) (t.e.take (k+1))=N):=by show _=_;rw[hst',if_neg (by simp[aZ,hq])];simp
      have hbd:Hid (M.length+[x].length≤maxLen∧(M.length+[x].length)*40≤140737488355328):=by show _∧_;unfold maxLen;simp only[List.length_cons,List.length_nil];omega
      clear hst hst'
      go_wp2_with (at_builtin;refine kh _ rfl _ _ rfl w2.heap.size (I A1 M.length cap1) M [x] ⟨w3.heap.size,0,none⟩ 1 rfl rfl ?ho ?hr hbd.out.1 hbd.out.2 ?hs ?_)
      case ho=>exact hovH.out.gr (hgW.alloc _)
      case hr=>exact jU rfl _ _
      case hs=>have:=hgW.size;simp;omega
      intro v1 w4 hown1 hgr1 hat1
      have hb3:Hid (Below w2.heap.size w2 w4):=hbelH.out.trans (((hgW.alloc _).below.mono hsR).trans (af.grown_below (hovH.out.gr (hgW.alloc _)) hgr1 (by have:=hgW.size;simp;omega)))
      have hownH:Hid (dB w4 w2.heap.size v1 (M++[x])):=hown1
      have houX:=houH.out.gr (hgW.alloc (U #[H Z x.1.1,H Z x.1.2,H Z x.2.1,H Z x.2.2.1,H Z x.2.2.2] 97))
      have hou4:Hid (Own w4 w2.heap.size (I A2 N.length cap2) N):=World.ownsRow.kept houX hgr1 hapH.out.symm.ne
      have hap4:Hid (eV v1 (I A2 N.length cap2)):=hapH.out.grown hat1 fun g hg=>by have:=(World.ownsRow.lt houX g hg).2;simpa using this
      clear hown1 hgr1 hat1 houX
      go_wp2
      go_roundw
      case rel=>exact ⟨k+1,by omega,by go_num,by rw[hst2.out];exact hownH.out,by rw[hst3.out];exact hou4.out,hap4.out,hb3.out⟩
      case measure=>simp[intOf];omega
     ·have hst2:Hid (eu c (t.e.take (k+1))=M):=by show _=_;rw[hst,if_pos (by simp[aZ,hq])];simp
      have hst3:Hid (ak (aZ c) (t.e.take (k+1))=N++[x.1]):=by show _=_;rw[hst',if_pos (by simp[aZ,hq])]
      have hbd:Hid ((N.length+[x.1].length)*16≤140737488355328):=by show _≤_;simp only[List.length_cons,List.length_nil];omega
      clear hst hst'
      go_wp2_with (at_builtin;refine aJ _ rfl _ _ rfl w2.heap.size (I A2 N.length cap2) N [x.1] (some ⟨w3.heap.size,0,none⟩) 1 rfl rfl ?ho ?hr (fun h=>by cases h) hbd.out ?hs ?_)
      case ho=>exact houH.out.gr (hgW.alloc _)
      case hr=>exact iz rfl x.1.1 x.1.2 _
      case hs=>have:=hgW.size;simp;omega
      intro v1 w4 hown1 hgr1 hat1
      have hb3:Hid (Below w2.heap.size w2 w4):=hbelH.out.trans (((hgW.alloc _).below.mono hsR).trans (Own.grown_below (houH.out.gr (hgW.alloc _)) hgr1 (by have:=hgW.size;simp;omega)))
      have hownH:Hid (Own w4 w2.heap.size v1 (N++[x.1])):=hown1
      have hovX:=hovH.out.gr (hgW.alloc (U #[H Z x.1.1,H Z x.1.2] 95))
      have hov4:Hid (dB w4 w2.heap.size (I A1 M.length cap1) M):=World.ownsRow.kept hovX hgr1 hapH.out.ne
      have hap4:Hid (eV (I A1 M.length cap1) v1):=(hapH.out.symm.grown hat1 fun g hg=>by have:=(World.ownsRow.lt hovX g hg).2;simpa using this).symm
      clear hown1 hgr1 hat1 hovX
      go_wp2
      go_roundw
      case rel=>exact ⟨k+1,by omega,by go_num,by rw[hst2.out];exact hov4.out,by rw[hst3.out];exact hownH.out,hap4.out,hb3.out⟩
      case measure=>simp[intOf];omega
    ·have hltz:¬(k:Int)<(t.e.length:Int):=by omega
     have hke:t.e.take k=t.e:=List.take_of_length_le (by omega)
     rw[hke] at hov hou
     obtain ⟨A1,cap1,rfl,hA1,hrow1,hlt1⟩:=af.row dD hov
     obtain ⟨A2,cap2,rfl,hA2,hrow2,hlt2⟩:=hou.row
     obtain ⟨N,HN⟩:∃N,ak (aZ c) t.e=N:=⟨_,rfl⟩
     have hNl:N.length≤400:=by rw[←HN];exact nT (dM _ _) hel4
     have hNr:∀x∈N,ar x=true:=by rw[←HN];exact j8 heA.out _
     obtain ⟨M,HM⟩:∃M,eu c t.e=M:=⟨_,rfl⟩
     have hSE:Hid (aT t c=woE t.c N∧aB t c=if woE t.c N=0 then ⟨woC t.c N,M⟩ else ⟨aM,[]⟩):=by
      have h1:aT t c=woE t.c N:=by unfold aT;rw[heA.out,heB.out,HN];simp
      exact ⟨h1,by unfold aB;rw[h1,HN,HM]⟩
     rw[HN] at hrow2 ⊢
     rw[HM] at hrow1 ⊢
     clear HN HM hke hov hou hap
     obtain ⟨a0,a1,a2,a3,a4,a5,alt,arow,arowC⟩:=(show TabAt _ _ _ _ _ _ _ from hFR.ta)
     have hwo:=rP t.c N A A2 ca cap2 wr hlH.out.1 hNl hNr arow hrow2
     have hwoH:Hid _:=hwo
     have hs2:=hF2.res.lt
     have hA1n:Hid (∀x,A1=some x→x.block≠w.heap.size+1+1∧w.heap.size≤x.block):=fun x hx=>by have:=(hlt1 x hx).1;omega
     clear hwo arow arowC alt hrow2 hNr
     go_wp2_with fail
     refine cM (show Calls _ _ _ _ _ from hwoH.out) ?_
     rintro e w4 ⟨C4,p4,rfl,hr4,hC4,hCb4,hb4⟩
     clear hwoH a0 a1 a2 a3 a4 a5
     have hF4:=hFR.below hb4
     have hrow4:=hrow1.below hb4
     have hsR2:=hFR.res.lt
     have hCn4:Hid (∀x,C4=some x→x.block≠w.heap.size+1+1∧w.heap.size≤x.block):=fun x hx=>by have:=hCb4 x hx;omega
     clear hrow1 hCb4 hb4 hFR
     obtain ⟨J,hJ⟩:∃J,woC t.c N=J:=⟨_,rfl⟩
     obtain ⟨E4,hE4⟩:∃E,woE t.c N=E:=⟨_,rfl⟩
     rw[hJ] at hr4 hSE ⊢
     rw[hE4] at hSE ⊢
     clear hJ hE4
     have hgC:Gr w4 (w4.alloc (U #[H Z J.c0,H Z J.c1,H Z J.c2,H Z J.c3,I C4 J.l.length p4] 38)):=(gR _).alloc _
     have hF5:=hF4.gr hgC
     have hc5:CtxAt (w4.alloc (U #[H Z J.c0,H Z J.c1,H Z J.c2,H Z J.c3,I C4 J.l.length p4] 38)) w4.heap.size J C4 p4:=CtxAt.new (c:=J) 38 hr4 rfl
     have hr5:=hrow4.gr hgC
     clear hF4 hgC hr4 hrow4
     by_cases h4:E4=0
     ·subst h4
      have hfin:Hid (aT t c=0∧aB t c=⟨J,M⟩):=⟨hSE.out.1,by rw[hSE.out.2,if_pos rfl]⟩
      obtain ⟨z0,z1,z2,z3,z4,z5,zf,zlt⟩:=(show Six _ _ _ _ _ _ _ _ from hF5.res)
      obtain ⟨c0,c1,c2,c3,c4,clt,crow⟩:=(show CtxAt _ _ _ _ _ from hc5)
      have hbw:Hid (Below w.heap.size w _):=hF5.hw
      have hcrow:Hid (Row _ C4 J.l):=crow
      have hrMH:Hid (bw _ A1 M):=hr5
      clear crow hr5 hSE
      go_upto_region 19 with fail
      generalize w4.alloc (U #[H Z J.c0,H Z J.c1,H Z J.c2,H Z J.c3,I C4 J.l.length p4] 38)=V at z0 z1 z2 z3 z4 z5 zf zlt c0 c1 c2 c3 c4 hbw hcrow hrMH ⊢
      go_wp2
      rw[hfin.out.1,hfin.out.2]
      have h1:∀x,C4=some x→x.block≠w.heap.size+1+1:=fun x hx=>(hCn4.out x hx).1
      have h2:∀x,A1=some x→x.block≠w.heap.size+1+1:=fun x hx=>(hA1n.out x hx).1
      exact bodyPost_ret (v:= ia #[f #[H Z J.c0,H Z J.c1,H Z J.c2,H Z J.c3,I C4 J.l.length p4,I A1 M.length cap1],H Z 0]) (by simp[results,Tryz.results110,go_sem,z0,z1,z2,z3,z4,z5]) rfl ⟨C4,p4,A1,cap1,rfl,(((((hcrow.out.setCell _ h1).setCell _ h1).setCell _ h1).setCell _ h1).setCell _ h1).setCell _ h1,(((((hrMH.out.setCell _ h2).setCell _ h2).setCell _ h2).setCell _ h2).setCell _ h2).setCell _ h2,hC4,hA1,aq hbw.out (by omega) _ _ _ _ _ _,fun x hx=>(hCn4.out x hx).2,fun x hx=>(hA1n.out x hx).2⟩
     ·have hfin:Hid (aT t c=E4∧aB t c=⟨aM,[]⟩):=⟨hSE.out.1,by rw[hSE.out.2,if_neg h4]⟩
      have heb:(E4 != 0)=true:=by simpa using h4
      clear h4 hSE
      obtain ⟨z0,z1,z2,z3,z4,z5,zf,zlt⟩:=(show Six _ _ _ _ _ _ _ _ from hF5.res)
      have hbw:Hid (Below w.heap.size w _):=hF5.hw
      go_upto_region 18 with fail
      generalize w4.alloc (U #[H Z J.c0,H Z J.c1,H Z J.c2,H Z J.c3,I C4 J.l.length p4] 38)=V at z0 z1 z2 z3 z4 z5 zf zlt hbw ⊢
      go_wp2
      rw[hfin.out.1,hfin.out.2]
      exact bodyPost_ret (v:= ia #[f #[H Z 0,H Z 0,H Z 0,H Z 0,I none 0 0,I none 0 0],H Z E4]) (by simp[results,Tryz.results110,go_sem,z0,z1,z2,z3,z4,z5]) rfl ⟨none,0,none,0,rfl,oL rfl,oL rfl,fun _=>rfl,fun _=>rfl,aq hbw.out (by omega) _ _ _ _ _ _,(fun _ h=>by cases h),(fun _ h=>by cases h)⟩
  ·have hfin:Hid (aT t c=E2∧aB t c=⟨aM,[]⟩):=pj (by unfold aT;rw[heA.out,hE2];simp[h2]) h2
   have heb:(E2 != 0)=true:=by simpa using h2
   clear h2 hE2
   obtain ⟨z0,z1,z2,z3,z4,z5,zf,zlt⟩:=(show Six _ _ _ _ _ _ _ _ from hF2.res)
   have hbw:Hid (Below w.heap.size w _):=hF2.hw
   go_wp2
   rw[hfin.out.1,hfin.out.2]
   exact bodyPost_ret (v:= ia #[f #[H Z 0,H Z 0,H Z 0,H Z 0,I none 0 0,I none 0 0],H Z E2]) (by simp[results,Tryz.results110,go_sem,z0,z1,z2,z3,z4,z5]) rfl ⟨none,0,none,0,rfl,oL rfl,oL rfl,fun _=>rfl,fun _=>rfl,aq hbw.out (by omega) _ _ _ _ _ _,(fun _ h=>by cases h),(fun _ h=>by cases h)⟩
 ·have hfin:Hid (aT t c=E1∧aB t c=⟨aM,[]⟩):=pj (by unfold aT;rw[hE1];simp[h1]) h1
  have heb:(E1 != 0)=true:=by simpa using h1
  clear h1 hE1
  obtain ⟨z0,z1,z2,z3,z4,z5,zf,zlt⟩:=(show Six _ _ _ _ _ _ _ _ from hF1.res)
  have hbw:Hid (Below w.heap.size w _):=hF1.hw
  go_wp2
  rw[hfin.out.1,hfin.out.2]
  exact bodyPost_ret (v:= ia #[f #[H Z 0,H Z 0,H Z 0,H Z 0,I none 0 0,I none 0 0],H Z E1]) (by simp[results,Tryz.results110,go_sem,z0,z1,z2,z3,z4,z5]) rfl ⟨none,0,none,0,rfl,oL rfl,oL rfl,fun _=>rfl,fun _=>rfl,aq hbw.out (by omega) _ _ _ _ _ _,(fun _ h=>by cases h),(fun _ h=>by cases h)⟩


def fK (q:Int) (k:Int) (d:Int×Int):Int:=if d.1=q∧d.2≤k then d.2-1 else k
def gC (q:Int) (K:List (Int×Int)) (n:Int):Int:=K.foldl (fK q) n
theorem gB (q k:Int) (d:Int×Int):fK q k d=if d.1=q then min k (d.2-1) else k:=by
 unfold fK
 by_cases h1:d.1=q
 ·by_cases h2:d.2≤k
  ·rw[if_pos ⟨h1,h2⟩,if_pos h1];omega
  ·rw[if_neg (fun h=>h2 h.2),if_pos h1];omega
 ·rw[if_neg (fun h=>h1 h.1),if_neg h1]
theorem fA (q:Int) (d:Int×Int) (K:List (Int×Int)) (n:Int):gC q (d::K) n=gC q K (fK q n d):=rfl
theorem oq (q:Int) (K:List (Int×Int)):∀n,gC q K n≤n:=by
 induction K with
 | nil=>intro n;exact Int.le_refl _
 | cons d K ih =>
  intro n
  rw[fA]
  have h1:=ih (fK q n d)
  have h2:fK q n d≤n:=by rw[gB];split<;>omega
  omega
theorem ur {b:Ctx} {d:Int×Int} {q:Int} (hd:ar d=true) (h0:0≤q) (h4:q<4):clk (gU b d) q=fK q (clk b q) d:=by
 rw[ip hd,gB]
 unfold ar inB at hd
 simp only[Bool.and_eq_true,decide_eq_true_eq] at hd
 rw[dL b d.1 _ q hd.1.1 (by omega) h0 h4]
 by_cases h:q=d.1
 ·rw[if_pos h,if_pos h.symm,h]
 ·rw[if_neg h,if_neg (fun e=>h e.symm)]
theorem qA {q:Int} (h0:0≤q) (h4:q<4):∀(K:List (Int×Int)) (b:Ctx),(∀x∈K,ar x=true)→clk (K.foldl gU b) q=gC q K (clk b q):=by
 intro K
 induction K with
 | nil=>intro b _;rfl
 | cons d K ih =>
  intro b hK
  rw[List.foldl_cons,ih _ (fun x hx=>hK x (by simp[hx])),fA,ur (hK d (by simp)) h0 h4]
theorem ws {c:Ctx} {K:List (Int×Int)} {q:Int} (hK:∀x∈K,ar x=true) (h0:0≤q) (h4:q<4):clk (ch c K) q=gC q K (clk c q):=by
 unfold ch
 rw[qA h0 h4 K _ hK]
 rfl

def vX (K:List (Int×Int)):Ctx:=⟨0,0,0,0,K⟩
theorem qQ {K:List (Int×Int)} {x:Int×Int}:ai (vX K) x=K.contains x:=by
 unfold ai vX
 have:(inB x.1 0 3 && decide (1≤x.2) && decide (x.2≤clk ⟨0,0,0,0,K⟩ x.1))=false:=by
  have h0:clk ⟨0,0,0,0,K⟩ x.1=0:=by unfold clk;simp
  rw[h0]
  by_cases h:1≤x.2
  ·have:¬x.2≤0:=by omega
   simp[this]
  ·simp[h]
 rw[this];simp
theorem zo {c:Ctx} {K:List (Int×Int)} {x:Int×Int} (h:clk (ch c K) x.1<x.2):ai (ch c K) x=ai (vX K) x:=by
 rw[qQ]
 unfold ai
 rw[sF]
 have:¬x.2≤clk (ch c K) x.1:=by omega
 simp[this]

theorem uB {q:Int} {K:List (Int×Int)}:∀ {n:Int} {d:Int×Int},d∈K→d.1=q→gC q K n≤d.2-1:=by
 induction K with
 | nil=>intro n d h;cases h
 | cons x K ih =>
  intro n d h e
  rw[fA]
  rcases List.mem_cons.1 h with rfl|h
  ·have h1:=oq q K (fK q n d)
   have h2:fK q n d≤d.2-1:=by rw[gB,if_pos e];omega
   omega
  ·exact ih h e
theorem uA {q:Int} {K:List (Int×Int)}:∀ {n:Int},gC q K n=n∨∃d∈K,d.1=q∧gC q K n=d.2-1:=by
 induction K with
 | nil=>intro n;exact oL rfl
 | cons x K ih =>
  intro n
  rw[fA]
  rcases ih (n:=fK q n x) with h|⟨d,hd,h1,h2⟩
  ·rw[h,gB]
   by_cases e:x.1=q
   ·rw[if_pos e]
    by_cases h2:n≤x.2-1
    ·exact oL (by omega)
    ·exact oR ⟨x,by simp,e,by omega⟩
   ·rw[if_neg e];exact oL rfl
  ·exact oR ⟨d,by simp[hd],h1,h2⟩

theorem sL (b:Ctx) (node top:Int):∀(n:Nat) (l:List (Int×Int)) (s:Int),l.Pairwise (fun x y=>bD x y=true)→(∀x∈l,x.1<node∨(x.1=node∧x.2<s)) →
  (cv b node top n l s).Pairwise (fun x y=>bD x y=true):=by
 intro n
 induction n with
 | zero=>intro l s h _;exact h
 | succ n ih =>
  intro l s h hl
  simp only[cv]
  by_cases hc:s≤top∧l.length≤400
  ·rw[if_pos hc]
   by_cases hh:ai b (node,s)=true
   ·rw[if_pos hh]
    exact ih l (s+1) h fun x hx=>by rcases hl x hx with k|k<;>omega
   ·rw[if_neg hh]
    refine ih _ (s+1) ?_ ?_
    ·rw[List.pairwise_append]
     refine ⟨h,by simp,?_⟩
     intro x hx y hy
     have hy':y=(node,s):=by simpa using hy
     subst hy'
     rw[jF]
     rcases hl x hx with k|k
     ·exact oL k
     ·exact oR k
    ·intro x hx
     rcases List.mem_append.1 hx with hx|hx
     ·rcases hl x hx with k|k<;>omega
     ·have hx':x=(node,s):=by simpa using hx
      subst hx'
      exact oR ⟨rfl,by show s<s+1;omega⟩
  ·rw[if_neg hc];exact h
theorem sO (b:Ctx) (node:Int) (ds:List (Int×Int)):∀(l:List (Int×Int)),ds.Pairwise (fun x y=>bD x y=true)→l.Pairwise (fun x y=>bD x y=true)→(∀x∈l,∀y∈ds,y.1=node→bD x y=true) →
  (cD b node ds l).Pairwise (fun x y=>bD x y=true):=by
 induction ds with
 | nil=>intro l _ h _;exact h
 | cons d ds ih =>
  intro l hd hl hx
  show (cD b node ds (if d.1=node∧ai b d=false then l++[d] else l)).Pairwise _
  have hd2:=List.pairwise_cons.1 hd
  by_cases hc:d.1=node∧ai b d=false
  ·rw[if_pos hc]
   refine ih _ hd2.2 ?_ ?_
   ·rw[List.pairwise_append]
    refine ⟨hl,by simp,?_⟩
    intro x hx' y hy
    have hy':y=d:=by simpa using hy
    subst hy'
    exact hx x hx' y (by simp) hc.1
   ·intro x hx' y hy e
    rcases List.mem_append.1 hx' with hx'|hx'
    ·exact hx x hx' y (by simp[hy]) e
    ·have hx2:x=d:=by simpa using hx'
     subst hx2
     exact hd2.1 y hy
  ·rw[if_neg hc]
   exact ih _ hd2.2 hl fun x hx' y hy e=>hx x hx' y (by simp[hy]) e
theorem pM {a b:Ctx} {node:Int} (h0:0≤node) (h4:node<4) (hb:0≤clk b node) {l:List (Int×Int)} {x:Int×Int} (h:x∈dV a b node l):x∈l∨(x.1=node∧ai a x=true∧ai b x=false):=by
 unfold dV at h
 rcases (oQ b node a.l _ x).1 h with h|h
 ·rcases l7 b node _ _ _ _ x h with h|⟨h1,h2,h3,h5⟩
  ·exact oL h
  ·refine oR ⟨h1,(aK a x).2 (oR ⟨by omega,by omega,by omega,by rw[h1];exact h3⟩),h5⟩
 ·exact oR ⟨h.2.1,(aK a x).2 (oL h.1),h.2.2⟩
theorem jR {a b:Ctx} (hb:∀q:Int,0≤q→q<4→0≤clk b q):∀k,k≤4→∀x∈bz a b k,(0≤x.1∧x.1<(k:Int))∧ai a x=true∧ai b x=false:=by
 intro k
 induction k with
 | zero=>intro _ x hx;cases hx
 | succ k ih =>
  intro hk x hx
  rcases pM (by omega) (by omega) (hb k (by omega) (by omega)) (show x∈dV a b k (bz a b k) from hx) with h|h
  ·have:=ih (by omega) x h
   exact ⟨⟨this.1.1,by have:=this.1.2;omega⟩,this.2⟩
  ·exact ⟨⟨by rw[h.1];omega,by rw[h.1];omega⟩,h.2⟩
theorem sP {a b:Ctx} (ha:Can a) (hb:∀q:Int,0≤q→q<4→0≤clk b q):∀k,k≤4→(bz a b k).Pairwise (fun x y=>bD x y=true):=by
 intro k
 induction k with
 | zero=>intro _;exact List.Pairwise.nil
 | succ k ih =>
  intro hk
  have ih':=ih (by omega)
  have hs:=jR (a:=a) hb k (by omega)
  show (dV a b k (bz a b k)).Pairwise _
  unfold dV
  refine sO b k a.l _ ha.rise (sL b k _ _ _ _ ih' fun x hx=>oL (hs x hx).1.2) ?_
  intro x hx y hy e
  have hya:=ha.above y hy
  rw[e] at hya
  rw[jF]
  rcases l7 b k _ _ _ _ x hx with h|h
  ·exact oL (by rw[e];exact (hs x h).1.2)
  ·exact oR ⟨by rw[h.1,e],by omega⟩

theorem yx {c:Ctx} {K:List (Int×Int)} (hK:∀x∈K,ar x=true) (h:woE c K=0):aP c=0∧aP (woC c K)=0∧∀x,ai (woC c K) x=true↔ai c x=true∧x ∉ K:=by
 have hc:aP c=0:=by
  by_cases h1:aP c=0
  ·exact h1
  ·unfold woE at h;rw[if_pos h1] at h;exact h
 have hm:fC c (ch c K)=0:=by
  unfold woE at h;rw[hc] at h;simpa using h
 have hl:(bz c (ch c K) 4).length≤400:=by
  unfold fC at hm
  by_cases h4:400<(bz c (ch c K) 4).length
  ·rw[if_pos h4] at hm;cases hm
  ·omega
 have hL:gV c (ch c K)=bz c (ch c K) 4:=by unfold gV;rw[if_neg (by omega)]
 have hcan:=bX hc
 have hw:woC c K=⟨(ch c K).c0,(ch c K).c1,(ch c K).c2,(ch c K).c3,bz c (ch c K) 4⟩:=by unfold woC;rw[if_pos h,hL]
 have hok:=tP hcan.ck hK
 have hn:∀q:Int,0≤q→q<4→0≤clk (ch c K) q:=fun q h0 h4=>(cE hok q h0 h4).1
 have hck:∀q:Int,clk (woC c K) q=clk (ch c K) q:=fun q=>by rw[hw];rfl
 have hdn:∀q:Int,0≤q→q<4→clk (ch c K) q=gC q K (clk c q):=fun q h0 h4=>ws hK h0 h4
 have pH:=jR (a:=c) hn 4 (nR _)
 have hgt:∀x,ai (ch c K) x=false→x ∉ K∧(0≤x.1→x.1<4→1≤x.2→clk (ch c K) x.1<x.2):=by
  intro x hx
  unfold ai at hx
  rw[sF,Bool.or_eq_false_iff] at hx
  refine ⟨by simpa using hx.1,fun h0 h4 h1=> ?_⟩
  have h2:=hx.2
  by_cases h3:clk (ch c K) x.1<x.2
  ·exact h3
  ·have:(inB x.1 0 3 && decide (1≤x.2) && decide (x.2≤clk (ch c K) x.1))=true:=by
    simp[inB];omega
   rw[this] at h2;cases h2
 have hC:Can (woC c K):=by
  refine ⟨?_,?_,?_,?_⟩
  ·rw[hw];exact hok
  ·intro y hy
   rw[hw] at hy
   exact kw hcan (pH y hy).2.1
  ·intro y hy
   rw[hck]
   rw[hw] at hy
   have hs:=pH y hy
   have hr:=oF hcan hs.2.1
   have hg:=hgt y hs.2.2
   have hlt:=hg.2 hr.1 hr.2.1 hr.2.2
   have hd:=hdn y.1 hr.1 hr.2.1
   by_cases he:y.2=clk (ch c K) y.1+1
   ·exfalso
    rcases uA (q:=y.1) (K:=K) (n:=clk c y.1) with k|⟨d,hd1,hd2,hd3⟩
    ·rw[hd,k] at he
     rcases (aK c y).1 hs.2.1 with m|m
     ·have:=hcan.above y m
      omega
     ·have:=m.2.2.2
      omega
    ·rw[hd,hd3] at he
     refine hg.1 ?_
     have:y=d:=Prod.ext hd2.symm (by omega)
     rw[this];exact hd1
   ·omega
  ·rw[hw];exact sP hcan hn 4 (nR _)
 refine ⟨hc,jl hC (by rw[hw];exact hl),fun x=> ?_⟩
 rw[aK]
 constructor
 ·rintro (k|k)
  ·rw[hw] at k
   have hs:=pH x k
   exact ⟨hs.2.1,(hgt x hs.2.2).1⟩
  ·rw[hck] at k
   have h4:x.1<4:=by omega
   have hd:=hdn x.1 k.1 h4
   have hle:=oq x.1 K (clk c x.1)
   refine ⟨(aK c x).2 (oR ⟨k.1,k.2.1,k.2.2.1,by omega⟩),fun hx=> ?_⟩
   have:=uB (n:=clk c x.1) hx rfl
   omega
 ·rintro ⟨h1,h2⟩
  have hr:=oF hcan h1
  by_cases hx:x.2≤clk (ch c K) x.1
  ·exact oR ⟨hr.1,by omega,hr.2.2,by rw[hck];exact hx⟩
  ·refine oL ?_
   rw[hw]
   refine uV hr.1 h1 ?_ 4 hl (by omega)
   rw[zo (by omega),qQ]
   simpa using h2

set_option linter.unusedSimpArgs false

theorem od {w1 w4:World} {B n k2 m2:Nat} {D E:List Itm} {X2 Y2:Option Addr} {a b:List Zit} (hB:Cls w4 B [I none 0 0,I none 0 0]) (g3:LvP (fun b=>n≤b∧b<w4.heap.size) w4 X2 k2 D) (g4:LvP (fun b=>n≤b∧b<w4.heap.size) w4 Y2 m2 E) (hn:B<n) (hB1:w1.heap.size≤B) (hb:Below w1.heap.size w1 w4) (e1:D.map Itm.z=a) (e2:E.map Itm.z=b) :
  ∃(L M:List Itm) (X Y:Option Addr) (k m:Nat),Cls ((w4.setCell ⟨B,0,none⟩ (I X2 D.length k2)).setCell ⟨B,1,none⟩ (I Y2 E.length m2)) B [I X L.length k,I Y M.length m]∧L.map Itm.z=a∧M.map Itm.z=b∧LvP (fun b=>w1.heap.size≤b∧b<((w4.setCell ⟨B,0,none⟩ (I X2 D.length k2)).setCell ⟨B,1,none⟩ (I Y2 E.length m2)).heap.size) ((w4.setCell ⟨B,0,none⟩ (I X2 D.length k2)).setCell ⟨B,1,none⟩ (I Y2 E.length m2)) X k L∧LvP (fun b=>w1.heap.size≤b∧b<((w4.setCell ⟨B,0,none⟩ (I X2 D.length k2)).setCell ⟨B,1,none⟩ (I Y2 E.length m2)).heap.size) ((w4.setCell ⟨B,0,none⟩ (I X2 D.length k2)).setCell ⟨B,1,none⟩ (I Y2 E.length m2)) Y m M∧w1.heap.size≤B∧Below w1.heap.size w1 ((w4.setCell ⟨B,0,none⟩ (I X2 D.length k2)).setCell ⟨B,1,none⟩ (I Y2 E.length m2)):=by
 have hs:((w4.setCell ⟨B,0,none⟩ (I X2 D.length k2)).setCell ⟨B,1,none⟩ (I Y2 E.length m2)).heap.size=w4.heap.size:=by simp
 refine ⟨D,E,X2,Y2,k2,m2,(hB.put 0 _).put 1 _,e1,e2,?_,?_,hB1,(hb.setCell hB1 _).setCell hB1 _⟩
 ·rw[hs];exact ((g3.agr (aS _ fun h=>by omega)).agr (aS _ fun h=>by omega)).mono fun b hb=>⟨by omega,hb.2⟩
 ·rw[hs];exact ((g4.agr (aS _ fun h=>by omega)).agr (aS _ fun h=>by omega)).mono fun b hb=>⟨by omega,hb.2⟩
theorem vY {w1 w4:World} {n k2 m2:Nat} {D E:List Itm} {X2 Y2:Option Addr} {a b:List Zit} {T:TypeId} (g3:LvP (fun b=>n≤b∧b<w4.heap.size) w4 X2 k2 D) (g4:LvP (fun b=>n≤b∧b<w4.heap.size) w4 Y2 m2 E) (h1:w1.heap.size≤n) (hb:Below w1.heap.size w1 w4) (e1:D.map Itm.z=a) (e2:E.map Itm.z=b) :
  ∃(L M:List Itm) (X Y:Option Addr) (k m:Nat),Cls (w4.alloc (U #[I X2 D.length k2,I Y2 E.length m2] T)) w4.heap.size [I X L.length k,I Y M.length m]∧L.map Itm.z=a∧M.map Itm.z=b∧LvP (fun b=>w1.heap.size≤b∧b<(w4.alloc (U #[I X2 D.length k2,I Y2 E.length m2] T)).heap.size) (w4.alloc (U #[I X2 D.length k2,I Y2 E.length m2] T)) X k L∧LvP (fun b=>w1.heap.size≤b∧b<(w4.alloc (U #[I X2 D.length k2,I Y2 E.length m2] T)).heap.size) (w4.alloc (U #[I X2 D.length k2,I Y2 E.length m2] T)) Y m M∧w1.heap.size≤w4.heap.size∧Below w1.heap.size w1 (w4.alloc (U #[I X2 D.length k2,I Y2 E.length m2] T)):=by
 have hg:=((gR w4).alloc (U #[I X2 D.length k2,I Y2 E.length m2] T)).below
 have hs:(w4.alloc (U #[I X2 D.length k2,I Y2 E.length m2] T)).heap.size=w4.heap.size+1:=by simp
 exact ⟨D,E,X2,Y2,k2,m2,Cls.new w4 _ T,e1,e2,(g3.below hg).mono fun b hb=>⟨by omega,by omega⟩,(g4.below hg).mono fun b hb=>⟨by omega,by omega⟩,hb.size,hb.alloc hb.size _⟩

theorem ji {w:World} {N O m0:Nat} {P:Nat→Prop} {id:Int} {s t s' t':Tab} {qs:List (List Stp)} (h:Nd w N O P id s t qs) (hm0:N<m0) (hm1:m0≤w.heap.size) {A' B' C' D':Option Addr} {ca' cb' cc' cd':Nat} (hs':TbP (ag P m0 w.heap.size) w s' A' ca' C' cc') (ht':TbP (ag P m0 w.heap.size) w t' B' cb' D' cd') :
  Calls R 76 #[ib (some ⟨N,O,none⟩),f (T2 s' A' ca' C' cc' t' B' cb' D' cd').toArray] w fun e w'=>e= r (ia #[])∧Nd w' N O (ag P m0 w'.heap.size) id s' t' qs∧Wr N (O+1) (O+37) w w':=by
 have mixed:Tryz.prog.follows .mixedOrders=true:=by kernel_rfl
 obtain ⟨A,ca,C,cc,hcs,hts⟩:=h.ts
 obtain ⟨B,cb,D,cd,hct,htt⟩:=h.tt
 obtain ⟨w1,hw1⟩:∃W,w.alloc (U #[H Z s'.c.c0,H Z s'.c.c1,H Z s'.c.c2,H Z s'.c.c3,I A' s'.c.l.length ca',I C' s'.e.length cc',H Z t'.c.c0,H Z t'.c.c1,H Z t'.c.c2,H Z t'.c.c3,I B' t'.c.l.length cb',I D' t'.e.length cd'] 48)=W:=⟨_,rfl⟩
 have hg1:Gr w w1:=by rw[←hw1];exact (gR w).alloc _
 have hBx:Hid (Cls w1 w.heap.size (T2 s' A' ca' C' cc' t' B' cb' D' cd')):=by show Cls _ _ _;rw[←hw1];exact Cls.new w _ _
 have hHl:Hid (N<w1.heap.size):=nL h.blk.lt hg1.size
 have hlt0:=h.blk.lt
 have hHc:Hid (TbC w1 N (O+1) s A ca C cc∧TbC w1 N (O+7) t B cb D cd):=⟨hcs.keep fun j _ _=>hg1.below.cell (p:=⟨N,j,none⟩) hlt0,hct.keep fun j _ _=>hg1.below.cell (p:=⟨N,j,none⟩) hlt0⟩
 have hNew:Hid (∀W,Below w1.heap.size w1 W→Calls R 81 #[f (T2 s' A' ca' C' cc' t' B' cb' D' cd').toArray] W fun e w'=>∃(L M:List Itm) (X Y:Option Addr) (k m:Nat),e= r (f #[I X L.length k,I Y M.length m])∧L.map Itm.z=ofR s'∧M.map Itm.z=ofR t'∧LvP (fun b=>W.heap.size≤b∧b<w'.heap.size) w' X k L∧LvP (fun b=>W.heap.size≤b∧b<w'.heap.size) w' Y m M∧Below W.heap.size W w'):=fun W hW=>jv s' t' A' B' C' D' ca' cb' cc' cd' W ((hs'.below hg1.below).below hW) ((ht'.below hg1.below).below hW)
 have hOld:Hid (∀W,Below w1.heap.size w1 W→Calls R 81 #[f (T2 s A ca C cc t B cb D cd).toArray] W fun e w'=>∃(L M:List Itm) (X Y:Option Addr) (k m:Nat),e= r (f #[I X L.length k,I Y M.length m])∧L.map Itm.z=ofR s∧M.map Itm.z=ofR t∧LvP (fun b=>W.heap.size≤b∧b<w'.heap.size) w' X k L∧LvP (fun b=>W.heap.size≤b∧b<w'.heap.size) w' Y m M∧Below W.heap.size W w'):=fun W hW=>jv s t A B C D ca cb cc cd W ((hts.below hg1.below).below hW) ((htt.below hg1.below).below hW)
 have hH:Hid (Nd w N O P id s t qs∧TbP (ag P m0 w.heap.size) w s' A' ca' C' cc'∧TbP (ag P m0 w.heap.size) w t' B' cb' D' cd'∧N<m0∧m0≤w.heap.size∧Gr w w1∧w1.heap.size=w.heap.size+1):=⟨h,hs',ht',hm0,hm1,hg1,by rw[←hw1];simp⟩
 have hTS:Hid (TS (ofR s)∧TS (ofR t)∧TS (ofR s')∧TS (ofR t')):=⟨TS.of hts.ok,TS.of htt.ok,TS.of hs'.ok,TS.of ht'.ok⟩
 clear h hm0 hm1 hs' ht' hts htt hcs hct hg1 hlt0
 go_enter Tryz.func76,Tryz.ntmps76
 go_upto_region 1 with fail
 clear hw1
 go_cut [4] from 6 (fun v4 wx=>∃Bm:Nat,v4= ib (some ⟨Bm,0,none⟩)∧Hid (∃(L M:List Itm) (X Y:Option Addr) (k m:Nat),Cls wx Bm [I X L.length k,I Y M.length m]∧L.map Itm.z=bn (ofR s') (ofR s)∧M.map Itm.z=bn (ofR t') (ofR t)∧LvP (fun b=>w1.heap.size≤b∧b<wx.heap.size) wx X k L∧LvP (fun b=>w1.heap.size≤b∧b<wx.heap.size) wx Y m M∧w1.heap.size≤Bm∧Below w1.heap.size w1 wx))
 case first =>
  have hN1:N<w1.heap.size:=hHl.out
  have hD0:Hid (Below w1.heap.size w1 w1.drew):=(gR w1).drew.below
  have hD1:Hid (Below w1.heap.size w1 (w1.alloc (U #[I none 0 0,I none 0 0] 71)).drew):=((gR w1).alloc _).drew.below
  have hKeep:Hid (∀W,Below w1.heap.size w1 W→(fun w'=>w'.cell? ⟨w.heap.size,0,none⟩=some (H Z s'.c.c0)∧w'.cell? ⟨w.heap.size,1,none⟩=some (H Z s'.c.c1)∧w'.cell? ⟨w.heap.size,2,none⟩=some (H Z s'.c.c2)∧w'.cell? ⟨w.heap.size,3,none⟩=some (H Z s'.c.c3)∧w'.cell? ⟨w.heap.size,4,none⟩=some (I A' s'.c.l.length ca')∧w'.cell? ⟨w.heap.size,5,none⟩=some (I C' s'.e.length cc')∧w'.cell? ⟨w.heap.size,6,none⟩=some (H Z t'.c.c0)∧w'.cell? ⟨w.heap.size,7,none⟩=some (H Z t'.c.c1)∧w'.cell? ⟨w.heap.size,8,none⟩=some (H Z t'.c.c2)∧w'.cell? ⟨w.heap.size,9,none⟩=some (H Z t'.c.c3)∧w'.cell? ⟨w.heap.size,10,none⟩=some (I B' t'.c.l.length cb')∧w'.cell? ⟨w.heap.size,11,none⟩=some (I D' t'.e.length cd')∧w'.cell? ⟨N,O+1,none⟩=some (H Z s.c.c0)∧w'.cell? ⟨N,O+2,none⟩=some (H Z s.c.c1)∧w'.cell? ⟨N,O+3,none⟩=some (H Z s.c.c2)∧w'.cell? ⟨N,O+4,none⟩=some (H Z s.c.c3)∧w'.cell? ⟨N,O+5,none⟩=some (I A s.c.l.length ca)∧w'.cell? ⟨N,O+6,none⟩=some (I C s.e.length cc)∧w'.cell? ⟨N,O+7,none⟩=some (H Z t.c.c0)∧w'.cell? ⟨N,O+8,none⟩=some (H Z t.c.c1)∧w'.cell? ⟨N,O+9,none⟩=some (H Z t.c.c2)∧w'.cell? ⟨N,O+10,none⟩=some (H Z t.c.c3)∧w'.cell? ⟨N,O+11,none⟩=some (I B t.c.l.length cb)∧w'.cell? ⟨N,O+12,none⟩=some (I D t.e.length cd)) W):=fun W hW=>⟨(hBx.out.below hW).cell (j:=0) rfl,(hBx.out.below hW).cell (j:=1) rfl,(hBx.out.below hW).cell (j:=2) rfl,(hBx.out.below hW).cell (j:=3) rfl,(hBx.out.below hW).cell (j:=4) rfl,(hBx.out.below hW).cell (j:=5) rfl,(hBx.out.below hW).cell (j:=6) rfl,(hBx.out.below hW).cell (j:=7) rfl,(hBx.out.below hW).cell (j:=8) rfl,(hBx.out.below hW).cell (j:=9) rfl,(hBx.out.below hW).cell (j:=10) rfl,(hBx.out.below hW).cell (j:=11) rfl,(hW.cell (p:=⟨N,O+1,none⟩) hHl.out).trans hHc.out.1.k0,(hW.cell (p:=⟨N,O+2,none⟩) hHl.out).trans hHc.out.1.k1,(hW.cell (p:=⟨N,O+3,none⟩) hHl.out).trans hHc.out.1.k2,(hW.cell (p:=⟨N,O+4,none⟩) hHl.out).trans hHc.out.1.k3,(hW.cell (p:=⟨N,O+5,none⟩) hHl.out).trans hHc.out.1.k4,(hW.cell (p:=⟨N,O+6,none⟩) hHl.out).trans hHc.out.1.k5,(hW.cell (p:=⟨N,O+7,none⟩) hHl.out).trans hHc.out.2.k0,(hW.cell (p:=⟨N,O+8,none⟩) hHl.out).trans hHc.out.2.k1,(hW.cell (p:=⟨N,O+9,none⟩) hHl.out).trans hHc.out.2.k2,(hW.cell (p:=⟨N,O+10,none⟩) hHl.out).trans hHc.out.2.k3,(hW.cell (p:=⟨N,O+11,none⟩) hHl.out).trans hHc.out.2.k4,(hW.cell (p:=⟨N,O+12,none⟩) hHl.out).trans hHc.out.2.k5⟩
  refine wp_region_noPanic ?_
  refine wp_region_held_drew (S:=(fun w'=>w'.cell? ⟨w.heap.size,0,none⟩=some (H Z s'.c.c0)∧w'.cell? ⟨w.heap.size,1,none⟩=some (H Z s'.c.c1)∧w'.cell? ⟨w.heap.size,2,none⟩=some (H Z s'.c.c2)∧w'.cell? ⟨w.heap.size,3,none⟩=some (H Z s'.c.c3)∧w'.cell? ⟨w.heap.size,4,none⟩=some (I A' s'.c.l.length ca')∧w'.cell? ⟨w.heap.size,5,none⟩=some (I C' s'.e.length cc')∧w'.cell? ⟨w.heap.size,6,none⟩=some (H Z t'.c.c0)∧w'.cell? ⟨w.heap.size,7,none⟩=some (H Z t'.c.c1)∧w'.cell? ⟨w.heap.size,8,none⟩=some (H Z t'.c.c2)∧w'.cell? ⟨w.heap.size,9,none⟩=some (H Z t'.c.c3)∧w'.cell? ⟨w.heap.size,10,none⟩=some (I B' t'.c.l.length cb')∧w'.cell? ⟨w.heap.size,11,none⟩=some (I D' t'.e.length cd')∧w'.cell? ⟨N,O+1,none⟩=some (H Z s.c.c0)∧w'.cell? ⟨N,O+2,none⟩=some (H Z s.c.c1)∧w'.cell? ⟨N,O+3,none⟩=some (H Z s.c.c2)∧w'.cell? ⟨N,O+4,none⟩=some (H Z s.c.c3)∧w'.cell? ⟨N,O+5,none⟩=some (I A s.c.l.length ca)∧w'.cell? ⟨N,O+6,none⟩=some (I C s.e.length cc)∧w'.cell? ⟨N,O+7,none⟩=some (H Z t.c.c0)∧w'.cell? ⟨N,O+8,none⟩=some (H Z t.c.c1)∧w'.cell? ⟨N,O+9,none⟩=some (H Z t.c.c2)∧w'.cell? ⟨N,O+10,none⟩=some (H Z t.c.c3)∧w'.cell? ⟨N,O+11,none⟩=some (I B t.c.l.length cb)∧w'.cell? ⟨N,O+12,none⟩=some (I D t.e.length cd))) (by kernel_rfl) (hKeep.out _ hD0.out) (fun hHeld=> ?_)
  show wpAnyH _ _ _ _ _ 10 _ _ _
  repeat' first
   | with_reducible exact AllReadyH.nil
   | (
    (with_reducible refine isW ?_);refine wpAnyH_done (by decide +kernel) ?_ _
    refine NoPanic.normal ?_
    go_wp2_with fail
    go_meet
    case rel=>exact ⟨_,rfl,(by first|exact vY hg3.out hg4.out (by have h1:=hF2.out.1.size;first|exact h1|(simp;omega)) hF3.out.1 hF3.out.2.1 hF3.out.2.2|exact od hB3.out hg3.out hg4.out (by have h1:=hB2.out.lt;exact h1) hB3g.out hF3.out.1 hF3.out.2.1 hF3.out.2.2|exact od hB3.out hg3.out hg4.out (by simp) hB3g.out hF3.out.1 hF3.out.2.1 hF3.out.2.2)⟩)
   | (
    (with_reducible refine isW ?_);first
     | refine tkk 0 [2,3,4,5] (by assumption) (v:= ?_) (by simp only[zA,z0',zS];rfl) (by decide +kernel) ?_ ?_
    rotate_left
    ·(refine oL ⟨by rfl,?_⟩;intro w hSw;(try dsimp only at hSw);go_simp<;>with_reducible rfl)
    try simp only[Act.put,yA,aD,yS]
    repeat (refine tk (v:= ?_) (by simp only[zA,z0',zS];rfl) (by kernel_rfl) ?_ ?_;rotate_left;· (refine oL ⟨by rfl,?_⟩;intro w hSw;(try dsimp only at hSw);go_simp<;>with_reducible rfl);try simp only[Act.put,yA,aD,yS])
    refine tk0 ?_)
   | ((with_reducible refine isW ?_);first
     | refine wpAnyH_ready (rs:=[1,8]) (by decide +kernel) (by simp) ?_
     | refine wpAnyH_ready (rs:=[6,8]) (by decide +kernel) (by simp) ?_
     | refine wpAnyH_ready (rs:=[7,8]) (by decide +kernel) (by simp) ?_
     | refine wpAnyH_ready (rs:=[8]) (by decide +kernel) (by simp) ?_
     | refine wpAnyH_ready (rs:=[9]) (by decide +kernel) (by simp) ?_
     | refine wpAnyH_ready (rs:=[7]) (by decide +kernel) (by simp) ?_
     | refine wpAnyH_ready (rs:=[6]) (by decide +kernel) (by simp) ?_
     | refine wpAnyH_ready (rs:=[1]) (by decide +kernel) (by simp) ?_)
   | ((with_reducible refine isR ?_);refine rdc (by simp only[zA,z0',zS];rfl) ?_ fun K hK=> ?_)
   | (
    go_simp
    first
     | ((go_at_call 81;(with_reducible refine cM (hNew.out _ (by first|exact hD0.out|exact hD1.out)) ?_);rintro e w2 ⟨L,M,X,Y,k,m,rfl,f1,f2,f3,f4,f5⟩;have hF1:Hid (Below w1.heap.size w1 w2∧Lv w2 X k L∧Lv w2 Y m M∧L.map Itm.z=ofR s'∧M.map Itm.z=ofR t'):=⟨(by first|exact hD0.out.trans (f5.mono hD0.out.size)|exact hD1.out.trans (f5.mono hD1.out.size)),f3.lv,f4.lv,f1,f2⟩;(first|(have hB1:Hid (Cls w2 w1.heap.size [I none 0 0,I none 0 0]):=((Cls.new w1 #[I none 0 0,I none 0 0] 71).gr (gR _).drew).below f5)|skip);clear f1 f2 f3 f4 f5);first|(go_wp2_with fail)|skip)
     | ((go_at_call 81;(with_reducible refine cM (hOld.out _ (by first|exact hF1.out.1|exact hF1.out.1.alloc hF1.out.1.size _)) ?_);rintro e w3 ⟨L',M',X',Y',k',m',rfl,f1,f2,f3,f4,f5⟩;have hb23:Below w2.heap.size w2 w3:=(by first|exact f5|exact ((gR w2).alloc _).below.trans (f5.mono (by simp)));have hF2:Hid (Below w1.heap.size w1 w3∧Lv w3 X k L∧Lv w3 Y m M∧Lv w3 X' k' L'∧Lv w3 Y' m' M'∧L'.map Itm.z=ofR s∧M'.map Itm.z=ofR t):=⟨hF1.out.1.trans (hb23.mono hF1.out.1.size),hF1.out.2.1.below hb23,hF1.out.2.2.1.below hb23,f3.lv,f4.lv,f1,f2⟩;(first|(have hB2:Hid (Cls w3 w1.heap.size [I none 0 0,I none 0 0]):=hB1.out.below hb23)|(have hB2:Hid (Cls w3 w2.heap.size [I none 0 0,I none 0 0]):=(Cls.new w2 #[I none 0 0,I none 0 0] 71).below f5)|skip);clear f1 f2 f3 f4 f5 hb23;have hDf:Hid (∀W,Below w3.heap.size w3 W→Calls R 109 #[f #[I X L.length k,I Y M.length m],f #[I X' L'.length k',I Y' M'.length m']] W fun e w'=>∃(D E:List Itm) (X Y:Option Addr) (k m:Nat),e= r (f #[I X D.length k,I Y E.length m])∧D.map Itm.z=bn (ofR s') (ofR s)∧E.map Itm.z=bn (ofR t') (ofR t)∧LvP (fun b=>W.heap.size≤b∧b<w'.heap.size) w' X k D∧LvP (fun b=>W.heap.size≤b∧b<w'.heap.size) w' Y m E∧Below W.heap.size W w'):=(fun W hW=>by (have:=m8 L M L' M' X Y X' Y' k m k' m' W (hF2.out.2.1.below hW) (hF2.out.2.2.1.below hW) (hF2.out.2.2.2.1.below hW) (hF2.out.2.2.2.2.1.below hW) (by rw[hF1.out.2.2.2.1];exact hTS.out.2.2.1) (by rw[hF1.out.2.2.2.2];exact hTS.out.2.2.2) (by rw[hF2.out.2.2.2.2.2.1];exact hTS.out.1) (by rw[hF2.out.2.2.2.2.2.2];exact hTS.out.2.1));rwa [hF1.out.2.2.2.1,hF1.out.2.2.2.2,hF2.out.2.2.2.2.2.1,hF2.out.2.2.2.2.2.2] at this));first|(go_wp2_with fail)|skip)
     | ((go_at_call 109;(with_reducible refine cM (hDf.out _ (by first|exact bR _ _|exact ((gR w3).alloc _).below)) ?_);rintro e w4 ⟨D,E,X2,Y2,k2,m2,rfl,f1,f2,f3,f4,f5⟩;have hb34:Below w3.heap.size w3 w4:=(by first|exact f5|exact ((gR w3).alloc _).below.trans (f5.mono (by simp)));have hF3:Hid (Below w1.heap.size w1 w4∧D.map Itm.z=bn (ofR s') (ofR s)∧E.map Itm.z=bn (ofR t') (ofR t)):=⟨hF2.out.1.trans (hb34.mono hF2.out.1.size),f1,f2⟩;have hg3:Hid _:=f3;have hg4:Hid _:=f4;(first|(have hB3:Hid (Cls w4 w1.heap.size [I none 0 0,I none 0 0]):=hB2.out.below hb34;have hB3g:Hid (w1.heap.size≤w1.heap.size):=nR _)|(have hB3:Hid (Cls w4 w2.heap.size [I none 0 0,I none 0 0]):=hB2.out.below hb34;have hB3g:Hid (w1.heap.size≤w2.heap.size):=hF1.out.1.size)|(have hB3:Hid (Cls w4 w3.heap.size [I none 0 0,I none 0 0]):=(Cls.new w3 #[I none 0 0,I none 0 0] 71).below f5;have hB3g:Hid (w1.heap.size≤w3.heap.size):=hF2.out.1.size)|skip);clear f1 f2 f3 f4 f5 hb34;(first|(have q0:=hB3.out.cell (j:=0) rfl;have q1:=hB3.out.cell (j:=1) rfl;have z0:=hB3.out.fz 0;have z1:=hB3.out.fz 1)|skip));first|(go_wp2_with fail)|skip)
     | skip
    refine hK.out _ _ ?_ (fun hHeld=> ?_)
    ·(try dsimp only);exact hKeep.out _ (by first|exact hD0.out|exact hD1.out|exact hF3.out.1|exact hF3.out.1.alloc hF3.out.1.size _|exact (hF3.out.1.setCell hB3g.out _).setCell hB3g.out _|exact hF2.out.1|exact hF2.out.1.alloc hF2.out.1.size _|exact hF1.out.1|exact hF1.out.1.alloc hF1.out.1.size _)
    clear hK K
    try simp only[Act.put,yA,aD,yS])
 case rest =>
  obtain ⟨Bm,rfl,hR⟩:=hcut
  obtain ⟨L,M,X,Y,k,m,hCl,e1,e2,l1,l2,hge,hbc⟩:=hR.out
  clear hR hNew hOld
  have hg1:=hH.out.2.2.2.2.2.1
  have hbw:Below w.heap.size w wc:=hg1.below.trans (hbc.mono hg1.size)
  have hNd:Nd wc N O P id s t qs:=hH.out.1.below hbw
  have hlt:N<w.heap.size:=hH.out.1.blk.lt
  obtain ⟨b0,b1,b2,b3,b4,b5,b6,b7,b8,b9,b10,b11⟩:=dR (hBx.out.below hbc)
  have n1:=(hbc.cell (p:=⟨N,O+1,none⟩) hHl.out).trans hHc.out.1.k0
  have n2:=(hbc.cell (p:=⟨N,O+2,none⟩) hHl.out).trans hHc.out.1.k1
  have n3:=(hbc.cell (p:=⟨N,O+3,none⟩) hHl.out).trans hHc.out.1.k2
  have n4:=(hbc.cell (p:=⟨N,O+4,none⟩) hHl.out).trans hHc.out.1.k3
  have n5:=(hbc.cell (p:=⟨N,O+5,none⟩) hHl.out).trans hHc.out.1.k4
  have n6:=(hbc.cell (p:=⟨N,O+6,none⟩) hHl.out).trans hHc.out.1.k5
  have n7:=(hbc.cell (p:=⟨N,O+7,none⟩) hHl.out).trans hHc.out.2.k0
  have n8:=(hbc.cell (p:=⟨N,O+8,none⟩) hHl.out).trans hHc.out.2.k1
  have n9:=(hbc.cell (p:=⟨N,O+9,none⟩) hHl.out).trans hHc.out.2.k2
  have n10:=(hbc.cell (p:=⟨N,O+10,none⟩) hHl.out).trans hHc.out.2.k3
  have n11:=(hbc.cell (p:=⟨N,O+11,none⟩) hHl.out).trans hHc.out.2.k4
  have n12:=(hbc.cell (p:=⟨N,O+12,none⟩) hHl.out).trans hHc.out.2.k5
  have z1:=hNd.blk.fz (O+1)
  have z2:=hNd.blk.fz (O+2)
  have z3:=hNd.blk.fz (O+3)
  have z4:=hNd.blk.fz (O+4)
  have z5:=hNd.blk.fz (O+5)
  have z6:=hNd.blk.fz (O+6)
  have z7:=hNd.blk.fz (O+7)
  have z8:=hNd.blk.fz (O+8)
  have z9:=hNd.blk.fz (O+9)
  have z10:=hNd.blk.fz (O+10)
  have z11:=hNd.blk.fz (O+11)
  have z12:=hNd.blk.fz (O+12)
  have c37:=hNd.cnt
  have hR:Hid (Nd wc N O P id s t qs∧Below w.heap.size w wc∧Cls wc Bm [I X L.length k,I Y M.length m]∧L.map Itm.z=bn (ofR s') (ofR s)∧M.map Itm.z=bn (ofR t') (ofR t)∧LvP (fun b=>w1.heap.size≤b∧b<wc.heap.size) wc X k L∧LvP (fun b=>w1.heap.size≤b∧b<wc.heap.size) wc Y m M∧w1.heap.size≤Bm∧N<w.heap.size):=⟨hNd,hbw,hCl,e1,e2,l1,l2,hge,hlt⟩
  clear hCl e1 e2 l1 l2 hge hbc hg1 hbw hNd hlt
  go_wp2
  obtain ⟨w5,hw5⟩:∃W,((((((((((((wc.setCell ⟨N,O+1,none⟩ (H Z s'.c.c0)).setCell ⟨N,O+2,none⟩ (H Z s'.c.c1)).setCell ⟨N,O+3,none⟩ (H Z s'.c.c2)).setCell ⟨N,O+4,none⟩ (H Z s'.c.c3)).setCell ⟨N,O+5,none⟩ (I A' s'.c.l.length ca')).setCell ⟨N,O+6,none⟩ (I C' s'.e.length cc')).setCell ⟨N,O+7,none⟩ (H Z t'.c.c0)).setCell ⟨N,O+8,none⟩ (H Z t'.c.c1)).setCell ⟨N,O+9,none⟩ (H Z t'.c.c2)).setCell ⟨N,O+10,none⟩ (H Z t'.c.c3)).setCell ⟨N,O+11,none⟩ (I B' t'.c.l.length cb')).setCell ⟨N,O+12,none⟩ (I D' t'.e.length cd'))=W:=⟨_,rfl⟩
  rw[hw5]
  have h5:Hid (Nm w5 N O (ag P m0 w5.heap.size) id s' t' qs 0 (ofR s) (ofR t)∧Wr N (O+1) (O+37) w w5∧Cls w5 Bm [I X L.length k,I Y M.length m]∧LvP (fun b=>w1.heap.size≤b∧b<wc.heap.size) w5 X k L∧LvP (fun b=>w1.heap.size≤b∧b<wc.heap.size) w5 Y m M):=by
   have hw5':fk N wc (O+1) [H Z s'.c.c0,H Z s'.c.c1,H Z s'.c.c2,H Z s'.c.c3,I A' s'.c.l.length ca',I C' s'.e.length cc',H Z t'.c.c0,H Z t'.c.c1,H Z t'.c.c2,H Z t'.c.c3,I B' t'.c.l.length cb',I D' t'.e.length cd']=w5:=hw5
   have hs5:w5.heap.size=wc.heap.size:=by rw[←hw5'];exact fG _ _ _ _
   have hsz:=hR.out.2.1.size
   have hm0:=hH.out.2.2.2.1
   have hm1:=hH.out.2.2.2.2.1
   have hs1:=hH.out.2.2.2.2.2.2
   have hlt:=hR.out.2.2.2.2.2.2.2.2
   have hNP:¬ag P m0 w5.heap.size N:=cZ hH.out.1.out hm0
   have hL:=Nd.laid (P':=ag P m0 w5.heap.size) hR.out.1 (fun b hb=>ag.old b hb) hNP (fun b hb=>by
    rcases hb with hb|hb
    ·have:=hR.out.1.up b hb;omega
    ·have:=hb.2;omega) ((hH.out.2.1.below hR.out.2.1).mono (ag.more (nR _) (by omega))) ((hH.out.2.2.1.below hR.out.2.1).mono (ag.more (nR _) (by omega))) hw5'
   have hQ:¬(w1.heap.size≤N∧N<wc.heap.size):=fun h=>by omega
   exact ⟨hL.1,(Wr.of hR.out.2.1 hlt).trans (hL.2.mono (by omega) (by omega)),hR.out.2.2.1.keep (hL.2.oth Bm hR.out.2.2.1.lt (by have:=hR.out.2.2.2.2.2.2.2.1;omega)),hR.out.2.2.2.2.2.1.agr (hL.2.agr hQ),hR.out.2.2.2.2.2.2.1.agr (hL.2.agr hQ)⟩
  clear hw5 b0 b1 b2 b3 b4 b5 b6 b7 b8 b9 b10 b11 n1 n2 n3 n4 n5 n6 n7 n8 n9 n10 n11 n12 z1 z2 z3 z4 z5 z6 z7 z8 z9 z10 z11 z12 c37
  go_loopw [22] (fun i wr=>∃j:Nat,j≤qs.length∧i= H Z j∧Hid (Nm wr N O (ag P m0 wr.heap.size) id s' t' qs j (ofR s) (ofR t)∧Wr N (O+1) (O+37) w wr∧Cls wr Bm [I X L.length k,I Y M.length m]∧LvP (fun b=>w1.heap.size≤b∧b<wc.heap.size) wr X k L∧LvP (fun b=>w1.heap.size≤b∧b<wc.heap.size) wr Y m M)) (fun i _=>qs.length-(intOf i).toNat)
  case atStart=>exact ⟨0,nZ _,rfl,h5⟩
  case round =>
   obtain ⟨j,hj,rfl,hI⟩:=hrel
   by_cases hjl:j<qs.length
   ·have hjz:(j:Int)<(qs.length:Int):=by omega
    have hle:=hI.out.1.le
    have hj4:(j:Int)<4:=by omega
    have q0:=hI.out.2.2.1.cell (j:=0) rfl
    have q1:=hI.out.2.2.1.cell (j:=1) rfl
    obtain ⟨vk,vl,hvm,tk,tl,_⟩:=hI.out.1.vs j hjl
    rw[if_neg (Nat.lt_irrefl _),if_neg (Nat.lt_irrefl _)] at hvm
    have hlt:N<w.heap.size:=hR.out.2.2.2.2.2.2.2.2
    have hTn:Hid (∀W,Gr wr W→Calls R 80 #[ib (some ⟨N,O+13+j*6,none⟩),f #[I X L.length k,I Y M.length m]] W fun e w'=>e= r (ia #[])∧VwN w' N (O+13+j*6) (ag (ag P m0 wr.heap.size) W.heap.size w'.heap.size) qs[j] (ofR s') (ofR t')∧Wr N (O+13+j*6) (O+13+j*6+6) W w'):=fun W hg=>by obtain ⟨T0,n0,hbk,_⟩:=hI.out.1.blk;exact rL (hbk.below hg.below) hI.out.1.out (fun h=>by have:=h.1;have:=hH.out.2.2.2.2.2.1.size;omega) (hvm.below hg.below) tk tl hTS.out.1 hTS.out.2.1 hTS.out.2.2.1 hTS.out.2.2.2 (hI.out.2.2.2.1.below hg.below) (hI.out.2.2.2.2.below hg.below) hR.out.2.2.2.1 hR.out.2.2.2.2.1
    clear hvm tk tl hlt hle
    go_wp2
    go_region_with (go_at_call 80;refine cM (hTn.out _ (gR wr).drew) ?_;rintro e w6 ⟨rfl,f1,f2⟩;have hF:Hid (VwN w6 N (O+13+j*6) (ag (ag P m0 wr.heap.size) wr.drew.heap.size w6.heap.size) qs[j] (ofR s') (ofR t')∧Wr N (O+13+j*6) (O+13+j*6+6) wr w6):=⟨f1,(Wr.of (gR wr).drew.below hI.out.1.blk.lt).trans f2⟩;clear f1 f2)
    have hfin:Hid (Nm w6 N O (ag P m0 w6.heap.size) id s' t' qs (j+1) (ofR s) (ofR t)∧Wr N (O+1) (O+37) w w6∧Cls w6 Bm [I X L.length k,I Y M.length m]∧LvP (fun b=>w1.heap.size≤b∧b<wc.heap.size) w6 X k L∧LvP (fun b=>w1.heap.size≤b∧b<wc.heap.size) w6 Y m M):=by
     have hW:=hF.out.2
     have hsz:=hW.size
     have hwr:=hI.out.2.1.size
     have hm1:=hH.out.2.2.2.2.1
     have hlt:=hR.out.2.2.2.2.2.2.2.2
     have hs1:=hH.out.2.2.2.2.2.1.size
     have hle:=hI.out.1.le
     have hQ:¬(w1.heap.size≤N∧N<wc.heap.size):=fun h=>by omega
     refine ⟨hI.out.1.turned hjl (ag.more (nR _) hsz) (cZ hH.out.1.out hH.out.2.2.2.1) (fun b hb=> ?_) (hF.out.1.mono fun b hb=>ag.two (show m0≤wr.heap.size by omega) hsz b hb) hW,hI.out.2.1.trans (hW.mono (by omega) (by omega)),hI.out.2.2.1.keep (hW.oth Bm hI.out.2.2.1.lt (by have:=hR.out.2.2.2.2.2.2.2.1;omega)),hI.out.2.2.2.1.agr (hW.agr hQ),hI.out.2.2.2.2.agr (hW.agr hQ)⟩
     rcases hb with hb|hb
     ·have:=hH.out.1.up b hb;omega
     ·exact hb.2
    clear hF hI hTn q0 q1
    go_wp2
    go_roundw
    case rel=>exact ⟨j+1,by omega,by go_num,hfin⟩
    case measure=>simp[intOf];omega
   ·have hjz:¬(j:Int)<(qs.length:Int):=by omega
    go_wp2
    go_end0
    exact ⟨rfl,hI.out.1.done (by omega),hI.out.2.1⟩
end Go.Proofs.YtkefkplnamkicaaGreatDoor
