/-
  table.Merge: two tables merged.
  table.Put: the table that puts a value.
  viewkeep.edited: a table, behind some edits of two nodes.
  A list that grows while two contexts are read: what an append leaves ds it was. And which dots are missing.
  dot.appendMissing: the dots of a node that a has and b hasn't, behind a list.
  dot.missing: the dots that a has and b hasn't; an error, if there are more than 400.
-/
import Derived.Test.YtckeonpnfankhaaGreatDoorM20
set_option maxRecDepth 100000
set_option maxHeartbeats 8000000
namespace Go.Proofs.YtckeonpnfankhaaGreatDoor
open Go.RowKit Go.Sort

def dA (a b:Tab):Bool:=a.e.any (clP b.e)
def ak (a b:Tab):Int:=if aq a≠0 then aq a else if aq b≠0 then aq b else if dA a b then 5 else if aD a.c b.c≠0 then aD a.c b.c else if 400<(mrg a b).length then 2 else 0
def ac (a b:Tab):Tab:=if ak a b=0 then ⟨az a.c b.c,mrg a b⟩ else ⟨aG,[]⟩

theorem fG {a b:Tab} {E:Int} (h:ak a b=E) (h0:E≠0):ak a b=E∧ac a b=⟨aG,[]⟩:=⟨h,by unfold ac;rw[h,if_neg h0]⟩

structure MergeAt (w W:World) (a b:Tab) (A:Option Addr) (ca:Nat) (C:Option Addr) (cc:Nat) (B:Option Addr) (cb:Nat) (D:Option Addr) (cd:Nat):Prop where
 ta:TabAt W w.heap.size a A ca C cc
 tb:TabAt W (w.heap.size+1) b B cb D cd
 res:xm W (w.heap.size+1+1)
 hw:Below w.heap.size w W
theorem MergeAt.below {w W W':World} {a b:Tab} {A B C D:Option Addr} {ca cb cc cd:Nat} (h:MergeAt w W a b A ca C cc B cb D cd) (k:Below W.heap.size W W'):MergeAt w W' a b A ca C cc B cb D cd :=
 ⟨h.ta.below k,h.tb.below k,h.res.below k,h.hw.trans (k.mono h.hw.size)⟩
theorem MergeAt.gr {w W W':World} {a b:Tab} {A B C D:Option Addr} {ca cb cc cd:Nat} (h:MergeAt w W a b A ca C cc B cb D cd) (k:Gr W W'):MergeAt w W' a b A ca C cc B cb D cd:=h.below k.below

theorem gX (a b:Tab) (A B C D:Option Addr) (ca cb cc cd:Nat) (w:World) (hal:a.c.l.length≤maxLen) (hbl:b.c.l.length≤maxLen) (hael:a.e.length≤maxLen) (hbel:b.e.length≤maxLen) (hA:A=none→ca=0) (hB:B=none→cb=0) (hra:Row w A a.c.l) (hrb:Row w B b.c.l) (hrc:bj w C a.e) (hrd:bj w D b.e) :
  Calls Tryz.prog 75 #[.agg (T6 a A ca C cc).toArray,.agg (T6 b B cb D cd).toArray] w fun e w'=>∃E ce F cf,e= .returned (.tuple #[.agg (T6 (ac a b) E ce F cf).toArray,.int .i64 (ak a b)])∧Row w' E (ac a b).c.l∧bj w' F (ac a b).e∧(E=none→ce=0)∧(F=none→cf=0)∧(∀x,E=some x→w.heap.size≤x.block)∧(∀x,F=some x→w.heap.size≤x.block)∧Below w.heap.size w w':=by
 have hF0:MergeAt w (((w.alloc (.cells #[.int .i64 a.c.c0,.int .i64 a.c.c1,.int .i64 a.c.c2,.int .i64 a.c.c3,.slice A a.c.l.length ca,.slice C a.e.length cc] 41)).alloc (.cells #[.int .i64 b.c.c0,.int .i64 b.c.c1,.int .i64 b.c.c2,.int .i64 b.c.c3,.slice B b.c.l.length cb,.slice D b.e.length cd] 41)).alloc (.cells #[.int .i64 0,.int .i64 0,.int .i64 0,.int .i64 0,.slice none 0 0,.slice none 0 0] 41)) a b A ca C cc B cb D cd :=
  ⟨(TabAt.new 41 hra hrc rfl).gr (((gR _).alloc _).alloc _),(TabAt.new 41 (hrb.gr ((gR _).alloc _)) (hrd.gr ((gR _).alloc _)) (by simp)).gr ((gR _).alloc _),Six.new _ _ _ _ _ _ _ 41 (by simp),((((gR w).alloc _).alloc _).alloc _).below⟩
 have hlH:Hid (a.c.l.length≤maxLen∧b.c.l.length≤maxLen∧a.e.length≤maxLen∧b.e.length≤maxLen):=⟨hal,hbl,hael,hbel⟩
 have hAH:Hid ((A=none→ca=0)∧(B=none→cb=0)):=⟨hA,hB⟩
 have hck:=ec a A ca C cc _ hal hael hF0.ta.row hF0.ta.rowC
 have hckH:Hid _:=hck
 clear hck hal hbl hael hbel hra hrb hrc hrd hA hB
 go_enter Tryz.func75,Tryz.ntmps75
 go_wp2_with fail
 refine cM (show Calls _ _ _ _ _ from hckH.out) ?_
 rintro e w1 ⟨rfl,hg1⟩
 clear hckH
 have hF1:=hF0.gr hg1
 clear hF0 hg1
 obtain ⟨E1,hE1⟩:∃E,aq a=E:=⟨_,rfl⟩
 rw[hE1]
 by_cases h1:E1=0
 ·subst h1
  have heA:Hid (aq a=0):=hE1
  clear hE1
  obtain ⟨b0,b1,b2,b3,b4,b5,blt,brow,browC⟩:=(show TabAt _ _ _ _ _ _ _ from hF1.tb)
  have hck:=ec b B cb D cd w1 hlH.out.2.1 hlH.out.2.2.2 brow browC
  have hckH:Hid _:=hck
  clear hck brow browC
  go_wp2_with fail
  refine cM (show Calls _ _ _ _ _ from hckH.out) ?_
  rintro e w2 ⟨rfl,hg2⟩
  clear hckH b0 b1 b2 b3 b4 b5 blt
  have hF2:=hF1.gr hg2
  clear hF1 hg2
  obtain ⟨E2,hE2⟩:∃E,aq b=E:=⟨_,rfl⟩
  rw[hE2]
  by_cases h2:E2=0
  ·subst h2
   have heB:Hid (aq b=0):=hE2
   clear hE2
   have a5:=hF2.ta.k5
   have b5:=hF2.tb.k5
   have hcl:=rX a.e b.e C D cc cd w2 (ag heA.out).2.1 (ag heB.out).2.1 hF2.ta.rowC hF2.tb.rowC (dM heB.out)
   have hclH:Hid _:=hcl
   clear hcl
   go_wp2_with fail
   refine cM (show Calls _ _ _ _ _ from hclH.out) ?_
   rintro e w3 ⟨rfl,hg3⟩
   clear hclH a5 b5
   have hF3:=hF2.gr hg3
   clear hF2 hg3
   obtain ⟨K,hK⟩:∃K,a.e.any (clP b.e)=K:=⟨_,rfl⟩
   rw[hK]
   cases K
   ·have hKH:Hid (dA a b=false):=hK
    clear hK
    obtain ⟨a0,a1,a2,a3,a4,a5,alt,arow,arowC⟩:=(show TabAt _ _ _ _ _ _ _ from hF3.ta)
    obtain ⟨b0,b1,b2,b3,b4,b5,blt,brow,browC⟩:=(show TabAt _ _ _ _ _ _ _ from hF3.tb)
    have hjo:=oE a.c b.c A B ca cb w3 hlH.out.1 hlH.out.2.1 arow brow hAH.out.1 hAH.out.2
    have hjoH:Hid _:=hjo
    clear hjo arow brow arowC browC alt blt
    go_wp2_with fail
    refine cM (show Calls _ _ _ _ _ from hjoH.out) ?_
    rintro e w4 ⟨C4,p4,rfl,hr4,hC4,hCb4,hb4⟩
    clear hjoH a0 a1 a2 a3 a4 a5 b0 b1 b2 b3 b4 b5
    have hF4:=hF3.below hb4
    have hs3:=hF3.res.lt
    have hCw4:Hid (∀x,C4=some x→w.heap.size≤x.block):=fun x hx=>by have:=hCb4 x hx;omega
    have hCn4:Hid (∀x,C4=some x→x.block≠w.heap.size+1+1):=fun x hx=>by have:=hCb4 x hx;omega
    clear hF3 hb4 hCb4
    obtain ⟨J,hJ⟩:∃J,az a.c b.c=J:=⟨_,rfl⟩
    obtain ⟨E4,hE4⟩:∃E,aD a.c b.c=E:=⟨_,rfl⟩
    rw[hJ] at hr4 ⊢
    rw[hE4]
    have hJH:Hid (az a.c b.c=J∧aD a.c b.c=E4):=⟨hJ,hE4⟩
    clear hJ hE4
    have hgC:Gr w4 (w4.alloc (.cells #[.int .i64 J.c0,.int .i64 J.c1,.int .i64 J.c2,.int .i64 J.c3,.slice C4 J.l.length p4] 38)):=(gR _).alloc _
    have hF5:=hF4.gr hgC
    have hc5:CtxAt (w4.alloc (.cells #[.int .i64 J.c0,.int .i64 J.c1,.int .i64 J.c2,.int .i64 J.c3,.slice C4 J.l.length p4] 38)) w4.heap.size J C4 p4:=CtxAt.new (c:=J) 38 hr4 rfl
    have hs4:=hF4.res.lt
    clear hF4 hgC hr4
    by_cases h4:E4=0
    ·subst h4
     obtain ⟨a0,a1,a2,a3,a4,a5,alt,arow,arowC⟩:=(show TabAt _ _ _ _ _ _ _ from hF5.ta)
     obtain ⟨b0,b1,b2,b3,b4,b5,blt,brow,browC⟩:=(show TabAt _ _ _ _ _ _ _ from hF5.tb)
     have hmc:=lj a b A B C D ca cb cc cd _ heA.out heB.out arow brow arowC browC
     have hmcH:Hid _:=hmc
     clear hmc arow brow arowC browC alt blt
     go_wp2_with fail
     refine cM (show Calls _ _ _ _ _ from hmcH.out) ?_
     rintro e w6 ⟨F,cf,rfl,hrF,hF0,hFb,hb6⟩
     clear hmcH a0 a1 a2 a3 a4 a5 b0 b1 b2 b3 b4 b5
     have hF6:=hF5.below hb6
     have hc6:=hc5.below hb6
     have hFw:Hid (∀x,F=some x→w.heap.size≤x.block):=fun x hx=>by have:=hFb x hx;simp at this;omega
     have hFn:Hid (∀x,F=some x→x.block≠w.heap.size+1+1):=fun x hx=>by have:=hFb x hx;simp at this;omega
     clear hF5 hc5 hb6 hFb
     obtain ⟨M,hM⟩:∃M,mrg a b=M:=⟨_,rfl⟩
     rw[hM] at hrF ⊢
     have hMl:M.length≤800:=by
      rw[←hM]
      unfold mrg
      rw[gB]
      have h1:=po a b
      have h2:=(ag heA.out).2.1
      have h3:=(ag heB.out).2.1
      omega
     have hMH:Hid (mrg a b=M):=hM
     clear hM
     by_cases h400:400<M.length
     ·have h400z:(400:Int)<(M.length:Int):=by omega
      have hfin:Hid (ak a b=2∧ac a b=⟨aG,[]⟩):=fG (by unfold ak;rw[heA.out,heB.out,hKH.out,hJH.out.2,hMH.out];simp[h400]) (by decide)
      obtain ⟨z0,z1,z2,z3,z4,z5,zf,zlt⟩:=(show Six _ _ _ _ _ _ _ _ from hF6.res)
      have hbw:Hid (Below w.heap.size w _):=hF6.hw
      go_wp2
      rw[hfin.out.1,hfin.out.2]
      exact bodyPost_ret (v:= .tuple #[.agg #[.int .i64 0,.int .i64 0,.int .i64 0,.int .i64 0,.slice none 0 0,.slice none 0 0],.int .i64 2]) (by simp[results,Tryz.results75,go_sem,z0,z1,z2,z3,z4,z5]) rfl ⟨none,0,none,0,rfl,oL rfl,oL rfl,fun _=>rfl,fun _=>rfl,(fun x hx=>by cases hx),(fun x hx=>by cases hx),aj hbw.out (by omega) _ _ _ _ _ _⟩
     ·have h400z:¬(400:Int)<(M.length:Int):=by omega
      have hfin:Hid (ak a b=0∧ac a b=⟨J,M⟩):=by
       have h0:ak a b=0:=by unfold ak;rw[heA.out,heB.out,hKH.out,hJH.out.2,hMH.out];simp;omega
       exact ⟨h0,by unfold ac;rw[h0,if_pos rfl,hJH.out.1,hMH.out]⟩
      obtain ⟨z0,z1,z2,z3,z4,z5,zf,zlt⟩:=(show Six _ _ _ _ _ _ _ _ from hF6.res)
      obtain ⟨c0,c1,c2,c3,c4,clt,crow⟩:=(show CtxAt _ _ _ _ _ from hc6)
      have hbw:Hid (Below w.heap.size w _):=hF6.hw
      have hcrow:Hid (Row _ C4 J.l):=crow
      have hrFH:Hid (bj _ F M):=hrF
      clear crow hrF h400
      go_wp2
      rw[hfin.out.1,hfin.out.2]
      have h1:=hCn4.out
      have h2:=hFn.out
      exact bodyPost_ret (v:= .tuple #[.agg #[.int .i64 J.c0,.int .i64 J.c1,.int .i64 J.c2,.int .i64 J.c3,.slice C4 J.l.length p4,.slice F M.length cf],.int .i64 0]) (by simp[results,Tryz.results75,go_sem,z0,z1,z2,z3,z4,z5]) rfl ⟨C4,p4,F,cf,rfl,(((((hcrow.out.setCell _ h1).setCell _ h1).setCell _ h1).setCell _ h1).setCell _ h1).setCell _ h1,(((((hrFH.out.setCell _ h2).setCell _ h2).setCell _ h2).setCell _ h2).setCell _ h2).setCell _ h2,hC4,hF0,hCw4.out,hFw.out,aj hbw.out (by omega) _ _ _ _ _ _⟩
    ·have hfin:Hid (ak a b=E4∧ac a b=⟨aG,[]⟩):=fG (by unfold ak;rw[heA.out,heB.out,hKH.out,hJH.out.2];simp[h4]) h4
     have heb:(E4 != 0)=true:=by simpa using h4
     clear h4
     obtain ⟨z0,z1,z2,z3,z4,z5,zf,zlt⟩:=(show Six _ _ _ _ _ _ _ _ from hF5.res)
     have hbw:Hid (Below w.heap.size w _):=hF5.hw
     go_upto_region 11 with fail
     generalize w4.alloc (.cells #[.int .i64 J.c0,.int .i64 J.c1,.int .i64 J.c2,.int .i64 J.c3,.slice C4 J.l.length p4] 38)=V at z0 z1 z2 z3 z4 z5 zf zlt hbw ⊢
     go_wp2
     rw[hfin.out.1,hfin.out.2]
     exact bodyPost_ret (v:= .tuple #[.agg #[.int .i64 0,.int .i64 0,.int .i64 0,.int .i64 0,.slice none 0 0,.slice none 0 0],.int .i64 E4]) (by simp[results,Tryz.results75,go_sem,z0,z1,z2,z3,z4,z5]) rfl ⟨none,0,none,0,rfl,oL rfl,oL rfl,fun _=>rfl,fun _=>rfl,(fun x hx=>by cases hx),(fun x hx=>by cases hx),aj hbw.out (by omega) _ _ _ _ _ _⟩
   ·have hfin:Hid (ak a b=5∧ac a b=⟨aG,[]⟩):=fG (by unfold ak dA;rw[heA.out,heB.out,hK];simp) (by decide)
    clear hK
    obtain ⟨z0,z1,z2,z3,z4,z5,zf,zlt⟩:=(show Six _ _ _ _ _ _ _ _ from hF3.res)
    have hbw:Hid (Below w.heap.size w _):=hF3.hw
    go_wp2
    rw[hfin.out.1,hfin.out.2]
    exact bodyPost_ret (v:= .tuple #[.agg #[.int .i64 0,.int .i64 0,.int .i64 0,.int .i64 0,.slice none 0 0,.slice none 0 0],.int .i64 5]) (by simp[results,Tryz.results75,go_sem,z0,z1,z2,z3,z4,z5]) rfl ⟨none,0,none,0,rfl,oL rfl,oL rfl,fun _=>rfl,fun _=>rfl,(fun x hx=>by cases hx),(fun x hx=>by cases hx),aj hbw.out (by omega) _ _ _ _ _ _⟩
  ·have hfin:Hid (ak a b=E2∧ac a b=⟨aG,[]⟩):=fG (by unfold ak;rw[heA.out,hE2];simp[h2]) h2
   have heb:(E2 != 0)=true:=by simpa using h2
   clear h2 hE2
   obtain ⟨z0,z1,z2,z3,z4,z5,zf,zlt⟩:=(show Six _ _ _ _ _ _ _ _ from hF2.res)
   have hbw:Hid (Below w.heap.size w _):=hF2.hw
   go_wp2
   rw[hfin.out.1,hfin.out.2]
   exact bodyPost_ret (v:= .tuple #[.agg #[.int .i64 0,.int .i64 0,.int .i64 0,.int .i64 0,.slice none 0 0,.slice none 0 0],.int .i64 E2]) (by simp[results,Tryz.results75,go_sem,z0,z1,z2,z3,z4,z5]) rfl ⟨none,0,none,0,rfl,oL rfl,oL rfl,fun _=>rfl,fun _=>rfl,(fun x hx=>by cases hx),(fun x hx=>by cases hx),aj hbw.out (by omega) _ _ _ _ _ _⟩
 ·have hfin:Hid (ak a b=E1∧ac a b=⟨aG,[]⟩):=fG (by unfold ak;rw[hE1];simp[h1]) h1
  have heb:(E1 != 0)=true:=by simpa using h1
  clear h1 hE1
  obtain ⟨z0,z1,z2,z3,z4,z5,zf,zlt⟩:=(show Six _ _ _ _ _ _ _ _ from hF1.res)
  have hbw:Hid (Below w.heap.size w _):=hF1.hw
  go_wp2
  rw[hfin.out.1,hfin.out.2]
  exact bodyPost_ret (v:= .tuple #[.agg #[.int .i64 0,.int .i64 0,.int .i64 0,.int .i64 0,.slice none 0 0,.slice none 0 0],.int .i64 E1]) (by simp[results,Tryz.results75,go_sem,z0,z1,z2,z3,z4,z5]) rfl ⟨none,0,none,0,rfl,oL rfl,oL rfl,fun _=>rfl,fun _=>rfl,(fun x hx=>by cases hx),(fun x hx=>by cases hx),aj hbw.out (by omega) _ _ _ _ _ _⟩


def cZ (t:Tab) (n key col v:Int):Int :=
 if aq t≠0 then aq t else if aV key col v=false then 1 else if (bv t.c n).2≠0 then (bv t.c n).2
 else if bJ (am (d8 key col) t.e)≠0 then bJ (am (d8 key col) t.e) else if bJ [(bv t.c n).1]≠0 then bJ [(bv t.c n).1]
 else aD (aA (am (d8 key col) t.e)) (aA [(bv t.c n).1])
def cD (t:Tab) (n key col v:Int):Tab :=
 if cZ t n key col v=0 then ⟨az (aA (am (d8 key col) t.e)) (aA [(bv t.c n).1]),[((bv t.c n).1,key,col,v)]⟩ else ⟨aG,[]⟩

structure PutAt (w W:World) (t:Tab) (A:Option Addr) (ca:Nat) (D:Option Addr) (cd:Nat) (key col:Int):Prop where
 tab:TabAt W w.heap.size t A ca D cd
 key:W.cell? ⟨w.heap.size+1,0,none⟩=some (.int .i64 key)
 col:W.cell? ⟨w.heap.size+1+1,0,none⟩=some (.int .i64 col)
 res:xm W (w.heap.size+1+1+1)
 hw:Below w.heap.size w W
theorem PutAt.below {w W W':World} {t:Tab} {A:Option Addr} {ca:Nat} {D:Option Addr} {cd:Nat} {key col:Int} (h:PutAt w W t A ca D cd key col) (k:Below W.heap.size W W'):PutAt w W' t A ca D cd key col :=
 ⟨h.tab.below k,(k.cell (p:=⟨w.heap.size+1,0,none⟩) (show w.heap.size+1<_ by have:=h.res.lt;omega)).trans h.key,(k.cell (p:=⟨w.heap.size+1+1,0,none⟩) (show w.heap.size+1+1<_ by have:=h.res.lt;omega)).trans h.col,h.res.below k,h.hw.trans (k.mono h.hw.size)⟩
theorem PutAt.gr {w W W':World} {t:Tab} {A:Option Addr} {ca:Nat} {D:Option Addr} {cd:Nat} {key col:Int} (h:PutAt w W t A ca D cd key col) (k:Gr W W'):PutAt w W' t A ca D cd key col:=h.below k.below

theorem wV {W:World} {n:Nat} (hn:W.heap.size=n) (x:Cel) (T:TypeId):bj (W.alloc (.cells #[.int .i64 x.1.1,.int .i64 x.1.2,.int .i64 x.2.1,.int .i64 x.2.2.1,.int .i64 x.2.2.2] T)) (some ⟨n,0,none⟩) [x]:=by
 subst hn
 refine oR ⟨W.heap.size,0,rfl,by simp,fun j hj i hi=> ?_⟩
 have hj':j=0:=by simp at hj;omega
 subst hj'
 have hb:=fun (i:Nat) (v:Value) (h:(#[.int .i64 x.1.1,.int .i64 x.1.2,.int .i64 x.2.1,.int .i64 x.2.2.1,.int .i64 x.2.2.2]:Array Value)[i]? = some v)=>aa (w:=W) (gR (W.alloc (.cells #[.int .i64 x.1.1,.int .i64 x.1.2,.int .i64 x.2.1,.int .i64 x.2.2.1,.int .i64 x.2.2.2] T))) (j:=i) h
 have hi':i=0∨i=1∨i=2∨i=3∨i=4:=by omega
 rcases hi' with rfl|rfl|rfl|rfl|rfl
 ·exact hb 0 _ rfl
 ·exact hb 1 _ rfl
 ·exact hb 2 _ rfl
 ·exact hb 3 _ rfl
 ·exact hb 4 _ rfl

def Fz (W:World) (B:Nat):Prop:=B<W.heap.size∧∀j,W.frozen? ⟨B,j,none⟩=false
theorem Fz.below {W W':World} {B:Nat} (h:Fz W B) (k:Below W.heap.size W W'):Fz W' B:=⟨nL h.1 k.size,fun j=>(k.frozen (p:=⟨B,j,none⟩) h.1).trans (h.2 j)⟩
theorem Fz.gr {W W':World} {B:Nat} (h:Fz W B) (k:Gr W W'):Fz W' B:=h.below k.below
theorem Fz.new (W:World) (C1:Array Value) (T1:TypeId):Fz (W.alloc (.cells C1 T1)) W.heap.size:=⟨by simp,fun j=>ew (gR _) j⟩

theorem pR {W:World} {A:Addr} {N:Int×Int} (hr:Row W (some A) [N]) :
  Calls Tryz.prog 157 #[.slice (some A) 1 1] W fun e w'=>∃C cp,e= .returned (.tuple #[.agg #[.int .i64 (aA [N]).c0,.int .i64 (aA [N]).c1,.int .i64 (aA [N]).c2,.int .i64 (aA [N]).c3,.slice C (aA [N]).l.length cp],.int .i64 (bJ [N])])∧Row w' C (aA [N]).l∧(C=none→cp=0)∧(∀a,C=some a→W.heap.size≤a.block)∧Below W.heap.size W w' :=
 oJ [N] (some A) 1 W (by simp[maxLen]) (fun h=>by cases h) hr

theorem jx (l:List (Int×Int)) (h:l.length≤400):(aA l).l.length≤maxLen:=by
 refine nT (m:=400) ?_ (by decide)
 unfold aA
 by_cases h0:bJ l=0
 ·rw[if_pos h0]
  unfold dS
  have:=iE aG (srt l) (srt l).length
  rw[eT] at this ⊢
  have hz:aG.l.length=0:=rfl
  omega
 ·rw[if_neg h0]
  exact nZ _

theorem xl (t:Tab) (A:Option Addr) (ca:Nat) (D:Option Addr) (cd:Nat) (n key col v:Int) (w:World) (hl:t.c.l.length≤maxLen) (hel:t.e.length≤maxLen) (hr:Row w A t.c.l) (hd:bj w D t.e) :
  Calls Tryz.prog 104 #[.agg (T6 t A ca D cd).toArray,.int .i64 n,.int .i64 key,.int .i64 col,.int .i64 v] w fun e w'=>∃C cp D' cd',e= .returned (.tuple #[.agg (T6 (cD t n key col v) C cp D' cd').toArray,.int .i64 (cZ t n key col v)])∧Row w' C (cD t n key col v).c.l∧bj w' D' (cD t n key col v).e∧(C=none→cp=0)∧(D'=none→cd'=0)∧(∀x,C=some x→w.heap.size≤x.block)∧(∀x,D'=some x→w.heap.size≤x.block)∧Below w.heap.size w w':=by
 have hF0:PutAt w ((((w.alloc (.cells #[.int .i64 t.c.c0,.int .i64 t.c.c1,.int .i64 t.c.c2,.int .i64 t.c.c3,.slice A t.c.l.length ca,.slice D t.e.length cd] 41)).alloc (.cells #[.int .i64 key] 3)).alloc (.cells #[.int .i64 col] 3)).alloc (.cells #[.int .i64 0,.int .i64 0,.int .i64 0,.int .i64 0,.slice none 0 0,.slice none 0 0] 41)) t A ca D cd key col :=
  ⟨(TabAt.new 41 hr hd rfl).gr ((((gR _).alloc _).alloc _).alloc _),lX (((gR _).alloc _).alloc _) rfl,(by have h:=lX (w:=w.alloc (.cells #[.int .i64 t.c.c0,.int .i64 t.c.c1,.int .i64 t.c.c2,.int .i64 t.c.c3,.slice A t.c.l.length ca,.slice D t.e.length cd] 41)) (C1:= #[.int .i64 key]) (T1:=3) (C2:= #[.int .i64 col]) (T2:=3) ((gR _).alloc (.cells #[.int .i64 0,.int .i64 0,.int .i64 0,.int .i64 0,.slice none 0 0,.slice none 0 0] 41)) (j:=0) rfl;rw[World.size_alloc] at h;exact h),Six.new _ _ _ _ _ _ _ 41 (by simp),(((((gR w).alloc _).alloc _).alloc _).alloc _).below⟩
 have hck:=ec t A ca D cd _ hl hel hF0.tab.row hF0.tab.rowC
 have hckH:Hid _:=hck
 have hlH:Hid (t.c.l.length≤maxLen):=hl
 clear hck hl
 go_enter Tryz.func104,Tryz.ntmps104
 go_wp2_with fail
 refine cM (show Calls _ _ _ _ _ from hckH.out) ?_
 rintro e w1 ⟨rfl,hg1⟩
 clear hckH
 have hF1:=hF0.gr hg1
 clear hF0 hg1
 obtain ⟨E1,hE1⟩:∃E,aq t=E:=⟨_,rfl⟩
 rw[hE1]
 by_cases h1:E1=0
 ·subst h1
  have heH:Hid (aq t=0):=hE1
  have hel4:t.e.length≤400:=(ag hE1).2.1
  clear hE1
  cases hpl:aV key col v
  ·have hfin:Hid (cZ t n key col v=1∧cD t n key col v=⟨aG,[]⟩):=by
    have h1:cZ t n key col v=1:=by simp[cZ,heH.out,hpl]
    exact ⟨h1,by unfold cD;rw[h1];rfl⟩
   obtain ⟨z0,z1,z2,z3,z4,z5,zf,zlt⟩:=(show Six _ _ _ _ _ _ _ _ from hF1.res)
   have hkk:=hF1.key
   have hcc:=hF1.col
   have hbw:Hid (Below w.heap.size w w1):=hF1.hw
   go_wp2_with (go_at_call 67;refine (fJ hpl _).mono ?_;rintro e w1 ⟨rfl,rfl⟩)
   rw[hfin.out.1,hfin.out.2]
   exact bodyPost_ret (v:= .tuple #[.agg #[.int .i64 0,.int .i64 0,.int .i64 0,.int .i64 0,.slice none 0 0,.slice none 0 0],.int .i64 1]) (by simp[results,Tryz.results104,go_sem,z0,z1,z2,z3,z4,z5]) rfl ⟨none,0,none,0,rfl,oL rfl,oL rfl,fun _=>rfl,fun _=>rfl,(fun x hx=>by cases hx),(fun x hx=>by cases hx),aj hbw.out (by omega) _ _ _ _ _ _⟩
  ·obtain ⟨k0,k1,k2,k3,k4,k5,klt,krow,krowC⟩:=(show TabAt _ _ _ _ _ _ _ from hF1.tab)
   have hkk:=hF1.key
   have hcc:=hF1.col
   have hnx:=vJ t.c A ca n w1 hlH.out krow
   have hnxH:Hid _:=hnx
   clear hnx
   go_wp2_with (first|(go_at_call 67;refine (fJ hpl _).mono ?_;rintro e w1 ⟨rfl,rfl⟩)|fail)
   refine cM (show Calls _ _ _ _ _ from hnxH.out) ?_
   rintro e w2 ⟨rfl,hg2⟩
   clear hnxH k0 k1 k2 k3 k4 k5 klt krow krowC hkk hcc
   have hF2:=hF1.gr hg2
   clear hF1 hg2
   obtain ⟨N,hN⟩:∃N,(bv t.c n).1=N:=⟨_,rfl⟩
   obtain ⟨E2,hE2⟩:∃E,(bv t.c n).2=E:=⟨_,rfl⟩
   rw[hN,hE2]
   have hNF:Hid ((bv t.c n).1=N∧(bv t.c n).2=E2):=⟨hN,hE2⟩
   clear hN hE2
   go_upto_region 7 with fail
   have hF3:=hF2.gr ((gR _).alloc (.cells #[.int .i64 N.1,.int .i64 N.2] 95))
   have hn3:DotAt (w2.alloc (.cells #[.int .i64 N.1,.int .i64 N.2] 95)) w2.heap.size N.1 N.2:=DotAt.new 95 rfl
   generalize w2.alloc (.cells #[.int .i64 N.1,.int .i64 N.2] 95)=w3 at hF3 hn3 ⊢
   generalize w2.heap.size=bN at hn3 ⊢
   clear hF2
   by_cases h2:E2=0
   ·subst h2
    have hP:Hid (cZ t n key col v=if bJ (am (d8 key col) t.e)≠0 then bJ (am (d8 key col) t.e) else if bJ [N]≠0 then bJ [N] else aD (aA (am (d8 key col) t.e)) (aA [N])):=by
     show cZ t n key col v=_
     unfold cZ
     rw[heH.out,hpl,hNF.out.1,hNF.out.2]
     rfl
    have hT:Hid (cD t n key col v=if cZ t n key col v=0 then ⟨az (aA (am (d8 key col) t.e)) (aA [N]),[(N,key,col,v)]⟩ else ⟨aG,[]⟩):=by
     show cD t n key col v=_
     unfold cD
     rw[hNF.out.1]
    clear hNF
    obtain ⟨k0,k1,k2,k3,k4,k5,klt,krow,krowC⟩:=(show TabAt _ _ _ _ _ _ _ from hF3.tab)
    have hkk:=hF3.key
    have hcc:=hF3.col
    have hrl:=hF3.res.lt
    have eg:∀args w,(callFunc 156 args).run Tryz.prog w= .ok (.enter 156 args) w:=enters_of Tryz.func156 (by kernel_rfl) rfl
    have hco:=im (d8 key col) 156 #[.pointer (some ⟨w.heap.size+1,0,none⟩),.pointer (some ⟨w.heap.size+1+1,0,none⟩)] eg t.e D cd w3 hel4 krowC (fun W hW x=>uP key col (w.heap.size+1) (w.heap.size+1+1) x W (by have:=hW.size;omega) (by have:=hW.size;omega) ((hW.cell (p:=⟨w.heap.size+1,0,none⟩) (show w.heap.size+1<_ by omega)).trans hkk) ((hW.cell (p:=⟨w.heap.size+1+1,0,none⟩) (show w.heap.size+1+1<_ by omega)).trans hcc))
    have hcoH:Hid _:=hco
    have hFl:Hid ((aA (am (d8 key col) t.e)).l.length≤maxLen):=jx _ (nT (dB _ _) hel4)
    have hGl:Hid ((aA [N]).l.length≤maxLen):=jx _ (by simp)
    clear hco
    go_wp2_with fail
    refine cM (show Calls _ _ _ _ _ from hcoH.out) ?_
    rintro e w4 ⟨C4,cp4,rfl,hr4,hC4,_,hb4⟩
    clear hcoH k0 k1 k2 k3 k4 k5 klt krow krowC hkk hcc hrl eg
    obtain ⟨F,hFF⟩:∃F,aA (am (d8 key col) t.e)=F:=⟨_,rfl⟩
    obtain ⟨E4,hE4⟩:∃E,bJ (am (d8 key col) t.e)=E:=⟨_,rfl⟩
    rw[hFF] at hr4 hP hT hFl ⊢
    rw[hE4] at hP ⊢
    clear hFF hE4
    go_upto_region 10 with fail
    have hF5:=(hF3.below hb4).gr ((gR _).alloc (.cells #[.int .i64 F.c0,.int .i64 F.c1,.int .i64 F.c2,.int .i64 F.c3,.slice C4 F.l.length cp4] 38))
    have hn5:=(hn3.below hb4).gr ((gR _).alloc (.cells #[.int .i64 F.c0,.int .i64 F.c1,.int .i64 F.c2,.int .i64 F.c3,.slice C4 F.l.length cp4] 38))
    have hc5:CtxAt (w4.alloc (.cells #[.int .i64 F.c0,.int .i64 F.c1,.int .i64 F.c2,.int .i64 F.c3,.slice C4 F.l.length cp4] 38)) w4.heap.size F C4 cp4:=CtxAt.new 38 hr4 rfl
    have hf5:Fz (w4.alloc (.cells #[.int .i64 F.c0,.int .i64 F.c1,.int .i64 F.c2,.int .i64 F.c3,.slice C4 F.l.length cp4] 38)) w4.heap.size:=Fz.new _ _ _
    have hbC:w.heap.size+1+1+1<w4.heap.size:=by have:=hF3.res.lt;have:=hb4.size;omega
    generalize w4.alloc (.cells #[.int .i64 F.c0,.int .i64 F.c1,.int .i64 F.c2,.int .i64 F.c3,.slice C4 F.l.length cp4] 38)=w5 at hF5 hn5 hc5 hf5 ⊢
    have hbN:bN<w4.heap.size:=by have:=hn3.lt;have:=hb4.size;omega
    clear hF3 hn3 hr4 hb4
    generalize w4.heap.size=bC at hc5 hf5 hbC hbN ⊢
    by_cases h4:E4=0
    ·subst h4
     obtain ⟨n0,n1,nlt⟩:=(show DotAt _ _ _ _ from hn5)
     go_wp2_with fail
     refine cM (show Calls _ _ _ _ _ from pR (N:=N) (gE rfl N.1 N.2 _)) ?_
     rintro e w6 ⟨C6,cp6,rfl,hr6,hC6,_,hb6⟩
     clear n0 n1 nlt
     have hF6:=(hF5.gr ((gR _).alloc _)).below hb6
     have hn6:=(hn5.gr ((gR _).alloc _)).below hb6
     have hc6:=(hc5.gr ((gR _).alloc _)).below hb6
     have hf6:=(hf5.gr ((gR _).alloc _)).below hb6
     clear hF5 hn5 hc5 hb6 hf5
     obtain ⟨G,hGG⟩:∃G,aA [N]=G:=⟨_,rfl⟩
     obtain ⟨E6,hE6⟩:∃E,bJ [N]=E:=⟨_,rfl⟩
     rw[hGG] at hr6 hP hT hGl ⊢
     rw[hE6] at hP ⊢
     clear hGG hE6
     go_upto_region 13 with fail
     have hF7:=hF6.gr ((gR _).alloc (.cells #[.int .i64 G.c0,.int .i64 G.c1,.int .i64 G.c2,.int .i64 G.c3,.slice C6 G.l.length cp6] 38))
     have hn7:=hn6.gr ((gR _).alloc (.cells #[.int .i64 G.c0,.int .i64 G.c1,.int .i64 G.c2,.int .i64 G.c3,.slice C6 G.l.length cp6] 38))
     have hc7:=hc6.gr ((gR _).alloc (.cells #[.int .i64 G.c0,.int .i64 G.c1,.int .i64 G.c2,.int .i64 G.c3,.slice C6 G.l.length cp6] 38))
     have hf7:=hf6.gr ((gR _).alloc (.cells #[.int .i64 G.c0,.int .i64 G.c1,.int .i64 G.c2,.int .i64 G.c3,.slice C6 G.l.length cp6] 38))
     have hg7:CtxAt (w6.alloc (.cells #[.int .i64 G.c0,.int .i64 G.c1,.int .i64 G.c2,.int .i64 G.c3,.slice C6 G.l.length cp6] 38)) w6.heap.size G C6 cp6:=CtxAt.new 38 hr6 rfl
     generalize w6.alloc (.cells #[.int .i64 G.c0,.int .i64 G.c1,.int .i64 G.c2,.int .i64 G.c3,.slice C6 G.l.length cp6] 38)=w7 at hF7 hn7 hc7 hg7 hf7 ⊢
     clear hF6 hn6 hc6 hr6 hf6
     generalize w6.heap.size=bG at hg7 ⊢
     by_cases h6:E6=0
     ·subst h6
      obtain ⟨c0,c1,c2,c3,c4,clt,crow⟩:=(show CtxAt _ _ _ _ _ from hc7)
      obtain ⟨g0,g1,g2,g3,g4,glt,grow'⟩:=(show CtxAt _ _ _ _ _ from hg7)
      have hjn:=oE F G C4 C6 cp4 cp6 w7 hFl.out hGl.out crow grow' hC4 hC6
      have hjnH:Hid _:=hjn
      clear hjn
      go_wp2_with fail
      refine cM (show Calls _ _ _ _ _ from hjnH.out) ?_
      rintro e w8 ⟨C8,cp8,rfl,hr8,hC8,hCb8,hb8⟩
      clear hjnH c0 c1 c2 c3 c4 clt crow g0 g1 g2 g3 g4 glt grow'
      obtain ⟨J,hJJ⟩:∃J,az F G=J:=⟨_,rfl⟩
      obtain ⟨E8,hE8⟩:∃E,aD F G=E:=⟨_,rfl⟩
      rw[hJJ] at hr8 hT ⊢
      rw[hE8] at hP ⊢
      clear hJJ hE8
      have hF8:=hF7.below hb8
      have hn8:=hn7.below hb8
      have hc8:=hc7.below hb8
      have hc7l:=hc7.lt
      have hf8:=hf7.below hb8
      clear hF7 hn7 hc7 hg7 hb8 hf7
      obtain ⟨c0,c1,c2,c3,c4,clt,crow⟩:=(show CtxAt _ _ _ _ _ from hc8)
      have hcz:=hf8.2
      go_upto_region 16 with fail
      have hbV:Below bC w8 (((((w8.setCell ⟨bC,0,none⟩ (.int .i64 J.c0)).setCell ⟨bC,1,none⟩ (.int .i64 J.c1)).setCell ⟨bC,2,none⟩ (.int .i64 J.c2)).setCell ⟨bC,3,none⟩ (.int .i64 J.c3)).setCell ⟨bC,4,none⟩ (.slice C8 J.l.length cp8)):=aY (bR _ _) (nR _) _ _ _ _ _
      have hc9:CtxAt (((((w8.setCell ⟨bC,0,none⟩ (.int .i64 J.c0)).setCell ⟨bC,1,none⟩ (.int .i64 J.c1)).setCell ⟨bC,2,none⟩ (.int .i64 J.c2)).setCell ⟨bC,3,none⟩ (.int .i64 J.c3)).setCell ⟨bC,4,none⟩ (.slice C8 J.l.length cp8)) bC J C8 cp8:=hc8.set hr8 (fun x hx=>by have:=hCb8 x hx;omega)
      have hz9:=hF8.res.belowB hbV hbC
      have hk9:=(hbV.cell (p:=⟨w.heap.size+1,0,none⟩) (show w.heap.size+1<bC by omega)).trans hF8.key
      have hl9:=(hbV.cell (p:=⟨w.heap.size+1+1,0,none⟩) (show w.heap.size+1+1<bC by omega)).trans hF8.col
      have hm9:=(hbV.cell (p:=⟨bN,0,none⟩) hbN).trans hn8.k0
      have hn9:=(hbV.cell (p:=⟨bN,1,none⟩) hbN).trans hn8.k1
      have hw9:Below w.heap.size w (((((w8.setCell ⟨bC,0,none⟩ (.int .i64 J.c0)).setCell ⟨bC,1,none⟩ (.int .i64 J.c1)).setCell ⟨bC,2,none⟩ (.int .i64 J.c2)).setCell ⟨bC,3,none⟩ (.int .i64 J.c3)).setCell ⟨bC,4,none⟩ (.slice C8 J.l.length cp8)):=hF8.hw.trans (hbV.mono (by omega))
      have hCw8:Hid (∀x,C8=some x→w.heap.size≤x.block):=fun x hx=>by have:=hCb8 x hx;omega
      have hCn8:Hid (∀x,C8=some x→x.block≠w.heap.size+1+1+1):=fun x hx=>by have:=hCb8 x hx;omega
      generalize (((((w8.setCell ⟨bC,0,none⟩ (.int .i64 J.c0)).setCell ⟨bC,1,none⟩ (.int .i64 J.c1)).setCell ⟨bC,2,none⟩ (.int .i64 J.c2)).setCell ⟨bC,3,none⟩ (.int .i64 J.c3)).setCell ⟨bC,4,none⟩ (.slice C8 J.l.length cp8))=V at hc9 hz9 hk9 hl9 hm9 hn9 hw9 ⊢
      clear hF8 hn8 hc8 hf8 hcz c0 c1 c2 c3 c4 clt crow hbV hr8 hCb8 hc7l
      by_cases h8:E8=0
      ·subst h8
       have hfin:Hid (cZ t n key col v=0∧cD t n key col v=⟨J,[(N,key,col,v)]⟩):=by
        have h3:cZ t n key col v=0:=by rw[hP.out];simp
        exact ⟨h3,by rw[hT.out,h3,if_pos rfl]⟩
       obtain ⟨c0,c1,c2,c3,c4,clt,crow⟩:=(show CtxAt _ _ _ _ _ from hc9)
       obtain ⟨z0,z1,z2,z3,z4,z5,zf,zlt⟩:=(show Six _ _ _ _ _ _ _ _ from hz9)
       have hCn:∀a,C8=some a→a.block≠w.heap.size+1+1+1:=hCn8.out
       have hV:=(hz9.set (.int .i64 J.c0) (.int .i64 J.c1) (.int .i64 J.c2) (.int .i64 J.c3) (.slice C8 J.l.length cp8) (.slice (some ⟨V.heap.size,0,none⟩) 1 1)).gr ((gR _).alloc (.cells #[.int .i64 N.1,.int .i64 N.2,.int .i64 key,.int .i64 col,.int .i64 v] 97))
       have hrV:Row _ C8 J.l:=(((((((crow.setCell (B:=w.heap.size+1+1+1) (j:=0) (.int .i64 J.c0) hCn).setCell (j:=1) (.int .i64 J.c1) hCn).setCell (j:=2) (.int .i64 J.c2) hCn).setCell (j:=3) (.int .i64 J.c3) hCn).setCell (j:=4) (.slice C8 J.l.length cp8) hCn).setCell (j:=5) (.slice (some ⟨V.heap.size,0,none⟩) 1 1) hCn)).gr ((gR _).alloc (.cells #[.int .i64 N.1,.int .i64 N.2,.int .i64 key,.int .i64 col,.int .i64 v] 97))
       have hbV:=(aj hw9 (B:=w.heap.size+1+1+1) (by omega) (.int .i64 J.c0) (.int .i64 J.c1) (.int .i64 J.c2) (.int .i64 J.c3) (.slice C8 J.l.length cp8) (.slice (some ⟨V.heap.size,0,none⟩) 1 1)).alloc (by simp;omega) (.cells #[.int .i64 N.1,.int .i64 N.2,.int .i64 key,.int .i64 col,.int .i64 v] 97)
       have hdV:=wV (W:=(((((V.setCell ⟨w.heap.size+1+1+1,0,none⟩ (.int .i64 J.c0)).setCell ⟨w.heap.size+1+1+1,1,none⟩ (.int .i64 J.c1)).setCell ⟨w.heap.size+1+1+1,2,none⟩ (.int .i64 J.c2)).setCell ⟨w.heap.size+1+1+1,3,none⟩ (.int .i64 J.c3)).setCell ⟨w.heap.size+1+1+1,4,none⟩ (.slice C8 J.l.length cp8)).setCell ⟨w.heap.size+1+1+1,5,none⟩ (.slice (some ⟨V.heap.size,0,none⟩) 1 1)) (n:=V.heap.size) (by simp) (N,key,col,v) 97
       have hVw:Hid (w.heap.size≤V.heap.size):=hw9.size
       have hVH:Hid _:=hV
       have hbVH:Hid _:=hbV
       have hrVH:Hid _:=hrV
       have hdVH:Hid _:=hdV
       clear hV hbV hrV hdV hCn
       go_wp2
       obtain ⟨v0,v1,v2,v3,v4,v5,vf,vlt⟩:=(show Six _ _ _ _ _ _ _ _ from hVH.out)
       have hbV:=hbVH.out
       have hrV:=hrVH.out
       have hdV:=hdVH.out
       rw[hfin.out.1,hfin.out.2]
       generalize World.alloc _ _=X at v0 v1 v2 v3 v4 v5 hbV hrV hdV ⊢
       exact bodyPost_ret (v:= .tuple #[.agg #[.int .i64 J.c0,.int .i64 J.c1,.int .i64 J.c2,.int .i64 J.c3,.slice C8 J.l.length cp8,.slice (some ⟨V.heap.size,0,none⟩) 1 1],.int .i64 0]) (by simp[results,Tryz.results104,go_sem,v0,v1,v2,v3,v4,v5]) rfl ⟨C8,cp8,_,1,rfl,hrV,hdV,hC8,fun h=>(by cases h),hCw8.out,(fun x hx=>by cases hx;have:=hVw.out;exact this),hbV⟩
      ·have hfin:Hid (cZ t n key col v=E8∧cD t n key col v=⟨aG,[]⟩):=by
        have h3:cZ t n key col v=E8:=by rw[hP.out];simp
        exact ⟨h3,by rw[hT.out,h3,if_neg h8]⟩
       have heb:(E8 != 0)=true:=by simpa using h8
       clear h8
       obtain ⟨z0,z1,z2,z3,z4,z5,zf,zlt⟩:=(show Six _ _ _ _ _ _ _ _ from hz9)
       have hbw:Hid (Below w.heap.size w _):=hw9
       go_wp2
       rw[hfin.out.1,hfin.out.2]
       exact bodyPost_ret (v:= .tuple #[.agg #[.int .i64 0,.int .i64 0,.int .i64 0,.int .i64 0,.slice none 0 0,.slice none 0 0],.int .i64 E8]) (by simp[results,Tryz.results104,go_sem,z0,z1,z2,z3,z4,z5]) rfl ⟨none,0,none,0,rfl,oL rfl,oL rfl,fun _=>rfl,fun _=>rfl,(fun x hx=>by cases hx),(fun x hx=>by cases hx),aj hbw.out (by omega) _ _ _ _ _ _⟩
     ·have hfin:Hid (cZ t n key col v=E6∧cD t n key col v=⟨aG,[]⟩):=by
       have h3:cZ t n key col v=E6:=by rw[hP.out];simp[h6]
       exact ⟨h3,by rw[hT.out,h3,if_neg h6]⟩
      have heb:(E6 != 0)=true:=by simpa using h6
      clear h6
      obtain ⟨z0,z1,z2,z3,z4,z5,zf,zlt⟩:=(show Six _ _ _ _ _ _ _ _ from hF7.res)
      have hbw:Hid (Below w.heap.size w _):=hF7.hw
      go_wp2
      rw[hfin.out.1,hfin.out.2]
      exact bodyPost_ret (v:= .tuple #[.agg #[.int .i64 0,.int .i64 0,.int .i64 0,.int .i64 0,.slice none 0 0,.slice none 0 0],.int .i64 E6]) (by simp[results,Tryz.results104,go_sem,z0,z1,z2,z3,z4,z5]) rfl ⟨none,0,none,0,rfl,oL rfl,oL rfl,fun _=>rfl,fun _=>rfl,(fun x hx=>by cases hx),(fun x hx=>by cases hx),aj hbw.out (by omega) _ _ _ _ _ _⟩
    ·have hfin:Hid (cZ t n key col v=E4∧cD t n key col v=⟨aG,[]⟩):=by
      have h3:cZ t n key col v=E4:=by rw[hP.out];simp[h4]
      exact ⟨h3,by rw[hT.out,h3,if_neg h4]⟩
     have heb:(E4 != 0)=true:=by simpa using h4
     clear h4
     obtain ⟨z0,z1,z2,z3,z4,z5,zf,zlt⟩:=(show Six _ _ _ _ _ _ _ _ from hF5.res)
     have hbw:Hid (Below w.heap.size w _):=hF5.hw
     go_wp2
     rw[hfin.out.1,hfin.out.2]
     exact bodyPost_ret (v:= .tuple #[.agg #[.int .i64 0,.int .i64 0,.int .i64 0,.int .i64 0,.slice none 0 0,.slice none 0 0],.int .i64 E4]) (by simp[results,Tryz.results104,go_sem,z0,z1,z2,z3,z4,z5]) rfl ⟨none,0,none,0,rfl,oL rfl,oL rfl,fun _=>rfl,fun _=>rfl,(fun x hx=>by cases hx),(fun x hx=>by cases hx),aj hbw.out (by omega) _ _ _ _ _ _⟩
   ·have hfin:Hid (cZ t n key col v=E2∧cD t n key col v=⟨aG,[]⟩):=by
     have h3:cZ t n key col v=E2:=by unfold cZ;rw[heH.out,hpl,hNF.out.2];simp[h2]
     exact ⟨h3,by unfold cD;rw[h3,if_neg h2]⟩
    have heb:(E2 != 0)=true:=by simpa using h2
    clear h2
    obtain ⟨z0,z1,z2,z3,z4,z5,zf,zlt⟩:=(show Six _ _ _ _ _ _ _ _ from hF3.res)
    have hbw:Hid (Below w.heap.size w _):=hF3.hw
    go_wp2
    rw[hfin.out.1,hfin.out.2]
    exact bodyPost_ret (v:= .tuple #[.agg #[.int .i64 0,.int .i64 0,.int .i64 0,.int .i64 0,.slice none 0 0,.slice none 0 0],.int .i64 E2]) (by simp[results,Tryz.results104,go_sem,z0,z1,z2,z3,z4,z5]) rfl ⟨none,0,none,0,rfl,oL rfl,oL rfl,fun _=>rfl,fun _=>rfl,(fun x hx=>by cases hx),(fun x hx=>by cases hx),aj hbw.out (by omega) _ _ _ _ _ _⟩
 ·have hfin:Hid (cZ t n key col v=E1∧cD t n key col v=⟨aG,[]⟩):=by
   have h2:cZ t n key col v=E1:=by unfold cZ;rw[hE1,if_pos h1]
   exact ⟨h2,by unfold cD;rw[h2,if_neg h1]⟩
  have heb:(E1 != 0)=true:=by simpa using h1
  clear h1 hE1
  obtain ⟨z0,z1,z2,z3,z4,z5,zf,zlt⟩:=(show Six _ _ _ _ _ _ _ _ from hF1.res)
  have hbw:Hid (Below w.heap.size w w1):=hF1.hw
  go_wp2
  rw[hfin.out.1,hfin.out.2]
  exact bodyPost_ret (v:= .tuple #[.agg #[.int .i64 0,.int .i64 0,.int .i64 0,.int .i64 0,.slice none 0 0,.slice none 0 0],.int .i64 E1]) (by simp[results,Tryz.results104,go_sem,z0,z1,z2,z3,z4,z5]) rfl ⟨none,0,none,0,rfl,oL rfl,oL rfl,fun _=>rfl,fun _=>rfl,(fun x hx=>by cases hx),(fun x hx=>by cases hx),aj hbw.out (by omega) _ _ _ _ _ _⟩


theorem Six.oth {w:World} {B:Nat} {u0 u1 u2 u3 u4 u5:Value} (h:Six w B u0 u1 u2 u3 u4 u5) {B' j:Nat} (u:Value) (hB:B≠B'):Six (w.setCell ⟨B',j,none⟩ u) B u0 u1 u2 u3 u4 u5:=by
 have ho:∀i,(w.setCell ⟨B',j,none⟩ u).cell? ⟨B,i,none⟩=w.cell? ⟨B,i,none⟩:=fun i=>World.cell?_setCell_other _ _ _ _ (by intro e;injection e with e1;exact hB e1.symm)
 exact ⟨(ho 0).trans h.k0,(ho 1).trans h.k1,(ho 2).trans h.k2,(ho 3).trans h.k3,(ho 4).trans h.k4,(ho 5).trans h.k5,fun i=>by simp only[World.frozen?_setCell];exact h.fz i,by simpa[World.setCell] using h.lt⟩
theorem ax.set0 {α : Type} {enc: α → List Value} {k:Nat} {w:World} {A:Option Addr} {l:List α} (h:ax enc k w A l) {B m:Nat} (u:Value) (hA:∀x,A=some x→l≠[]→x.block≠B):ax enc k (w.setCell ⟨B,m,none⟩ u) A l:=by
 by_cases h0:l=[]
 ·exact oL h0
 ·exact h.setCell u fun x hx=>hA x hx h0
theorem TabAt.oth {w:World} {B:Nat} {t:Tab} {A:Option Addr} {ca:Nat} {D:Option Addr} {cd:Nat} (h:TabAt w B t A ca D cd) {B' j:Nat} (u:Value) (hB:B≠B') (hA:∀x,A=some x→t.c.l≠[]→x.block≠B') (hD:∀x,D=some x→t.e≠[]→x.block≠B'):TabAt (w.setCell ⟨B',j,none⟩ u) B t A ca D cd:=by
 have ho:∀i,(w.setCell ⟨B',j,none⟩ u).cell? ⟨B,i,none⟩=w.cell? ⟨B,i,none⟩:=fun i=>World.cell?_setCell_other _ _ _ _ (by intro e;injection e with e1;exact hB e1.symm)
 exact ⟨(ho 0).trans h.k0,(ho 1).trans h.k1,(ho 2).trans h.k2,(ho 3).trans h.k3,(ho 4).trans h.k4,(ho 5).trans h.k5,by simpa[World.setCell] using h.lt,h.row.setCell0 _ hA,h.rowC.set0 _ hD⟩
theorem pN (a b:Ctx):(az a b).l.length≤maxLen:=by
 by_cases h:aD a b=0
 ·rw[(dT h).2.2.2.1]
  exact nT (dT h).2.2.2.2 (by decide)
 ·have:az a b=aG:=by simp[az,h]
  rw[this];decide
theorem bL {a b:Tab} (h:ak a b=0):aq a=0∧aq b=0∧dA a b=false∧aD a.c b.c=0∧(mrg a b).length≤400:=by
 unfold ak at h
 by_cases h1:aq a=0
 ·by_cases h2:aq b=0
  ·cases h3:dA a b
   ·by_cases h5:aD a.c b.c=0
    ·by_cases h6:400<(mrg a b).length
     ·simp[h1,h2,h3,h5,h6] at h
     ·exact ⟨h1,h2,rfl,h5,by omega⟩
    ·simp[h1,h2,h3,h5] at h
   ·simp[h1,h2,h3] at h
  ·simp[h1,h2] at h
 ·simp[h1] at h
theorem sY (t:Tab) (n key col v:Int):(cD t n key col v).c.l.length≤maxLen∧(cD t n key col v).e.length≤maxLen:=by
 unfold cD
 by_cases h:cZ t n key col v=0
 ·rw[if_pos h]
  exact ⟨pN _ _,show 1≤maxLen by decide⟩
 ·rw[if_neg h]
  exact ⟨by decide,by decide⟩
theorem rY (t:Tab) (key:Int):(cC t key).l.length≤maxLen:=by
 unfold cC
 by_cases h:eD t key=0
 ·rw[if_pos h]
  have h1:aq t=0:=by
   by_cases h1:aq t=0
   ·exact h1
   ·unfold eD at h
    rw[if_pos h1] at h
    exact absurd h h1
  exact jx _ (nT (dB _ _) (ag h1).2.1)
 ·rw[if_neg h];decide


def bY (b:Ctx) (node top:Int):Nat→List (Int×Int)→Int→List (Int×Int)
 | 0,l,_=>l
 | n+1,l,s=>if s≤top∧l.length≤400 then bY b node top n (if af b (node,s)=true then l else l++[(node,s)]) (s+1) else l
def bZ (b:Ctx) (node:Int) (ds l:List (Int×Int)):List (Int×Int):=ds.foldl (fun l x=>if x.1=node∧af b x=false then l++[x] else l) l
def dK (a b:Ctx) (node:Int) (l:List (Int×Int)):List (Int×Int):=bZ b node a.l (bY b node (clk a node) (clk a node-clk b node).toNat l (clk b node+1))

theorem kP {b:Ctx} {node:Int} {ds l:List (Int×Int)} {k:Nat} (h:k<ds.length) {x:Int×Int} (hx:ds[k]=x):bZ b node (ds.take (k+1)) l=if x.1=node∧af b x=false then bZ b node (ds.take k) l++[x] else bZ b node (ds.take k) l:=by
 unfold bZ
 rw[List.take_succ_eq_append_getElem h,List.foldl_append,hx]
 rfl
theorem kI {b:Ctx} {node top s:Int} {n:Nat} {l:List (Int×Int)} (h:¬(s≤top∧l.length≤400)):bY b node top n l s=l:=by
 cases n with
 | zero=>rfl
 | succ n=>simp only[bY,if_neg h]
theorem pL {b:Ctx} {node top s:Int} {l:List (Int×Int)} (h1:s≤top) (h2:l.length≤400):bY b node top (top+1-s).toNat l s=bY b node top (top+1-(s+1)).toNat (if af b (node,s)=true then l else l++[(node,s)]) (s+1):=by
 rw[show (top+1-s).toNat=(top+1-(s+1)).toNat+1 from by omega]
 simp only[bY,if_pos (And.intro h1 h2)]
theorem sN (b:Ctx) (node top:Int):∀(n:Nat) (l:List (Int×Int)) (s:Int),(bY b node top n l s).length≤max l.length 401:=by
 intro n
 induction n with
 | zero=>intro l s;simp only[bY];omega
 | succ n ih =>
  intro l s
  simp only[bY]
  split
  ·rename_i h
   have hl:(if af b (node,s)=true then l else l++[(node,s)]).length≤l.length+1:=by split<;>simp
   have:=ih (if af b (node,s)=true then l else l++[(node,s)]) (s+1)
   omega
  ·omega
theorem jF (b:Ctx) (node:Int) (ds:List (Int×Int)):∀(l:List (Int×Int)),(bZ b node ds l).length≤l.length+ds.length:=by
 induction ds with
 | nil=>intro l;simp[bZ]
 | cons x ds ih =>
  intro l
  have:=ih (if x.1=node∧af b x=false then l++[x] else l)
  have hl:(if x.1=node∧af b x=false then l++[x] else l).length≤l.length+1:=by split<;>simp
  show (bZ b node ds (if x.1=node∧af b x=false then l++[x] else l)).length≤_
  rw[List.length_cons]
  omega
theorem tI (b:Ctx) (node top:Int):∀(n:Nat) (l:List (Int×Int)) (s:Int),l.length≤(bY b node top n l s).length:=by
 intro n
 induction n with
 | zero=>intro l s;simp only[bY];omega
 | succ n ih =>
  intro l s
  simp only[bY]
  split
  ·have hl:l.length≤(if af b (node,s)=true then l else l++[(node,s)]).length:=by split<;>simp
   have:=ih (if af b (node,s)=true then l else l++[(node,s)]) (s+1)
   omega
  ·omega
theorem pg (b:Ctx) (node:Int) (ds:List (Int×Int)):∀(l:List (Int×Int)),l.length≤(bZ b node ds l).length:=by
 induction ds with
 | nil=>intro l;simp[bZ]
 | cons x ds ih =>
  intro l
  have:=ih (if x.1=node∧af b x=false then l++[x] else l)
  have hl:l.length≤(if x.1=node∧af b x=false then l++[x] else l).length:=by split<;>simp
  show _≤(bZ b node ds (if x.1=node∧af b x=false then l++[x] else l)).length
  omega
theorem tU (a b:Ctx) (node:Int) (l:List (Int×Int)):l.length≤(dK a b node l).length:=nT (tI b node _ _ l _) (pg b node a.l _)
theorem sF (a b:Ctx) (node:Int) (l:List (Int×Int)):(dK a b node l).length≤max l.length 401+a.l.length:=by
 have h1:=jF b node a.l (bY b node (clk a node) (clk a node-clk b node).toNat l (clk b node+1))
 have h2:=sN b node (clk a node) (clk a node-clk b node).toNat l (clk b node+1)
 unfold dK
 omega

theorem yl {w:World} {B:Nat} {c:Ctx} {A:Option Addr} {cap:Nat} (h:CtxAt w B c A cap) {a:Int} (h0:0≤a) (h4:a<4):w.cell? ⟨B,a.toNat,none⟩=some (.int .i64 (clk c a)):=by
 have ha:a=0∨a=1∨a=2∨a=3:=by omega
 rcases ha with rfl|rfl|rfl|rfl
 ·exact h.k0
 ·exact h.k1
 ·exact h.k2
 ·exact h.k3

theorem CtxAt.belowB {w w':World} {B:Nat} {c:Ctx} {A:Option Addr} {cap base:Nat} (h:CtxAt w B c A cap) (k:Below base w w') (hB:B<base) (hA:∀x,A=some x→c.l≠[]→x.block<base):CtxAt w' B c A cap :=
 ⟨(k.cell (p:=⟨B,0,none⟩) hB).trans h.k0,(k.cell (p:=⟨B,1,none⟩) hB).trans h.k1,(k.cell (p:=⟨B,2,none⟩) hB).trans h.k2,(k.cell (p:=⟨B,3,none⟩) hB).trans h.k3,(k.cell (p:=⟨B,4,none⟩) hB).trans h.k4,nL h.lt k.size,h.row.belowB hA k⟩

structure AM (w wr:World) (N base:Nat) (a b:Ctx) (A B:Option Addr) (ca cb:Nat) (v:Value) (l:List (Int×Int)):Prop where
 own:Own wr base v l
 ap:∀k,v.ownBlock=some k→k≠N∧k≠N+1
 ca:CtxAt wr N a A ca
 cb:CtxAt wr (N+1) b B cb
 bel:Below base w wr
 bs:base≤wr.heap.size
 ra:∀x,A=some x→a.l≠[]→x.block<base
 rb:∀x,B=some x→b.l≠[]→x.block<base

theorem AM.gr {w wr w':World} {N base:Nat} {a b:Ctx} {A B:Option Addr} {ca cb:Nat} {v:Value} {l:List (Int×Int)} (h:AM w wr N base a b A B ca cb v l) (k:Gr wr w'):AM w w' N base a b A B ca cb v l :=
 ⟨h.own.gr k,h.ap,h.ca.gr k,h.cb.gr k,h.bel.trans (k.below.mono h.bs),nT h.bs k.size,h.ra,h.rb⟩

theorem CtxAt.grown {w w':World} {B:Nat} {c:Ctx} {A:Option Addr} {cap:Nat} {row:Option Nat} {base:Nat} (h:CtxAt w B c A cap) (hg:w.grownBy w' row) (hB:some B≠row) (hb:Below base w w') (hA:∀x,A=some x→c.l≠[]→x.block<base):CtxAt w' B c A cap :=
 ⟨hg.cell h.k0 hB,hg.cell h.k1 hB,hg.cell h.k2 hB,hg.cell h.k3 hB,hg.cell h.k4 hB,nL h.lt hg.size,h.row.belowB hA hb⟩

theorem AM.append {w wr w0 w1:World} {N base:Nat} {a b:Ctx} {A B:Option Addr} {ca cb:Nat} {v v':Value} {l m:List (Int×Int)} (h:AM w wr N base a b A B ca cb v l) (k:Gr wr w0) (ho:Own w1 base v' m) (hg:w0.grownBy w1 v.ownBlock) {H:Nat} (hH:w0.heap.size=H) (hat:v'.ownBlock=v.ownBlock∨v'.ownBlock=some H):AM w w1 N base a b A B ca cb v' m:=by
 subst hH
 have h0:=h.gr k
 have hb:=h0.own.grown_below hg h0.bs
 refine ⟨ho,?_,h0.ca.grown hg (fun e=>(h0.ap N e.symm).1 rfl) hb h0.ra,h0.cb.grown hg (fun e=>(h0.ap (N+1) e.symm).2 rfl) hb h0.rb,h0.bel.trans hb,nT h0.bs hg.size,h.ra,h.rb⟩
 intro j hj
 rcases hat with hat|hat
 ·exact h.ap j (by rw[←hat];exact hj)
 ·rw[hat] at hj
  injection hj with hj
  have:=h0.ca.lt
  have:=h0.cb.lt
  omega


theorem mv {c:Ctx} {A:Option Addr} {cap:Nat} {x y:Int} {r:Bool} {w:World} (hx:af c (x,y)=r) (hl:c.l.length≤maxLen) (hr:Row w A c.l) :
  Calls Tryz.prog 66 #[.agg #[.int .i64 c.c0,.int .i64 c.c1,.int .i64 c.c2,.int .i64 c.c3,.slice A c.l.length cap],.agg #[.int .i64 x,.int .i64 y]] w fun e w'=>e= .returned (.bool r)∧Gr w w':=by
 rw[←hx];exact jf c A cap (x,y) w hl hr

theorem ot (a b:Ctx) (A B:Option Addr) (ca cb:Nat) (v:Value) (l:List (Int×Int)) (node:Int) (base:Nat) (w:World) (h0:0≤node) (h4:node<4) (hoa:bu a=true) (hob:bu b=true) (hal:a.l.length≤400) (hbl:b.l.length≤400) (hll:l.length≤2000)
  (hra:Row w A a.l) (hrb:Row w B b.l) (hAb:∀x,A=some x→a.l≠[]→x.block<base) (hBb:∀x,B=some x→b.l≠[]→x.block<base) (hov:Own w base v l) (hbs:base≤w.heap.size) :
  Calls Tryz.prog 220 #[v,.agg #[.int .i64 a.c0,.int .i64 a.c1,.int .i64 a.c2,.int .i64 a.c3,.slice A a.l.length ca],.agg #[.int .i64 b.c0,.int .i64 b.c1,.int .i64 b.c2,.int .i64 b.c3,.slice B b.l.length cb],.int .i64 node] w fun e w'=>∃v',e= .returned v'∧Own w' base v' (dK a b node l)∧Below base w w':=by
 have hca:=ch hoa node h0 h4
 have hcb:=ch hob node h0 h4
 have hg0:Gr w ((w.alloc (.cells #[.int .i64 a.c0,.int .i64 a.c1,.int .i64 a.c2,.int .i64 a.c3,.slice A a.l.length ca] 38)).alloc (.cells #[.int .i64 b.c0,.int .i64 b.c1,.int .i64 b.c2,.int .i64 b.c3,.slice B b.l.length cb] 38)):=((gR w).alloc _).alloc _
 have hAM0:AM w ((w.alloc (.cells #[.int .i64 a.c0,.int .i64 a.c1,.int .i64 a.c2,.int .i64 a.c3,.slice A a.l.length ca] 38)).alloc (.cells #[.int .i64 b.c0,.int .i64 b.c1,.int .i64 b.c2,.int .i64 b.c3,.slice B b.l.length cb] 38)) w.heap.size base a b A B ca cb v l:=⟨hov.gr hg0,fun k hk=>by have:=(hov.lt k hk).2;omega,(CtxAt.new 38 hra rfl).gr ((gR _).alloc _),CtxAt.new 38 (hrb.gr ((gR _).alloc _)) (by simp),hg0.below.mono hbs,nT hbs hg0.size,hAb,hBb⟩
 have hbM:Hid (b.l.length≤maxLen):=by show _≤_;unfold maxLen;omega
 have k0:=hAM0.ca.k4
 have kc0:=aa (gJ (gR ((w.alloc (.cells #[.int .i64 a.c0,.int .i64 a.c1,.int .i64 a.c2,.int .i64 a.c3,.slice A a.l.length ca] 38)).alloc (.cells #[.int .i64 b.c0,.int .i64 b.c1,.int .i64 b.c2,.int .i64 b.c3,.slice B b.l.length cb] 38)))) (ie (c:=a) h0 h4)
 have kd0:=lX (gR ((w.alloc (.cells #[.int .i64 a.c0,.int .i64 a.c1,.int .i64 a.c2,.int .i64 a.c3,.slice A a.l.length ca] 38)).alloc (.cells #[.int .i64 b.c0,.int .i64 b.c1,.int .i64 b.c2,.int .i64 b.c3,.slice B b.l.length cb] 38))) (ie (c:=b) h0 h4)
 clear hov hra hrb
 obtain ⟨A0,cap0,rfl,_,_,_⟩:=hAM0.own.row
 go_enter Tryz.func220,Tryz.ntmps220
 go_wp2
 clear k0 kc0 kd0
 go_loopw [0,9] (fun v s wr=>∃(V:Value) (m:List (Int×Int)) (t:Int),v=V∧s= .int .i64 t∧clk b node+1≤t∧t≤1099511627777∧m.length≤2001∧AM w wr w.heap.size base a b A B ca cb V m∧Hid (bY b node (clk a node) (clk a node+1-t).toNat m t=bY b node (clk a node) (clk a node-clk b node).toNat l (clk b node+1))) (fun _ s _=>(clk a node+1-intOf s).toNat)
 case atStart=>exact ⟨_,l,clk b node+1,rfl,rfl,Int.le_refl _,by omega,by omega,hAM0,by show bY _ _ _ _ _ _=_;congr 1;omega⟩
 case round =>
  obtain ⟨V,m,t,rfl,rfl,ht1,ht2,hml,hAM,hmi⟩:=hrel
  obtain ⟨A1,cap1,rfl,hA1,_,_⟩:=hAM.own.row
  have kc:=hAM.ca.k4
  have ka:wr.cell? ⟨w.heap.size,node.toNat,none⟩=some (.int .i64 (clk a node)):=yl hAM.ca h0 h4
  by_cases hs:t≤clk a node
  ·by_cases hl4:m.length≤400
   ·have hl4z:(m.length:Int)≤400:=by omega
    have hst:=pL (b:=b) (node:=node) hs hl4
    have hgD:Gr wr (wr.alloc (.cells #[.int .i64 node,.int .i64 t] 95)):=(gR _).alloc _
    obtain ⟨b0,b1,b2,b3,b4,blt,brow⟩:=(show CtxAt _ _ _ _ _ from hAM.cb)
    cases hh:af b (node,t)
    ·rw[hh] at hst
     simp only[Bool.false_eq_true,if_false] at hst
     have hnx:Hid (bY b node (clk a node) (clk a node+1-(t+1)).toNat (m++[(node,t)]) (t+1)=bY b node (clk a node) (clk a node-clk b node).toNat l (clk b node+1)):=hst.symm.trans hmi.out
     clear hst
     have hbd:Hid ((m.length+[(node,t)].length)*16≤140737488355328):=by show _≤_;simp only[List.length_cons,List.length_nil];omega
     go_wp2_with (first|(go_at_call 66;refine (mv hh hbM.out (brow.gr hgD)).mono ?_;rintro e w1 ⟨rfl,hg1⟩;have hd0:=(hg1.cell (p:=⟨wr.heap.size,0,none⟩) (by simp)).trans (aa (gR (wr.alloc (.cells #[.int .i64 node,.int .i64 t] 95))) (j:=0) rfl);have hd1:=(hg1.cell (p:=⟨wr.heap.size,1,none⟩) (by simp)).trans (aa (gR (wr.alloc (.cells #[.int .i64 node,.int .i64 t] 95))) (j:=1) rfl))|(at_builtin;refine aE _ rfl (.tmp 38) (.tmp 40) rfl base (.slice A1 m.length cap1) m [(node,t)] (some ⟨w1.heap.size,0,none⟩) 1 rfl rfl ?ho ?hr (fun h=>by cases h) hbd.out ?hs ?_))
     case ho=>exact (hAM.gr ((hgD.trans hg1).alloc _)).own
     case hr=>exact gE rfl node t _
     case hs=>exact (hAM.gr ((hgD.trans hg1).alloc _)).bs
     intro v1 w2 hown1 hgr1 hat1
     have hAM2:Hid (AM w w2 w.heap.size base a b A B ca cb v1 (m++[(node,t)])):=hAM.append ((hgD.trans hg1).alloc _) hown1 hgr1 (by simp) hat1
     clear hown1 hgr1 hat1 hd0 hd1 hAM
     go_wp2
     go_roundw
     case rel=>exact ⟨v1,m++[(node,t)],t+1,rfl,by go_num,by omega,by omega,by simp only[List.length_append,List.length_cons,List.length_nil];omega,hAM2.out,hnx⟩
     case measure=>simp[intOf];omega
    ·rw[hh] at hst
     simp only[if_true] at hst
     have hnx:Hid (bY b node (clk a node) (clk a node+1-(t+1)).toNat m (t+1)=bY b node (clk a node) (clk a node-clk b node).toNat l (clk b node+1)):=hst.symm.trans hmi.out
     clear hst
     go_wp2_with (go_at_call 66;refine (mv hh hbM.out (brow.gr hgD)).mono ?_;rintro e w1 ⟨rfl,hg1⟩)
     go_roundw
     case rel=>exact ⟨_,m,t+1,rfl,by go_num,by omega,by omega,hml,hAM.gr (hgD.trans hg1),hnx⟩
     case measure=>simp[intOf];omega
   ·have hl4z:¬(m.length:Int)≤400:=by omega
    have hstop:¬(t≤clk a node∧m.length≤400):=fun h=>hl4 h.2
    have hmm:Hid (dK a b node l=bZ b node a.l m):=by
     show dK a b node l=_
     unfold dK
     rw[←hmi.out,kI hstop]
    clear hmi hstop
    obtain ⟨b0,b1,b2,b3,b4,blt,brow⟩:=(show CtxAt _ _ _ _ _ from hAM.cb)
    go_wp2
    clear kc ka b0 b1 b2 b3 b4 blt brow
    go_loopw [0,45] (fun v i wi=>∃(V:Value) (k:Nat),v=V∧k≤a.l.length∧i= .int .i64 k∧AM w wi w.heap.size base a b A B ca cb V (bZ b node (a.l.take k) m)) (fun _ i _=>a.l.length-(intOf i).toNat)
    case atStart=>exact ⟨_,0,rfl,nZ _,rfl,hAM⟩
    case round =>
     clear hAM
     rename World=>wi
     obtain ⟨V,k,rfl,hk,rfl,hAM⟩:=hrel
     have hln:=jF b node (a.l.take k) m
     have hlt2:(a.l.take k).length≤k:=List.length_take_le _ _
     obtain ⟨M,hM⟩:∃M,bZ b node (a.l.take k) m=M:=⟨_,rfl⟩
     rw[hM] at hAM hln
     have HM:Hid (bZ b node (a.l.take k) m=M):=hM
     clear hM
     obtain ⟨A2,cap2,rfl,hA2,_,_⟩:=hAM.own.row
     by_cases hlt:k<a.l.length
     ·have hltz:(k:Int)<(a.l.length:Int):=by omega
      obtain ⟨bb,off,rfl,hbb,hcs⟩:=hAM.ca.row.at hlt
      obtain ⟨x,y,hx⟩:∃x y,a.l[k]=(x,y):=⟨_,_,rfl⟩
      have e0:=(hcs k hlt).1
      have e1:=(hcs k hlt).2
      rw[hx] at e0 e1
      have hst:=kP (b:=b) (node:=node) (l:=m) hlt hx
      rw[HM.out] at hst
      simp only at hst
      clear hcs hx
      have hgD:Gr wi (wi.alloc (.cells #[.int .i64 x,.int .i64 y] 95)):=(gR _).alloc _
      obtain ⟨b0,b1,b2,b3,b4,blt,brow⟩:=(show CtxAt _ _ _ _ _ from hAM.cb)
      by_cases hxn:x=node
      ·subst hxn
       cases hh:af b (x,y)
       ·have hst2:Hid (bZ b x (a.l.take (k+1)) m=M++[(x,y)]):=by show _=_;rw[hst,if_pos ⟨rfl,hh⟩]
        have hbd:Hid ((M.length+[(x,y)].length)*16≤140737488355328):=by show _≤_;simp only[List.length_cons,List.length_nil];omega
        clear hst
        go_wp2_with (first|(go_at_call 66;refine (mv hh hbM.out (brow.gr hgD)).mono ?_;rintro e w1 ⟨rfl,hg1⟩;have hd0:=(hg1.cell (p:=⟨wi.heap.size,0,none⟩) (by simp)).trans (aa (gR (wi.alloc (.cells #[.int .i64 x,.int .i64 y] 95))) (j:=0) rfl);have hd1:=(hg1.cell (p:=⟨wi.heap.size,1,none⟩) (by simp)).trans (aa (gR (wi.alloc (.cells #[.int .i64 x,.int .i64 y] 95))) (j:=1) rfl))|(at_builtin;refine aE _ rfl (.tmp 59) (.tmp 61) rfl base (.slice A2 M.length cap2) M [(x,y)] (some ⟨w1.heap.size,0,none⟩) 1 rfl rfl ?ho ?hr (fun h=>by cases h) hbd.out ?hs ?_))
        case ho=>exact (hAM.gr ((hgD.trans hg1).alloc _)).own
        case hr=>exact gE rfl x y _
        case hs=>exact (hAM.gr ((hgD.trans hg1).alloc _)).bs
        intro v1 w2 hown1 hgr1 hat1
        have hAM2:Hid (AM w w2 w.heap.size base a b (some ⟨bb,off,none⟩) B ca cb v1 (M++[(x,y)])):=hAM.append ((hgD.trans hg1).alloc _) hown1 hgr1 (by simp) hat1
        clear hown1 hgr1 hat1 hd0 hd1 hAM
        go_wp2
        go_roundw
        case rel=>exact ⟨v1,k+1,rfl,by omega,by go_num,by rw[hst2.out];exact hAM2.out⟩
        case measure=>simp[intOf];omega
       ·have hst2:Hid (bZ b x (a.l.take (k+1)) m=M):=by show _=_;rw[hst,if_neg (by rw[hh];simp)]
        clear hst
        go_wp2_with (go_at_call 66;refine (mv hh hbM.out (brow.gr hgD)).mono ?_;rintro e w1 ⟨rfl,hg1⟩)
        go_roundw
        case rel=>exact ⟨_,k+1,rfl,by omega,by go_num,by rw[hst2.out];exact hAM.gr (hgD.trans hg1)⟩
        case measure=>simp[intOf];omega
      ·have hst2:Hid (bZ b node (a.l.take (k+1)) m=M):=by show _=_;rw[hst,if_neg (fun h=>hxn h.1)]
       have hxb:(x==node)=false:=by simpa using hxn
       clear hst hxn
       go_wp2
       go_roundw
       case rel=>exact ⟨_,k+1,rfl,by omega,by go_num,by rw[hst2.out];exact hAM.gr hgD⟩
       case measure=>simp[intOf];omega
     ·have hltz:¬(k:Int)<(a.l.length:Int):=by omega
      have hke:a.l.take k=a.l:=List.take_of_length_le (by omega)
      have hfin:Hid (dK a b node l=M):=by
       have h1:=HM.out
       rw[hke] at h1
       exact hmm.out.trans h1
      clear hke HM
      go_wp2
      go_ret
      rw[hfin.out]
      exact ⟨_,rfl,hAM.own,hAM.bel⟩
  ·have hsb:decide (t≤clk a node)=false:=by simpa using hs
   have hstop:¬(t≤clk a node∧m.length≤400):=fun h=>hs h.1
   have hmm:Hid (dK a b node l=bZ b node a.l m):=by
    show dK a b node l=_
    unfold dK
    rw[←hmi.out,kI hstop]
   clear hmi hstop
   obtain ⟨b0,b1,b2,b3,b4,blt,brow⟩:=(show CtxAt _ _ _ _ _ from hAM.cb)
   go_wp2
   clear kc ka b0 b1 b2 b3 b4 blt brow
   go_loopw [0,45] (fun v i wi=>∃(V:Value) (k:Nat),v=V∧k≤a.l.length∧i= .int .i64 k∧AM w wi w.heap.size base a b A B ca cb V (bZ b node (a.l.take k) m)) (fun _ i _=>a.l.length-(intOf i).toNat)
   case atStart=>exact ⟨_,0,rfl,nZ _,rfl,hAM⟩
   case round =>
    clear hAM
    rename World=>wi
    obtain ⟨V,k,rfl,hk,rfl,hAM⟩:=hrel
    have hln:=jF b node (a.l.take k) m
    have hlt2:(a.l.take k).length≤k:=List.length_take_le _ _
    obtain ⟨M,hM⟩:∃M,bZ b node (a.l.take k) m=M:=⟨_,rfl⟩
    rw[hM] at hAM hln
    have HM:Hid (bZ b node (a.l.take k) m=M):=hM
    clear hM
    obtain ⟨A2,cap2,rfl,hA2,_,_⟩:=hAM.own.row
    by_cases hlt:k<a.l.length
    ·have hltz:(k:Int)<(a.l.length:Int):=by omega
     obtain ⟨bb,off,rfl,hbb,hcs⟩:=hAM.ca.row.at hlt
     obtain ⟨x,y,hx⟩:∃x y,a.l[k]=(x,y):=⟨_,_,rfl⟩
     have e0:=(hcs k hlt).1
     have e1:=(hcs k hlt).2
     rw[hx] at e0 e1
     have hst:=kP (b:=b) (node:=node) (l:=m) hlt hx
     rw[HM.out] at hst
     simp only at hst
     clear hcs hx
     have hgD:Gr wi (wi.alloc (.cells #[.int .i64 x,.int .i64 y] 95)):=(gR _).alloc _
     obtain ⟨b0,b1,b2,b3,b4,blt,brow⟩:=(show CtxAt _ _ _ _ _ from hAM.cb)
     by_cases hxn:x=node
     ·subst hxn
      cases hh:af b (x,y)
      ·have hst2:Hid (bZ b x (a.l.take (k+1)) m=M++[(x,y)]):=by show _=_;rw[hst,if_pos ⟨rfl,hh⟩]
       have hbd:Hid ((M.length+[(x,y)].length)*16≤140737488355328):=by show _≤_;simp only[List.length_cons,List.length_nil];omega
       clear hst
       go_wp2_with (first|(go_at_call 66;refine (mv hh hbM.out (brow.gr hgD)).mono ?_;rintro e w1 ⟨rfl,hg1⟩;have hd0:=(hg1.cell (p:=⟨wi.heap.size,0,none⟩) (by simp)).trans (aa (gR (wi.alloc (.cells #[.int .i64 x,.int .i64 y] 95))) (j:=0) rfl);have hd1:=(hg1.cell (p:=⟨wi.heap.size,1,none⟩) (by simp)).trans (aa (gR (wi.alloc (.cells #[.int .i64 x,.int .i64 y] 95))) (j:=1) rfl))|(at_builtin;refine aE _ rfl (.tmp 59) (.tmp 61) rfl base (.slice A2 M.length cap2) M [(x,y)] (some ⟨w1.heap.size,0,none⟩) 1 rfl rfl ?ho ?hr (fun h=>by cases h) hbd.out ?hs ?_))
       case ho=>exact (hAM.gr ((hgD.trans hg1).alloc _)).own
       case hr=>exact gE rfl x y _
       case hs=>exact (hAM.gr ((hgD.trans hg1).alloc _)).bs
       intro v1 w2 hown1 hgr1 hat1
       have hAM2:Hid (AM w w2 w.heap.size base a b (some ⟨bb,off,none⟩) B ca cb v1 (M++[(x,y)])):=hAM.append ((hgD.trans hg1).alloc _) hown1 hgr1 (by simp) hat1
       clear hown1 hgr1 hat1 hd0 hd1 hAM
       go_wp2
       go_roundw
       case rel=>exact ⟨v1,k+1,rfl,by omega,by go_num,by rw[hst2.out];exact hAM2.out⟩
       case measure=>simp[intOf];omega
      ·have hst2:Hid (bZ b x (a.l.take (k+1)) m=M):=by show _=_;rw[hst,if_neg (by rw[hh];simp)]
       clear hst
       go_wp2_with (go_at_call 66;refine (mv hh hbM.out (brow.gr hgD)).mono ?_;rintro e w1 ⟨rfl,hg1⟩)
       go_roundw
       case rel=>exact ⟨_,k+1,rfl,by omega,by go_num,by rw[hst2.out];exact hAM.gr (hgD.trans hg1)⟩
       case measure=>simp[intOf];omega
     ·have hst2:Hid (bZ b node (a.l.take (k+1)) m=M):=by show _=_;rw[hst,if_neg (fun h=>hxn h.1)]
      have hxb:(x==node)=false:=by simpa using hxn
      clear hst hxn
      go_wp2
      go_roundw
      case rel=>exact ⟨_,k+1,rfl,by omega,by go_num,by rw[hst2.out];exact hAM.gr hgD⟩
      case measure=>simp[intOf];omega
    ·have hltz:¬(k:Int)<(a.l.length:Int):=by omega
     have hke:a.l.take k=a.l:=List.take_of_length_le (by omega)
     have hfin:Hid (dK a b node l=M):=by
      have h1:=HM.out
      rw[hke] at h1
      exact hmm.out.trans h1
     clear hke HM
     go_wp2
     go_ret
     rw[hfin.out]
     exact ⟨_,rfl,hAM.own,hAM.bel⟩


def bn (a b:Ctx):Nat→List (Int×Int)
 | 0=>[]
 | k+1=>dK a b k (bn a b k)
theorem gL (a b:Ctx) (k:Nat):(bn a b k).length≤(bn a b (k+1)).length:=tU a b k (bn a b k)
theorem rJ (a b:Ctx) (k:Nat):(bn a b (k+1)).length≤max (bn a b k).length 401+a.l.length:=sF a b k (bn a b k)

def fD (a b:Ctx):Int:=if 400<(bn a b 4).length then 2 else 0
def gj (a b:Ctx):List (Int×Int):=if 400<(bn a b 4).length then [] else bn a b 4

theorem qE {a b:Ctx} {k:Nat} (hk:k≤4) (h:400<(bn a b k).length):fD a b=2∧gj a b=[]:=by
 have h4:400<(bn a b 4).length:=by
  have h1:(bn a b 0).length≤(bn a b 1).length:=gL a b 0
  have h2:(bn a b 1).length≤(bn a b 2).length:=gL a b 1
  have h3:(bn a b 2).length≤(bn a b 3).length:=gL a b 2
  have h5:(bn a b 3).length≤(bn a b 4).length:=gL a b 3
  have hk':k=0∨k=1∨k=2∨k=3∨k=4:=by omega
  rcases hk' with rfl|rfl|rfl|rfl|rfl<;>omega
 exact ⟨by unfold fD;rw[if_pos h4],by unfold gj;rw[if_pos h4]⟩

end Go.Proofs.YtckeonpnfankhaaGreatDoor
