/-
  (*Net).take: a packet comes to whom it is for.
  query.Parse: the query of a text; what it answers, to the line.
  (*Net).watch: a node has a view of a query's text.
  (*Net).Do: what happens in a net.
-/
import Derived.Test.YtkefkplnamkicaaGreatDoorM39
set_option maxRecDepth 100000
set_option maxHeartbeats 8000000
open Go.Ending renaming returned → O
open Go.IntKind renaming i64 → I
open Go.Obj renaming cells → Y
open Go.Proofs.Tryz renaming prog → S
open Go.Value renaming int → V, slice → J, pointer → Z, string → H, bool → X, tuple → U
namespace Go.Proofs.YtkefkplnamkicaaGreatDoor
open Go.RowKit Go.Sort

theorem yk {w:World} {B:Nat} {P:Nat→Prop} {M:NetM} {Q:Nat→List (List Stp)} (h:NetP w B P M Q) (n:Int) (hn:n<0∨(M.pk.length:Int)≤n) :
  Calls S 31 #[Z (some ⟨B,0,none⟩),V I n] w fun e w'=>e= O (V I 4)∧w'=w:=by
 obtain ⟨L,A,c,hp⟩:=h.pk
 have hc:=hp.cel
 have hl:L.length=M.pk.length:=by rw[←hp.eq,List.length_map]
 rw[←hl] at hn
 clear h hp hl
 by_cases h0:n<0
 ·go_enter Tryz.func31,Tryz.ntmps31
  go_wp2
  go_ret
  exact ⟨rfl,rfl⟩
 ·have h1:(L.length:Int)≤n:=by omega
  clear hn
  go_enter Tryz.func31,Tryz.ntmps31
  go_wp2
  go_ret
  exact ⟨rfl,rfl⟩
theorem vD {w:World} {B:Nat} {P:Nat→Prop} {M:NetM} {Q:Nat→List (List Stp)} (h:NetP w B P M Q) (n:Nat) {q:Nat×Tab×Tab} (hn:M.pk[n]? = some q) :
  Calls S 31 #[Z (some ⟨B,0,none⟩),V I n] w fun e w'=>e= O (V I (dW (M.s q.1) (M.t q.1) q.2.1 q.2.2))∧bk w B P w' (f9 M q.1 q.2.1 q.2.2) Q:=by
 have mixed:Tryz.prog.follows .mixedOrders=true:=by kernel_rfl
 obtain ⟨L,A,c,hp⟩:=h.pk
 have hc:=hp.cel
 obtain ⟨p,hp1,hp2⟩:∃p,L[n]? = some p∧p.m=q:=by
  rw[←hp.eq,List.getElem?_map] at hn
  cases e:L[n]? with
  | none=>rw[e] at hn;cases hn
  | some p=>rw[e] at hn;exact ⟨p,rfl,by simpa using hn⟩
 subst hp2
 obtain ⟨hnl,hpe⟩:=List.getElem?_eq_some_iff.1 hp1
 obtain ⟨hto,hta,htb⟩:=hp.each p (List.mem_of_getElem? hp1)
 obtain ⟨bb,off,hA,hbb,hcl⟩:=hp.row.at hnl
 subst hA
 have hcl:=hcl n hnl
 rw[hpe] at hcl
 have c0:=hcl 0 (by omega)
 have c1:=hcl 1 (by omega)
 have c2:=hcl 2 (by omega)
 have c3:=hcl 3 (by omega)
 have c4:=hcl 4 (by omega)
 have c5:=hcl 5 (by omega)
 have c6:=hcl 6 (by omega)
 have c7:=hcl 7 (by omega)
 have c8:=hcl 8 (by omega)
 have c9:=hcl 9 (by omega)
 have c10:=hcl 10 (by omega)
 have c11:=hcl 11 (by omega)
 have c12:=hcl 12 (by omega)
 simp only[fq,z0',zS,Nat.add_zero] at c0 c1 c2 c3 c4 c5 c6 c7 c8 c9 c10 c11 c12
 have h0:¬(n:Int)<0:=by omega
 have h1:¬(L.length:Int)≤(n:Int):=by omega
 have hto4:(p.tg:Int)<4:=by omega
 obtain ⟨w1,hw1⟩:∃W,w.alloc (Y #[V I (p.tg:Int),V I p.a.c.c0,V I p.a.c.c1,V I p.a.c.c2,V I p.a.c.c3,J p.A p.a.c.l.length p.ca,J p.C p.a.e.length p.cc,V I p.b.c.c0,V I p.b.c.c1,V I p.b.c.c2,V I p.b.c.c3,J p.B p.b.c.l.length p.cb,J p.D p.b.e.length p.cd] 124)=W:=⟨_,rfl⟩
 have hg1:Gr w w1:=by rw[←hw1];exact (gR w).alloc _
 have hBx:Hid (Cls w1 w.heap.size [V I (p.tg:Int),V I p.a.c.c0,V I p.a.c.c1,V I p.a.c.c2,V I p.a.c.c3,J p.A p.a.c.l.length p.ca,J p.C p.a.e.length p.cc,V I p.b.c.c0,V I p.b.c.c1,V I p.b.c.c2,V I p.b.c.c3,J p.B p.b.c.l.length p.cb,J p.D p.b.e.length p.cd]):=by show Cls _ _ _;rw[←hw1];exact Cls.new w _ _
 obtain ⟨E,hE⟩:∃E,dW (M.s p.m.1) (M.t p.m.1) p.m.2.1 p.m.2.2=E:=⟨_,rfl⟩
 have hD:Hid (∀W,Gr w1 W→Calls S 54 #[Z (some ⟨B,p.tg*38,none⟩),.agg (T2 p.a p.A p.ca p.C p.cc p.b p.B p.cb p.D p.cd).toArray] W fun e w'=>e= O (V I E)∧bk w B P w' (f9 M p.m.1 p.m.2.1 p.m.2.2) Q):=fun W hW=>by
  have hgW:=hg1.trans hW
  have hn:=h.below hgW.below
  have ha:=hta.below hgW.below
  have hb:=htb.below hgW.below
  have hd:=rJ (hn.nd p.tg hto) p.a p.b p.A p.B p.C p.D p.ca p.cb p.cc p.cd ha.row ha.cel hb.row hb.cel ha.len.1 ha.len.2 hb.len.1 hb.len.2 ha.nr hb.nr
  rw[show tkE (M.s p.tg) (M.t p.tg) p.a p.b=E from hE] at hd
  refine hd.mono ?_
  rintro e w' ⟨rfl,f1,f2⟩
  refine ⟨rfl,bk.ahead hgW.below h.lt ?_⟩
  have hc:=hn.call hto f1 f2 (by omega)
  rw[iX] at hc
  exact hc
 rw[hE]
 clear h hg1 hE hp hn hp1 hnl hpe hto hta htb hbb hcl
 go_enter Tryz.func31,Tryz.ntmps31
 go_upto_region 4 with fail
 try rw[hw1]
 clear hw1 hc c0 c1 c2 c3 c4 c5 c6 c7 c8 c9 c10 c11 c12
 obtain ⟨b0,b1,b2,b3,b4,b5,b6,b7,b8,b9,b10,b11,b12⟩:=AQ hBx.out
 go_region_with (go_at_call 54;refine cM (hD.out _ (gR _).drew) ?_;rintro e w3 ⟨rfl,f1⟩;have hF:Hid _:=f1;clear f1)
 all_goals
  go_wp2
  go_ret
  exact ⟨rfl,hF.out⟩

theorem zJ {W:World} {n:Nat} (hn:W.heap.size=n) (s:Stp) (T:TypeId):au jj 7 (W.alloc (Y #[V I s.k,V I s.a,V I s.b,V I s.c,V I s.o,V I s.v,J s.p s.l.length s.n] T)) (some ⟨n,0,none⟩) [s]:=by
 subst hn
 refine oR ⟨W.heap.size,0,rfl,by simp,fun j hj i hi=> ?_⟩
 obtain rfl:j=0:=by simp at hj;omega
 have hh:i=0∨i=1∨i=2∨i=3∨i=4∨i=5∨i=6:=by omega
 rcases hh with rfl|rfl|rfl|rfl|rfl|rfl|rfl
 ·exact ab (w:=W) (gR _) (j:=0) rfl
 ·exact ab (w:=W) (gR _) (j:=1) rfl
 ·exact ab (w:=W) (gR _) (j:=2) rfl
 ·exact ab (w:=W) (gR _) (j:=3) rfl
 ·exact ab (w:=W) (gR _) (j:=4) rfl
 ·exact ab (w:=W) (gR _) (j:=5) rfl
 ·exact ab (w:=W) (gR _) (j:=6) rfl
theorem NwQ.none (n:Nat):NwQ n none []:=⟨fun a ha=>(by cases ha),fun s hs=>(by cases hs)⟩
def BR:Value→Nat
 | H b=>b.size
 | _=>0
theorem tm {a r:List UInt8} (h:(10:UInt8) ∉ a):gm (a++10::r)=match fY a with
  | none=>none
  | some s=>(gm r).map (s :: ·):=by
 unfold gm
 rw[fl _ _ h]
 cases e:aH 10 r with
 | nil=>exact absurd e (gl _ _)
 | cons y t =>
  rw[io]
  cases fY a with
  | none=>rfl
  | some s=>cases io (y::t)<;>rfl
def Pre (x y:List UInt8) (q0:List Stp):Prop:=gm x=(gm y).map (q0++ ·)
theorem Pre.next {x a r:List UInt8} {q0:List Stp} {s:Stp} (h:Pre x (a++10::r) q0) (ha:(10:UInt8) ∉ a) (hs:fY a=some s):Pre x r (q0++[s]):=by
 unfold Pre at h ⊢
 rw[h,tm ha,hs]
 cases gm r<;>simp
def eC (x:List UInt8) (q:List Stp) (er:Int):Prop :=
 (er=0∧x.length≤1024∧(∃q0,gm x=some q0∧q.map clr=q0.map clr)∧bV q=0) ∨
 (er≠0∧q=[]∧(1024<x.length∨gm x=none∨∃q0 q1,gm x=some q0∧q1.map clr=q0.map clr∧bV q1≠0))
def jW:List (List UInt8)→Nat→Nat
 | [],_=>0
 | [y],k=>if y=[] then 0 else k
 | p::r::t,k=>match fY p with
  | none=>k
  | some _=>jW (r::t) (k+1)
theorem kN {p:List UInt8} {t:List (List UInt8)} (h:t≠[]) {k:Nat}:jW (p::t) k=match fY p with
  | none=>k
  | some _=>jW t (k+1):=by
 cases t with
 | nil=>exact absurd rfl h
 | cons r t=>rfl
def nX (x:List UInt8) (q:List Stp) (k er:Int):Prop :=
 (1024<x.length∧q=[]∧k=0∧er=2) ∨
 (x.length≤1024∧jW (aH 10 x) 1≠0∧q=[]∧k=(jW (aH 10 x) 1:Nat)∧er=3) ∨
 (x.length≤1024∧jW (aH 10 x) 1=0∧∃q0 q1,gm x=some q0∧q1.map clr=q0.map clr∧k=0∧er=bV q1∧(er=0→q=q1)∧(er≠0→q=[]))
theorem mQ (x:List UInt8) (w:World) (hr:Reads w) (hx0:x.length≤maxLen):Calls S 21 #[H ⟨x.toArray⟩] w fun e w'=>(∃A cap q k er,e= O (U #[J A q.length cap,V I k,V I er])∧0≤k∧Stps w' A q∧NwQ w.heap.size A q∧q.length≤1024∧nX x q k er)∧Below w.heap.size w w':=by
 have hx:x.length≤9223372036854775807:=by unfold maxLen at hx0;exact hx0
 go_enter Tryz.func21,Tryz.ntmps21
 by_cases hL:1024<x.length
 ·have hLz:(1024:Int)<(x.length:Int):=by omega
  go_wp2
  go_ret3
  exact ⟨⟨none,0,[],0,2,rfl,by decide,⟨oL rfl,fun s hs=>by cases hs⟩,NwQ.none _,by simp,oL ⟨hL,rfl,rfl,rfl⟩⟩,bR _ _⟩
 have hLz:¬(1024:Int)<(x.length:Int):=by omega
 go_wp2
 go_loopw [0,5,6] (fun s v i wr=>∃(y:List UInt8) (q q0:List Stp),s= H ⟨y.toArray⟩∧i= V I ((q.length:Int)+1)∧q.length+y.length≤1024∧Hid (OwnS wr w.heap.size v q∧Below w.heap.size w wr∧q.map clr=q0.map clr∧Pre x y q0∧jW (aH 10 x) 1=jW (aH 10 y) (q.length+1))) (fun s _ _ _=>BR s)
 case atStart=>exact ⟨x,[],[],rfl,rfl,by simp;omega,OwnS.nil _ _,bR _ _,rfl,by unfold Pre;cases gm x<;>rfl,rfl⟩
 case round =>
  obtain ⟨y,q,q0,rfl,rfl,hyl,hov⟩:=hrel
  by_cases hy:y=[]
  ·subst hy
   obtain ⟨A,cap,hvA,hA,hst⟩:=OwnS.stps hov.out.1
   subst hvA
   have hnw:=OwnS.nw hov.out.1
   have hck:=lT q A cap wr (by unfold maxLen;simp at hyl;omega) hst
   have hckH:Hid _:=hck
   have htx:Hid (gm x=some q0):=by
    have:=hov.out.2.2.2.1
    unfold Pre at this
    show _=_
    rw[this]
    simp[gm,aH,io]
   have hsc:Hid (jW (aH 10 x) 1=0):=by show _=_;rw[hov.out.2.2.2.2];rfl
   have hmH:Hid (q.map clr=q0.map clr∧Stps wr A q∧Below w.heap.size w wr∧q.length≤1024∧NwQ w.heap.size A q):=⟨hov.out.2.2.1,hst,hov.out.2.1,by simp at hyl;omega,hnw⟩
   clear hck hov hst hA hnw
   obtain ⟨E,hE⟩:∃E,bV q=E:=⟨_,rfl⟩
   rw[hE] at hckH
   go_wp2_with fail
   refine cM (show Calls _ _ _ _ _ from hckH.out) ?_
   rintro e w2 ⟨rfl,hb2⟩
   have hfin:Hid (Stps w2 A q∧Below w.heap.size w w2):=⟨hmH.out.2.1.below hb2,hmH.out.2.2.1.trans (hb2.mono hmH.out.2.2.1.size)⟩
   clear hckH hb2
   by_cases hE0:E=0
   ·subst hE0
    have hEH:Hid (bV q=0):=hE
    clear hE
    go_wp2
    go_ret3
    exact ⟨⟨A,cap,q,0,0,rfl,by decide,hfin.out.1,hmH.out.2.2.2.2,hmH.out.2.2.2.1,oR (oR ⟨by omega,hsc.out,q0,q,htx.out,hmH.out.1,rfl,hEH.out.symm,fun _=>rfl,fun h=>absurd rfl h⟩)⟩,hfin.out.2⟩
   ·have hEb:(E==0)=false:=by simpa using hE0
    have hEH:Hid (bV q=E∧E≠0):=⟨hE,hE0⟩
    clear hE hE0
    go_wp2
    go_ret3
    exact ⟨⟨none,0,[],0,E,rfl,by decide,⟨oL rfl,fun s hs=>by cases hs⟩,NwQ.none _,by simp,oR (oR ⟨by omega,hsc.out,q0,q,htx.out,hmH.out.1,rfl,hEH.out.1.symm,fun h=>absurd h hEH.out.2,fun _=>rfl⟩)⟩,hfin.out.2⟩
  ·have hyb:(y==[])=false:=by simpa using hy
   have hcu:=yN y 10 wr (hr.below hov.out.2.1) (by omega)
   have hcuH:Hid _:=hcu
   clear hcu
   go_wp2_with fail
   refine cM (show Calls _ _ _ _ _ from hcuH.out) ?_
   rintro e w2 ⟨⟨a,r,b,rfl,hab⟩,hg2⟩
   have hal:a.length≤y.length∧r.length≤y.length:=by
    rcases hab with ⟨_,e,_⟩|⟨_,_,e,e2⟩
    ·rw[e];simp;omega
    ·rw[e,e2];simp
   have hb2:Below w.heap.size w w2:=hov.out.2.1.trans (hg2.below.mono hov.out.2.1.size)
   have hpl:=nJ a w2 (hr.below hb2) (by omega)
   have hplH:Hid _:=hpl
   have hH2:Hid (Below w.heap.size w w2∧Gr wr w2):=⟨hb2,hg2⟩
   have habH:Hid _:=hab
   clear hpl hcuH hb2 hg2 hab
   go_wp2_with fail
   refine cM (show Calls _ _ _ _ _ from hplH.out) ?_
   rintro e w3 ⟨t',rfl,hb3,hres⟩
   have hb3H:Hid (Below w.heap.size w w3):=hH2.out.1.trans (hb3.mono hH2.out.1.size)
   cases b with
   | false =>
    have hfin:Hid (jW (aH 10 x) 1=q.length+1):=by
     rcases habH.out with ⟨e,_⟩|⟨_,h1,_⟩
     ·cases e
     ·show _=_
      rw[hov.out.2.2.2.2,jx y h1]
      show (if y=[] then 0 else q.length+1)=_
      rw[if_neg hy]
    clear hres hplH hov hb3
    go_wp2
    go_ret3
    exact ⟨⟨none,0,[],_,_,rfl,by omega,⟨oL rfl,fun s hs=>by cases hs⟩,NwQ.none _,by simp,oR (oL ⟨by omega,by rw[hfin.out];omega,rfl,by rw[hfin.out];push_cast;rfl,rfl⟩)⟩,hb3H.out.alloc hb3H.out.size _⟩
   | true =>
    obtain ⟨rfl,hna⟩:y=a++10::r∧(10:UInt8) ∉ a:=by
     rcases habH.out with ⟨_,h1,h2⟩|⟨e,_⟩
     ·exact ⟨h1,h2⟩
     ·cases e
    cases hla:fY a with
    | none =>
     have hfin:Hid (jW (aH 10 x) 1=q.length+1):=by show _=_;rw[hov.out.2.2.2.2,fl _ _ hna,kN (gl _ _),hla]
     clear hres hplH hov hb3 hla habH
     go_wp2
     go_ret3
     exact ⟨⟨none,0,[],_,_,rfl,by omega,⟨oL rfl,fun s hs=>by cases hs⟩,NwQ.none _,by simp,oR (oL ⟨by omega,by rw[hfin.out];omega,rfl,by rw[hfin.out];push_cast;rfl,rfl⟩)⟩,hb3H.out.alloc hb3H.out.size _⟩
    | some s0 =>
     obtain ⟨hct,hht,hft⟩:=hres s0 hla
     have hpr:Hid (Pre x r (q0++[s0])∧(q++[t']).map clr=(q0++[s0]).map clr):=⟨hov.out.2.2.2.1.next hna hla,by rw[List.map_append,List.map_append,hov.out.2.2.1];simp[hct]⟩
     have hscn:Hid (jW (aH 10 x) 1=jW (aH 10 r) ((q++[t']).length+1)):=by show _=_;rw[hov.out.2.2.2.2,fl _ _ hna,kN (gl _ _),hla];simp
     have how:Hid (OwnS w3 w.heap.size u5 q∧ApartS w3 w.heap.size u5.ownBlock t'):=⟨(hov.out.1.gr hH2.out.2).below hb3,⟨hht.1,hht.2.1,hht.2.2,fun a ha=>⟨nT hH2.out.1.size (hft a ha).1,(hft a ha).2,fun e=>by
      have h1:=(hov.out.1.own.lt _ e).2
      have h2:=(hft a ha).1
      have h3:=hH2.out.2.size
      omega⟩⟩⟩
     have hln:q.length+1+r.length≤1024:=by simp at hyl;omega
     clear hres hplH hov hb3 hla habH hct hht hft
     have hg5:Gr w3 ((w3.alloc (Y #[V I t'.k,V I t'.a,V I t'.b,V I t'.c,V I t'.o,V I t'.v,J t'.p t'.l.length t'.n] 105)).alloc (Y #[V I t'.k,V I t'.a,V I t'.b,V I t'.c,V I t'.o,V I t'.v,J t'.p t'.l.length t'.n] 105)):=((gR w3).alloc _).alloc _
     have hoX:Hid (OwnS ((w3.alloc (Y #[V I t'.k,V I t'.a,V I t'.b,V I t'.c,V I t'.o,V I t'.v,J t'.p t'.l.length t'.n] 105)).alloc (Y #[V I t'.k,V I t'.a,V I t'.b,V I t'.c,V I t'.o,V I t'.v,J t'.p t'.l.length t'.n] 105)) w.heap.size u5 q∧au jj 7 ((w3.alloc (Y #[V I t'.k,V I t'.a,V I t'.b,V I t'.c,V I t'.o,V I t'.v,J t'.p t'.l.length t'.n] 105)).alloc (Y #[V I t'.k,V I t'.a,V I t'.b,V I t'.c,V I t'.o,V I t'.v,J t'.p t'.l.length t'.n] 105)) (some ⟨w3.heap.size+1,0,none⟩) [t']∧ApartS ((w3.alloc (Y #[V I t'.k,V I t'.a,V I t'.b,V I t'.c,V I t'.o,V I t'.v,J t'.p t'.l.length t'.n] 105)).alloc (Y #[V I t'.k,V I t'.a,V I t'.b,V I t'.c,V I t'.o,V I t'.v,J t'.p t'.l.length t'.n] 105)) w.heap.size u5.ownBlock t'∧q.length+1≤maxLen∧(q.length+1)*72≤140737488355328∧Below w.heap.size w ((w3.alloc (Y #[V I t'.k,V I t'.a,V I t'.b,V I t'.c,V I t'.o,V I t'.v,J t'.p t'.l.length t'.n] 105)).alloc (Y #[V I t'.k,V I t'.a,V I t'.b,V I t'.c,V I t'.o,V I t'.v,J t'.p t'.l.length t'.n] 105))):=⟨how.out.1.gr hg5,zJ (by simp) t' 105,how.out.2.below hg5.below,by unfold maxLen;omega,by omega,hb3H.out.trans (hg5.below.mono hb3H.out.size)⟩
     clear how hg5
     go_wp2_with (at_builtin;refine gq _ rfl _ _ rfl w.heap.size u5 q t' ⟨w3.heap.size+1,0,none⟩ 1 rfl rfl hoX.out.1 hoX.out.2.1 hoX.out.2.2.1 hoX.out.2.2.2.1 hoX.out.2.2.2.2.1 hoX.out.2.2.2.2.2.size ?_;intro v7 w7 hown7 hb7)
     have hfin7:Hid (OwnS w7 w.heap.size v7 (q++[t'])∧Below w.heap.size w w7):=⟨hown7,hoX.out.2.2.2.2.2.trans hb7⟩
     clear hown7 hb7 hoX
     go_roundw
     case rel=>exact ⟨r,q++[t'],q0++[s0],rfl,by simp only[List.length_append,List.length_cons,List.length_nil];go_num,by simp;omega,hfin7.out.1,hfin7.out.2,hpr.out.2,hpr.out.1,hscn.out⟩
     case measure=>show r.toArray.size<(a++10::r).toArray.size;simp;omega
theorem oO:∀(l:List (List UInt8)) (k:Nat),jW l k≠0→io l=none
 | [],_,h=>absurd rfl h
 | [y],k,h=>by
  rw[io]
  by_cases e:y=[]
  ·subst e;exact absurd rfl h
  ·rw[if_neg e]
 | p::r::t,k,h=>by
  rw[kN (by simp)] at h
  rw[io]
  cases e:fY p with
  | none=>rfl
  | some s =>
   rw[e] at h
   have h2:=oO (r::t) (k+1) h
   rw[h2]
def ql (x:List UInt8) (q:List Stp) (er:Int):Prop:=∃k,nX x q k er
theorem nX.parsed {x:List UInt8} {q:List Stp} {k er:Int} (h:nX x q k er):eC x q er:=by
 rcases h with ⟨h1,rfl,rfl,rfl⟩|⟨h1,h2,rfl,rfl,rfl⟩|⟨h1,h2,q0,q1,h3,h4,rfl,rfl,h5,h6⟩
 ·exact oR ⟨by decide,rfl,oL h1⟩
 ·exact oR ⟨by decide,rfl,oR (oL (oO _ _ h2))⟩
 ·by_cases h0:bV q1=0
  ·obtain rfl:=h5 h0
   exact oL ⟨h0,h1,⟨q0,h3,h4⟩,h0⟩
  ·exact oR ⟨h0,h6 h0,oR (oR ⟨q0,q1,h3,h4,h0⟩)⟩
theorem ql.parsed {x:List UInt8} {q:List Stp} {er:Int} (h:ql x q er):eC x q er:=h.elim fun _ h=>h.parsed
theorem vm (x:List UInt8) (w:World) (hr:Reads w) (hx0:x.length≤maxLen):Calls S 21 #[H ⟨x.toArray⟩] w fun e w'=>(∃A cap q k er,e= O (U #[J A q.length cap,V I k,V I er])∧0≤k∧Stps w' A q∧NwQ w.heap.size A q∧q.length≤1024∧eC x q er)∧Below w.heap.size w w' :=
 (mQ x w hr hx0).mono fun _ _ ⟨⟨A,cap,q,k,er,h1,h2,h3,h4,h5,h7⟩,h6⟩=>⟨⟨A,cap,q,k,er,h1,h2,h3,h4,h5,h7.parsed⟩,h6⟩
theorem sW (x:List UInt8) (w:World) (hr:Reads w) (hx0:x.length≤maxLen):Calls S 21 #[H ⟨x.toArray⟩] w fun e w'=>(∃A cap q k er,e= O (U #[J A q.length cap,V I k,V I er])∧0≤k∧Stps w' A q∧q.length≤1024∧nX x q k er)∧Below w.heap.size w w' :=
 (mQ x w hr hx0).mono fun _ _ ⟨⟨A,cap,q,k,er,h1,h2,h3,_,h5⟩,h6⟩=>⟨⟨A,cap,q,k,er,h1,h2,h3,h5⟩,h6⟩

theorem vL {w:World} {B:Nat} (a:Int) (ha:¬isN a) (x:List UInt8) :
  Calls S 32 #[Z (some ⟨B,0,none⟩),V I a,H ⟨x.toArray⟩] w fun e w'=>e= O (V I 4)∧w'=w:=by
 have hN:Hid (∀W,Calls S 33 #[V I a] W fun e w'=>e= O (X false)∧w'=W):=iO a ha
 clear ha
 go_enter Tryz.func32,Tryz.ntmps32
 go_wp2_with fail
 refine cM (hN.out _) ?_
 rintro e w1 ⟨rfl,rfl⟩
 go_wp2
 go_ret
 exact ⟨rfl,rfl⟩
theorem tn {w:World} {B:Nat} {P:Nat→Prop} {M:NetM} {Q:Nat→List (List Stp)} (h:NetP w B P M Q) (hr:Reads w) (i:Nat) (hi:i<4) (x:List UInt8) (hx:x.length≤maxLen) :
  Calls S 32 #[Z (some ⟨B,0,none⟩),V I i,H ⟨x.toArray⟩] w fun e w'=>∃q ep er Q',e= O (V I er)∧ql x q ep∧bk w B P w' M Q'∧((ep≠0∧er=ep∧Q'=Q)∨(ep=0∧er=wtE q (Q i)∧Q'=eo Q i (wtQ q (Q i)))):=by
 have hN:Hid (∀W,Calls S 33 #[V I i] W fun e w'=>e= O (X true)∧w'=W):=cK i hi
 have hP:Hid (Calls S 21 #[H ⟨x.toArray⟩] w fun e w'=>(∃A cap q k er,e= O (U #[J A q.length cap,V I k,V I er])∧0≤k∧Stps w' A q∧q.length≤1024∧nX x q k er)∧Below w.heap.size w w'):=sW x w hr hx
 have hH:Hid (NetP w B P M Q∧i<4):=⟨h,hi⟩
 have hi4:(i:Int)<4:=by omega
 clear h hr hx
 go_enter Tryz.func32,Tryz.ntmps32
 go_wp2_with fail
 refine cM (hN.out _) ?_
 rintro e w1 ⟨rfl,rfl⟩
 go_wp2_with fail
 refine cM (show Calls _ _ _ _ _ from hP.out) ?_
 rintro e w2 ⟨⟨A,cap,q,k,er,rfl,f1,f2,f3,f4⟩,f5⟩
 have hF:Hid (Stps w2 A q∧q.length≤1024∧ql x q er∧Below w1.heap.size w1 w2):=⟨f2,f3,⟨k,f4⟩,f5⟩
 clear f1 f2 f3 f4 f5 hP
 by_cases he:er=0
 rotate_left
 ·have heb:(er != 0)=true:=by simpa using he
  have hfin:Hid (bk w1 B P w2 M Q∧er≠0):=⟨bk.same hH.out.1 hF.out.2.2.2,he⟩
  clear he
  go_wp2
  go_ret
  exact ⟨q,er,er,Q,rfl,hF.out.2.2.1,hfin.out.1,oL ⟨hfin.out.2,rfl,rfl⟩⟩
 subst he
 obtain ⟨E,hE⟩:∃E,wtE q (Q i)=E:=⟨_,rfl⟩
 have hW:Hid (Calls S 55 #[Z (some ⟨B,i*38,none⟩),J A q.length cap] w2 fun e w'=>e= O (V I E)∧bk w1 B P w' M (eo Q i (wtQ q (Q i)))):=by
  have hn:=hH.out.1.below hF.out.2.2.2
  have hd:=vM (hn.nd i hH.out.2) q A cap (by have:=hF.out.2.1;unfold maxLen;omega) hF.out.1
  rw[hE] at hd
  refine hd.mono ?_
  rintro e w' ⟨rfl,f1,f2⟩
  refine ⟨rfl,bk.ahead hF.out.2.2.2 hH.out.1.lt ?_⟩
  have hc:=hn.call hH.out.2 f1 f2 (nR _)
  rw[gp,gp] at hc
  exact hc
 have hEH:Hid (wtE q (Q i)=E):=hE
 clear hE
 go_wp2_with fail
 refine cM (show Calls _ _ _ _ _ from hW.out) ?_
 rintro e w3 ⟨rfl,f1⟩
 have hG:Hid _:=f1
 clear f1 hW
 go_wp2
 go_ret
 exact ⟨q,0,E,_,rfl,hF.out.2.2.1,hG.out,oR ⟨rfl,hEH.out.symm,rfl⟩⟩

theorem rB {t:Tab} {c:Ctx} (ht:am t=0) (h0:aT t c=0):am (aB t c)=0:=by
 have hs:woE t.c (ak (aZ c) t.e)=0:=by
  unfold aT at h0
  rw[ht] at h0
  by_cases hc:aP c=0
  ·rw[hc] at h0;simpa using h0
  ·rw[if_neg (by simp),if_pos hc] at h0;exact absurd h0 hc
 have hd:=dC ht (aZ c)
 obtain ⟨_,h2,h3⟩:=yx hd.2 hs
 have hT:aB t c=⟨woC t.c (ak (aZ c) t.e),eu c t.e⟩:=by unfold aB;rw[if_pos h0]
 rw[hT]
 refine iK h2 (nT (List.length_filter_le _ _) (ae ht).2.1) (List.Pairwise.filter _ (dE ht)) fun y hy=> ?_
 have hy':=List.mem_filter.1 hy
 refine ⟨(h3 _).2 ⟨bS ht hy'.1,fun hm=> ?_⟩,dN ht hy'.1⟩
 have:=(gd ht hy'.1).1 hm
 simp[this] at hy'
def bq (N:NetM) (h:Hap):Int :=
 if h.k=1 then (if isN h.a then ndE (N.s h.a.toNat) (N.t h.a.toNat) (h.a.toNat:Nat) h.e1 h.e2 h.e3 h.e4 h.e5 else 4)
 else if h.k=2 then (if isN h.a∧isN h.b then (if N.pk.length<200 then 0 else 2) else 4)
 else if h.k=3 then (if isN h.a∧isN h.b then (if N.pk.length<200 then kP (N.s h.a.toNat) (N.t h.a.toNat) (N.s h.b.toNat).c (N.t h.b.toNat).c else 2) else 4)
 else if h.k=4 then (if 0≤h.n then (match N.pk[h.n.toNat]? with|some p=>dW (N.s p.1) (N.t p.1) p.2.1 p.2.2|none=>4) else 4)
 else 1
def zX (x:List UInt8) (h:Hap) (Q:Nat→List (List Stp)) (er:Int) (Q':Nat→List (List Stp)):Prop :=
 (¬isN h.a∧er=4∧Q'=Q)∨(isN h.a∧∃q ep,ql x q ep∧((ep≠0∧er=ep∧Q'=Q)∨(ep=0∧er=wtE q (Q h.a.toNat)∧Q'=eo Q h.a.toNat (wtQ q (Q h.a.toNat)))))
def py (x:List UInt8) (N:NetM) (h:Hap) (Q:Nat→List (List Stp)) (er:Int) (Q':Nat→List (List Stp)):Prop:=(h.k≠5∧er=bq N h∧Q'=Q)∨(h.k=5∧zX x h Q er Q')
section
variable {w:World} {B:Nat} {P:Nat→Prop} {M:NetM} {Q:Nat→List (List Stp)}
theorem wE (h:NetP w B P M Q) (y:Hap) (hk:y.k=1):Calls S 29 #[Z (some ⟨B,0,none⟩),V I y.a,.agg #[V I y.e1,V I y.e2,V I y.e3,V I y.e4,V I y.e5]] w fun e w'=>e= O (V I (bq M y))∧bk w B P w' (aj M y) Q:=by
 by_cases ha:isN y.a
 ·obtain ⟨i,hi,hi4⟩:=iN ha
  have e1:bq M y=ndE (M.s i) (M.t i) i y.e1 y.e2 y.e3 y.e4 y.e5:=by unfold bq;rw[if_pos hk,if_pos ha,hi];rfl
  have e2:aj M y=⟨upd M.s i (ndS (M.s i) i y.e1 y.e2 y.e3 y.e4 y.e5),upd M.t i (ndT (M.t i) i y.e1 y.e2 y.e3 y.e4 y.e5),M.pk⟩:=by unfold aj;rw[if_pos hk,if_pos ha,hi];rfl
  rw[e1,e2,hi]
  exact wF h i hi4 _ _ _ _ _
 ·have e1:bq M y=4:=by unfold bq;rw[if_pos hk,if_neg ha]
  have e2:aj M y=M:=by unfold aj;rw[if_pos hk,if_neg ha]
  rw[e1,e2]
  exact yW h _ _ _ _ _ _ ha
theorem zM (k a b:Int) (hn:¬(isN a∧isN b)):Calls S 30 #[Z (some ⟨B,0,none⟩),V I k,V I a,V I b] w fun e w'=>e= O (V I 4)∧w'=w:=by
 by_cases ha:isN a
 ·obtain ⟨i,rfl,hi4⟩:=iN ha
  have h1:Hid (∀W,Calls S 33 #[V I i] W fun e w'=>e= O (X true)∧w'=W):=cK i hi4
  have h2:Hid (∀W,Calls S 33 #[V I b] W fun e w'=>e= O (X false)∧w'=W):=iO b fun k=>hn ⟨ha,k⟩
  clear hn ha
  go_enter Tryz.func30,Tryz.ntmps30
  go_wp2_with fail
  refine cM (h1.out _) ?_
  rintro e w1 ⟨rfl,rfl⟩
  go_wp2_with fail
  refine cM (h2.out _) ?_
  rintro e w0 ⟨rfl,rfl⟩
  go_wp2
  go_ret
  exact ⟨rfl,rfl⟩
 ·have h1:Hid (∀W,Calls S 33 #[V I a] W fun e w'=>e= O (X false)∧w'=W):=iO a ha
  clear hn ha
  go_enter Tryz.func30,Tryz.ntmps30
  go_wp2_with fail
  refine cM (h1.out _) ?_
  rintro e w1 ⟨rfl,rfl⟩
  go_wp2
  go_ret
  exact ⟨rfl,rfl⟩
theorem vy (h:NetP w B P M Q) (k:Int) (i j:Nat) (hi:i<4) (hj:j<4) (hl:¬M.pk.length<200):Calls S 30 #[Z (some ⟨B,0,none⟩),V I k,V I i,V I j] w fun e w'=>e= O (V I 2)∧w'=w:=by
 obtain ⟨L,A,c,hp⟩:=h.pk
 have hc:=hp.cel
 have hL:L.length=M.pk.length:=by rw[←hp.eq,List.length_map]
 have hz:(200:Int)≤(L.length:Int):=by omega
 have h1:Hid (∀W,Calls S 33 #[V I i] W fun e w'=>e= O (X true)∧w'=W):=cK i hi
 have h2:Hid (∀W,Calls S 33 #[V I j] W fun e w'=>e= O (X true)∧w'=W):=cK j hj
 clear h hp hL hi hj hl
 go_enter Tryz.func30,Tryz.ntmps30
 go_wp2_with fail
 refine cM (h1.out _) ?_
 rintro e w1 ⟨rfl,rfl⟩
 go_wp2_with fail
 refine cM (h2.out _) ?_
 rintro e w0 ⟨rfl,rfl⟩
 go_wp2
 go_ret
 exact ⟨rfl,rfl⟩
theorem ry (h:NetP w B P M Q) (y:Hap) (hk:y.k=2∨y.k=3):Calls S 30 #[Z (some ⟨B,0,none⟩),V I y.k,V I y.a,V I y.b] w fun e w'=>e= O (V I (bq M y))∧bk w B P w' (aj M y) Q:=by
 have h1:¬y.k=1:=by omega
 have same:∀ {E:Int},bq M y=E→aj M y=M→Calls S 30 #[Z (some ⟨B,0,none⟩),V I y.k,V I y.a,V I y.b] w (fun e w'=>e= O (V I E)∧w'=w)→Calls S 30 #[Z (some ⟨B,0,none⟩),V I y.k,V I y.a,V I y.b] w fun e w'=>e= O (V I (bq M y))∧bk w B P w' (aj M y) Q:=by
  intro E e1 e2 hc
  rw[e1,e2]
  refine hc.mono ?_
  rintro e w' ⟨rfl,rfl⟩
  exact ⟨rfl,bk.same h (bR _ _)⟩
 by_cases hab:isN y.a∧isN y.b
 rotate_left
 ·have hab3:¬(isN y.a∧isN y.b∧M.pk.length<200):=fun k=>hab ⟨k.1,k.2.1⟩
  refine same (E:=4) ?_ ?_ (zM _ _ _ hab)
  ·unfold bq;rw[if_neg h1]
   rcases hk with hk|hk
   ·rw[if_pos hk,if_neg hab]
   ·rw[if_neg (by omega),if_pos hk,if_neg hab]
  ·unfold aj;rw[if_neg h1]
   rcases hk with hk|hk
   ·rw[if_pos hk,if_neg hab3]
   ·rw[if_neg (by omega),if_pos hk,if_neg hab3]
 obtain ⟨i,hi,hi4⟩:=iN hab.1
 obtain ⟨j,hj,hj4⟩:=iN hab.2
 by_cases hl:M.pk.length<200
 rotate_left
 ·have hab3:¬(isN y.a∧isN y.b∧M.pk.length<200):=fun k=>hl k.2.2
  refine same (E:=2) ?_ ?_ (by rw[hi,hj];exact vy h _ i j hi4 hj4 hl)
  ·unfold bq;rw[if_neg h1]
   rcases hk with hk|hk
   ·rw[if_pos hk,if_pos hab,if_neg hl]
   ·rw[if_neg (by omega),if_pos hk,if_pos hab,if_neg hl]
  ·unfold aj;rw[if_neg h1]
   rcases hk with hk|hk
   ·rw[if_pos hk,if_neg hab3]
   ·rw[if_neg (by omega),if_pos hk,if_neg hab3]
 have hab3:isN y.a∧isN y.b∧M.pk.length<200:=⟨hab.1,hab.2,hl⟩
 have ok:∀n,n<4→am (M.s n)=0∧am (M.t n)=0:=fun n hn=>⟨(h.nd n hn).ts.ok,(h.nd n hn).tt.ok⟩
 rcases hk with hk|hk
 ·have e1:bq M y=0:=by unfold bq;rw[if_neg h1,if_pos hk,if_pos hab,if_pos hl]
  have e2:aj M y=tj M 0 j (M.s i) (M.t i):=by unfold aj tj;rw[if_neg h1,if_pos hk,if_pos hab3,if_pos rfl,hi,hj];rfl
  rw[e1,e2,hk,hi,hj]
  exact rz h 2 i j hi4 hj4 hl (fun _=>ok i hi4) (pP h i hi4 j)
 ·have e1:bq M y=kP (M.s i) (M.t i) (M.s j).c (M.t j).c:=by unfold bq;rw[if_neg h1,if_neg (by omega),if_pos hk,if_pos hab,if_pos hl,hi,hj];rfl
  have e2:aj M y=tj M (kP (M.s i) (M.t i) (M.s j).c (M.t j).c) j (snS (M.s i) (M.t i) (M.s j).c (M.t j).c) (snT (M.s i) (M.t i) (M.s j).c (M.t j).c):=by
   unfold aj
   rw[if_neg h1,if_neg (by omega),if_pos hk,if_pos hab3,hi,hj]
   show m7 M i j=_
   unfold m7 tj
   by_cases h0:kP (M.s i) (M.t i) (M.s j).c (M.t j).c=0
   ·rw[if_pos h0,if_pos h0]
    unfold snS snT
    rw[if_pos (show gN (M.s i) (M.t i) (M.s j).c (M.t j).c=0 from h0),if_pos (show gN (M.s i) (M.t i) (M.s j).c (M.t j).c=0 from h0)]
   ·rw[if_neg h0,if_neg h0]
  rw[e1,e2,hk,hi,hj]
  refine rz h 3 i j hi4 hj4 hl (fun h0=> ?_) (rr h i j hi4 hj4)
  have h0':gN (M.s i) (M.t i) (M.s j).c (M.t j).c=0:=h0
  unfold snS snT
  rw[if_pos h0',if_pos h0']
  unfold gN at h0'
  by_cases hs:aT (M.s i) (M.s j).c=0
  ·rw[if_pos hs] at h0'
   exact ⟨rB (ok i hi4).1 hs,rB (ok i hi4).2 h0'⟩
  ·rw[if_neg hs] at h0'
   exact absurd h0' hs
theorem yl (h:NetP w B P M Q) (y:Hap) (hk:y.k=4):Calls S 31 #[Z (some ⟨B,0,none⟩),V I y.n] w fun e w'=>e= O (V I (bq M y))∧bk w B P w' (aj M y) Q:=by
 have k1:¬y.k=1:=by omega
 have k2:¬y.k=2:=by omega
 have k3:¬y.k=3:=by omega
 have no:bq M y=4→aj M y=M→(y.n<0∨(M.pk.length:Int)≤y.n)→Calls S 31 #[Z (some ⟨B,0,none⟩),V I y.n] w fun e w'=>e= O (V I (bq M y))∧bk w B P w' (aj M y) Q:=fun e1 e2 hn=>by
  rw[e1,e2]
  refine (yk h y.n hn).mono ?_
  rintro e w' ⟨rfl,rfl⟩
  exact ⟨rfl,bk.same h (bR _ _)⟩
 by_cases h0:0≤y.n
 rotate_left
 ·refine no ?_ ?_ (oL (by omega))
  ·unfold bq;rw[if_neg k1,if_neg k2,if_neg k3,if_pos hk,if_neg h0]
  ·unfold aj;rw[if_neg k1,if_neg k2,if_neg k3,if_pos hk,if_neg h0]
 obtain ⟨n,hn⟩:∃n:Nat,y.n=n:=⟨y.n.toNat,by omega⟩
 cases hp:M.pk[n]? with
 | none =>
  refine no ?_ ?_ (oR (by rw[hn];have:=List.getElem?_eq_none_iff.1 hp;omega))
  ·unfold bq;rw[if_neg k1,if_neg k2,if_neg k3,if_pos hk,if_pos h0,hn,Int.toNat_natCast,hp]
  ·unfold aj;rw[if_neg k1,if_neg k2,if_neg k3,if_pos hk,if_pos h0,hn,Int.toNat_natCast,hp]
 | some p =>
  have e1:bq M y=dW (M.s p.1) (M.t p.1) p.2.1 p.2.2:=by unfold bq;rw[if_neg k1,if_neg k2,if_neg k3,if_pos hk,if_pos h0,hn,Int.toNat_natCast,hp]
  have e2:aj M y=f9 M p.1 p.2.1 p.2.2:=by unfold aj;rw[if_neg k1,if_neg k2,if_neg k3,if_pos hk,if_pos h0,hn,Int.toNat_natCast,hp]
  rw[e1,e2,hn]
  exact vD h n hp
theorem vN (h:NetP w B P M Q) (hr:Reads w) (x:List UInt8) (hx:x.length≤maxLen) (y:Hap):Calls S 32 #[Z (some ⟨B,0,none⟩),V I y.a,H ⟨x.toArray⟩] w fun e w'=>∃er Q',e= O (V I er)∧zX x y Q er Q'∧bk w B P w' M Q':=by
 by_cases ha:isN y.a
 ·obtain ⟨i,hi,hi4⟩:=iN ha
  have hw:=tn h hr i hi4 x hx
  rw[←hi] at hw
  refine hw.mono ?_
  rintro e w' ⟨q,ep,er,Q',rfl,f1,f2,f3⟩
  refine ⟨er,Q',rfl,oR ⟨ha,q,ep,f1,?_⟩,f2⟩
  rw[hi]
  exact f3
 ·refine (vL (B:=B) y.a ha x).mono ?_
  rintro e w' ⟨rfl,rfl⟩
  exact ⟨4,Q,rfl,oL ⟨ha,rfl,rfl⟩,bk.same h (bR _ _)⟩
end
theorem pF {w:World} {B:Nat} {P:Nat→Prop} {M:NetM} {Q:Nat→List (List Stp)} (h:NetP w B P M Q) (hr:Reads w) (x:List UInt8) (hx:x.length≤maxLen) (y:Hap) :
  Calls S 11 #[Z (some ⟨B,0,none⟩),.agg #[V I y.k,V I y.a,V I y.b,V I y.n,V I y.e1,V I y.e2,V I y.e3,V I y.e4,V I y.e5,H ⟨x.toArray⟩]] w fun e w'=>∃er Q',e= O (V I er)∧py x M y Q er Q'∧bk w B P w' (aj M y) Q':=by
 obtain ⟨w1,hw1⟩:∃W,w.alloc (Y #[V I y.k,V I y.a,V I y.b,V I y.n,V I y.e1,V I y.e2,V I y.e3,V I y.e4,V I y.e5,H ⟨x.toArray⟩] 30)=W:=⟨_,rfl⟩
 have hg1:Gr w w1:=by rw[←hw1];exact (gR w).alloc _
 have hBx:Cls w1 w.heap.size [V I y.k,V I y.a,V I y.b,V I y.n,V I y.e1,V I y.e2,V I y.e3,V I y.e4,V I y.e5,H ⟨x.toArray⟩]:=by rw[←hw1];exact Cls.new w _ _
 obtain ⟨b0,b1,b2,b3,b4,b5,b6,b7,b8,b9⟩:=fP hBx
 have h1:=h.below hg1.below
 have hr1:=hr.below hg1.below
 have hH:Hid (bk w B P w1 M Q∧Below w.heap.size w w1∧B<w.heap.size):=⟨bk.same h hg1.below,hg1.below,h.lt⟩
 have m5:¬y.k=1→¬y.k=2→¬y.k=3→¬y.k=4→aj M y=M:=fun a b c d=>by unfold aj;rw[if_neg a,if_neg b,if_neg c,if_neg d]
 clear hBx hg1 h hr
 by_cases k1:y.k=1
 ·have hC:Hid _:=wE h1 y k1
  have kb1:(y.k==1)=true:=by simp;omega
  have k5:Hid (y.k≠5):=by show _≠_;omega
  clear k1 h1 m5
  go_enter Tryz.func11,Tryz.ntmps11
  go_wp2_with fail
  try rw[hw1]
  refine cM (show Calls _ _ _ _ _ from hC.out) ?_
  rintro e w2 ⟨rfl,f1⟩
  have hF:Hid (bk w B P w2 (aj M y) Q):=f1.ahead hH.out.2.1 hH.out.2.2
  clear f1 hC
  obtain ⟨E,hE⟩:∃E,bq M y=E:=⟨_,rfl⟩
  have hEH:Hid (bq M y=E):=hE
  rw[hE]
  clear hE
  go_wp2
  go_ret
  exact ⟨E,Q,rfl,oL ⟨k5.out,hEH.out.symm,rfl⟩,hF.out⟩
 by_cases k2:y.k=2
 ·have hC:Hid _:=ry h1 y (oL k2)
  have kb1:(y.k==1)=false:=by simp;omega
  have kb2:(y.k==2)=true:=by simp;omega
  have k5:Hid (y.k≠5):=by show _≠_;omega
  clear k1 k2 h1 m5
  go_enter Tryz.func11,Tryz.ntmps11
  go_wp2_with fail
  try rw[hw1]
  refine cM (show Calls _ _ _ _ _ from hC.out) ?_
  rintro e w2 ⟨rfl,f1⟩
  have hF:Hid (bk w B P w2 (aj M y) Q):=f1.ahead hH.out.2.1 hH.out.2.2
  clear f1 hC
  obtain ⟨E,hE⟩:∃E,bq M y=E:=⟨_,rfl⟩
  have hEH:Hid (bq M y=E):=hE
  rw[hE]
  clear hE
  go_wp2
  go_ret
  exact ⟨E,Q,rfl,oL ⟨k5.out,hEH.out.symm,rfl⟩,hF.out⟩
 by_cases k3:y.k=3
 ·have hC:Hid _:=ry h1 y (oR k3)
  have kb1:(y.k==1)=false:=by simp;omega
  have kb2:(y.k==2)=false:=by simp;omega
  have kb3:(y.k==3)=true:=by simp;omega
  have k5:Hid (y.k≠5):=by show _≠_;omega
  clear k1 k2 k3 h1 m5
  go_enter Tryz.func11,Tryz.ntmps11
  go_wp2_with fail
  try rw[hw1]
  refine cM (show Calls _ _ _ _ _ from hC.out) ?_
  rintro e w2 ⟨rfl,f1⟩
  have hF:Hid (bk w B P w2 (aj M y) Q):=f1.ahead hH.out.2.1 hH.out.2.2
  clear f1 hC
  obtain ⟨E,hE⟩:∃E,bq M y=E:=⟨_,rfl⟩
  have hEH:Hid (bq M y=E):=hE
  rw[hE]
  clear hE
  go_wp2
  go_ret
  exact ⟨E,Q,rfl,oL ⟨k5.out,hEH.out.symm,rfl⟩,hF.out⟩
 by_cases k4:y.k=4
 ·have hC:Hid _:=yl h1 y k4
  have kb1:(y.k==1)=false:=by simp;omega
  have kb2:(y.k==2)=false:=by simp;omega
  have kb3:(y.k==3)=false:=by simp;omega
  have kb4:(y.k==4)=true:=by simp;omega
  have k5:Hid (y.k≠5):=by show _≠_;omega
  clear k1 k2 k3 k4 h1 m5
  go_enter Tryz.func11,Tryz.ntmps11
  go_wp2_with fail
  try rw[hw1]
  refine cM (show Calls _ _ _ _ _ from hC.out) ?_
  rintro e w2 ⟨rfl,f1⟩
  have hF:Hid (bk w B P w2 (aj M y) Q):=f1.ahead hH.out.2.1 hH.out.2.2
  clear f1 hC
  obtain ⟨E,hE⟩:∃E,bq M y=E:=⟨_,rfl⟩
  have hEH:Hid (bq M y=E):=hE
  rw[hE]
  clear hE
  go_wp2
  go_ret
  exact ⟨E,Q,rfl,oL ⟨k5.out,hEH.out.symm,rfl⟩,hF.out⟩
 have hM:Hid (aj M y=M):=m5 k1 k2 k3 k4
 have kb1:(y.k==1)=false:=by simp;omega
 have kb2:(y.k==2)=false:=by simp;omega
 have kb3:(y.k==3)=false:=by simp;omega
 have kb4:(y.k==4)=false:=by simp;omega
 by_cases k5:y.k=5
 ·have hC:Hid _:=vN h1 hr1 x hx y
  have kb5:(y.k==5)=true:=by simp;omega
  have k5H:Hid (y.k=5):=k5
  clear k1 k2 k3 k4 k5 h1 m5 hr1
  go_enter Tryz.func11,Tryz.ntmps11
  go_wp2_with fail
  try rw[hw1]
  refine cM (show Calls _ _ _ _ _ from hC.out) ?_
  rintro e w2 ⟨E,Q',rfl,f1,f2⟩
  have hF:Hid (zX x y Q E Q'∧bk w B P w2 M Q'):=⟨f1,f2.ahead hH.out.2.1 hH.out.2.2⟩
  clear f1 f2 hC
  go_wp2
  go_ret
  refine ⟨E,Q',rfl,oR ⟨k5H.out,hF.out.1⟩,?_⟩
  rw[hM.out]
  exact hF.out.2
 ·have kb5:(y.k==5)=false:=by simp;omega
  have k5H:Hid (y.k≠5∧bq M y=1):=⟨k5,by unfold bq;rw[if_neg k1,if_neg k2,if_neg k3,if_neg k4]⟩
  clear k1 k2 k3 k4 k5 h1 m5 hr1
  go_enter Tryz.func11,Tryz.ntmps11
  go_wp2
  try rw[hw1]
  go_ret
  refine ⟨1,Q,rfl,oL ⟨k5H.out.1,k5H.out.2.symm,rfl⟩,?_⟩
  rw[hM.out]
  exact hH.out.1
end Go.Proofs.YtkefkplnamkicaaGreatDoor
