/-
  (*Net).take: a packet comes to whom it is for.
  query.Parse: the query of a text.
  (*Net).watch: a node has a view of a query's text.
  (*Net).Do: what happens in a net.
-/
import Derived.Test.YtfedpiamlpflhaaGreatDoorM39
set_option maxRecDepth 100000
set_option maxHeartbeats 8000000
open Go.Ending renaming returned → O
open Go.IntKind renaming i64 → I
open Go.Obj renaming cells → Y
open Go.Proofs.Tryz renaming prog → S
open Go.Value renaming int → V, slice → J, pointer → Z, string → H, bool → X, tuple → U
namespace Go.Proofs.YtfedpiamlpflhaaGreatDoor
open Go.RowKit Go.Sort

theorem vK {w:World} {B:Nat} {P:Nat→Prop} {M:NetM} {Q:Nat→List (List Stp)} (h:NetP w B P M Q) (n:Int) (hn:n<0∨(M.pk.length:Int)≤n) :
  Calls S 21 #[Z (some ⟨B,0,none⟩),V I n] w fun e w'=>e= O (V I 4)∧w'=w:=by
 obtain ⟨L,A,c,hp⟩:=h.pk
 have hc:=hp.cel
 have hl:L.length=M.pk.length:=by rw[←hp.eq,List.length_map]
 rw[←hl] at hn
 clear h hp hl
 by_cases h0:n<0
 ·go_enter Tryz.func21,Tryz.ntmps21
  go_wp2
  go_ret
  exact ⟨rfl,rfl⟩
 ·have h1:(L.length:Int)≤n:=by omega
  clear hn
  go_enter Tryz.func21,Tryz.ntmps21
  go_wp2
  go_ret
  exact ⟨rfl,rfl⟩
theorem tw {w:World} {B:Nat} {P:Nat→Prop} {M:NetM} {Q:Nat→List (List Stp)} (h:NetP w B P M Q) (n:Nat) {q:Nat×Tab×Tab} (hn:M.pk[n]? = some q) :
  Calls S 21 #[Z (some ⟨B,0,none⟩),V I n] w fun e w'=>e= O (V I (gF (M.s q.1) (M.t q.1) q.2.1 q.2.2))∧aX w B P w' (gp M q.1 q.2.1 q.2.2) Q:=by
 have mixed:Tryz.prog.follows .mixedOrders=true:=by kernel_rfl
 obtain ⟨L,A,c,hp⟩:=h.pk
 have hc:=hp.cel
 obtain ⟨p,hp1,hp2⟩:∃p,L[n]? = some p∧p.m=q:=by
  rw[←hp.eq,List.getElem?_map] at hn
  cases e:L[n]? with
  | none=>rw[e] at hn;cases hn
  | some p=>rw[e] at hn;exact ⟨p,rfl,by simpa using hn⟩
 subst hp2
 obtain ⟨hnl,hpe⟩:=List.getElem?_eq_some_iff.1 hp1
 obtain ⟨hto,hta,htb⟩:=hp.each p (List.mem_of_getElem? hp1)
 obtain ⟨bb,off,hA,hbb,hcl⟩:=hp.row.at hnl
 subst hA
 have hcl:=hcl n hnl
 rw[hpe] at hcl
 have c0:=hcl 0 (by omega)
 have c1:=hcl 1 (by omega)
 have c2:=hcl 2 (by omega)
 have c3:=hcl 3 (by omega)
 have c4:=hcl 4 (by omega)
 have c5:=hcl 5 (by omega)
 have c6:=hcl 6 (by omega)
 have c7:=hcl 7 (by omega)
 have c8:=hcl 8 (by omega)
 have c9:=hcl 9 (by omega)
 have c10:=hcl 10 (by omega)
 have c11:=hcl 11 (by omega)
 have c12:=hcl 12 (by omega)
 simp only[eW,z0',zS,Nat.add_zero] at c0 c1 c2 c3 c4 c5 c6 c7 c8 c9 c10 c11 c12
 have h0:¬(n:Int)<0:=by omega
 have h1:¬(L.length:Int)≤(n:Int):=by omega
 have hto4:(p.tg:Int)<4:=by omega
 obtain ⟨w1,hw1⟩:∃W,w.alloc (Y #[V I (p.tg:Int),V I p.a.c.c0,V I p.a.c.c1,V I p.a.c.c2,V I p.a.c.c3,J p.A p.a.c.l.length p.ca,J p.C p.a.e.length p.cc,V I p.b.c.c0,V I p.b.c.c1,V I p.b.c.c2,V I p.b.c.c3,J p.B p.b.c.l.length p.cb,J p.D p.b.e.length p.cd] 110)=W:=⟨_,rfl⟩
 have hg1:Gr w w1:=by rw[←hw1];exact (gR w).alloc _
 have hBx:Hid (Cls w1 w.heap.size [V I (p.tg:Int),V I p.a.c.c0,V I p.a.c.c1,V I p.a.c.c2,V I p.a.c.c3,J p.A p.a.c.l.length p.ca,J p.C p.a.e.length p.cc,V I p.b.c.c0,V I p.b.c.c1,V I p.b.c.c2,V I p.b.c.c3,J p.B p.b.c.l.length p.cb,J p.D p.b.e.length p.cd]):=by show Cls _ _ _;rw[←hw1];exact Cls.new w _ _
 obtain ⟨E,hE⟩:∃E,gF (M.s p.m.1) (M.t p.m.1) p.m.2.1 p.m.2.2=E:=⟨_,rfl⟩
 have hD:Hid (∀W,Gr w1 W→Calls S 41 #[Z (some ⟨B,p.tg*38,none⟩),.agg (T2 p.a p.A p.ca p.C p.cc p.b p.B p.cb p.D p.cd).toArray] W fun e w'=>e= O (V I E)∧aX w B P w' (gp M p.m.1 p.m.2.1 p.m.2.2) Q):=fun W hW=>by
  have hgW:=hg1.trans hW
  have hn:=h.below hgW.below
  have ha:=hta.below hgW.below
  have hb:=htb.below hgW.below
  have hd:=pK (hn.nd p.tg hto) p.a p.b p.A p.B p.C p.D p.ca p.cb p.cc p.cd ha.row ha.cel hb.row hb.cel ha.len.1 ha.len.2 hb.len.1 hb.len.2 ha.nr hb.nr
  rw[show tkE (M.s p.tg) (M.t p.tg) p.a p.b=E from hE] at hd
  refine hd.mono ?_
  rintro e w' ⟨rfl,f1,f2⟩
  refine ⟨rfl,aX.ahead hgW.below h.lt ?_⟩
  have hc:=hn.call hto f1 f2 (by omega)
  rw[ij] at hc
  exact hc
 rw[hE]
 clear h hg1 hE hp hn hp1 hnl hpe hto hta htb hbb hcl
 go_enter Tryz.func21,Tryz.ntmps21
 go_upto_region 4 with fail
 try rw[hw1]
 clear hw1 hc c0 c1 c2 c3 c4 c5 c6 c7 c8 c9 c10 c11 c12
 obtain ⟨b0,b1,b2,b3,b4,b5,b6,b7,b8,b9,b10,b11,b12⟩:=yM hBx.out
 go_region_with (go_at_call 41;refine cM (hD.out _ (gR _).drew) ?_;rintro e w3 ⟨rfl,f1⟩;have hF:Hid _:=f1;clear f1)
 all_goals
  go_wp2
  go_ret
  exact ⟨rfl,hF.out⟩

theorem xr {W:World} {n:Nat} (hn:W.heap.size=n) (s:Stp) (T:TypeId):ax iH 7 (W.alloc (Y #[V I s.k,V I s.a,V I s.b,V I s.c,V I s.o,V I s.v,J s.p s.l.length s.n] T)) (some ⟨n,0,none⟩) [s]:=by
 subst hn
 refine oR ⟨W.heap.size,0,rfl,by simp,fun j hj i hi=> ?_⟩
 obtain rfl:j=0:=by simp at hj;omega
 have hh:i=0∨i=1∨i=2∨i=3∨i=4∨i=5∨i=6:=by omega
 rcases hh with rfl|rfl|rfl|rfl|rfl|rfl|rfl
 ·exact aa (w:=W) (gR _) (j:=0) rfl
 ·exact aa (w:=W) (gR _) (j:=1) rfl
 ·exact aa (w:=W) (gR _) (j:=2) rfl
 ·exact aa (w:=W) (gR _) (j:=3) rfl
 ·exact aa (w:=W) (gR _) (j:=4) rfl
 ·exact aa (w:=W) (gR _) (j:=5) rfl
 ·exact aa (w:=W) (gR _) (j:=6) rfl
theorem NwQ.none (n:Nat):NwQ n none []:=⟨fun a ha=>(by cases ha),fun s hs=>(by cases hs)⟩
def A3:Value→Nat
 | H b=>b.size
 | _=>0
theorem lK {a r:List UInt8} (h:(10:UInt8) ∉ a):dW (a++10::r)=match iy a with
  | none=>none
  | some s=>(dW r).map (s :: ·):=by
 unfold dW
 rw[iU _ _ h]
 cases e:aW 10 r with
 | nil=>exact absurd e (jR _ _)
 | cons y t =>
  rw[jH]
  cases iy a with
  | none=>rfl
  | some s=>cases jH (y::t)<;>rfl
theorem qW {y:List UInt8} (h:(10:UInt8) ∉ y) (h0:y≠[]):dW y=none:=by
 unfold dW
 rw[iV y h,jH,if_neg h0]
def Pre (x y:List UInt8) (q0:List Stp):Prop:=dW x=(dW y).map (q0++ ·)
theorem Pre.next {x a r:List UInt8} {q0:List Stp} {s:Stp} (h:Pre x (a++10::r) q0) (ha:(10:UInt8) ∉ a) (hs:iy a=some s):Pre x r (q0++[s]):=by
 unfold Pre at h ⊢
 rw[h,lK ha,hs]
 cases dW r<;>simp
theorem Pre.none {x y:List UInt8} {q0:List Stp} (h:Pre x y q0) (hy:dW y=none):dW x=none:=by
 unfold Pre at h
 rw[h,hy];rfl
def fk (x:List UInt8) (q:List Stp) (er:Int):Prop :=
 (er=0∧x.length≤1024∧(∃q0,dW x=some q0∧q.map clr=q0.map clr)∧bM q=0) ∨
 (er≠0∧q=[]∧(1024<x.length∨dW x=none∨∃q0 q1,dW x=some q0∧q1.map clr=q0.map clr∧bM q1≠0))
theorem mW (x:List UInt8) (w:World) (hr:Reads w) (hx0:x.length≤maxLen):Calls S 8 #[H ⟨x.toArray⟩] w fun e w'=>(∃A cap q k er,e= O (U #[J A q.length cap,V I k,V I er])∧0≤k∧Stps w' A q∧NwQ w.heap.size A q∧q.length≤1024∧fk x q er)∧Below w.heap.size w w':=by
 have hx:x.length≤9223372036854775807:=by unfold maxLen at hx0;exact hx0
 go_enter Tryz.func8,Tryz.ntmps8
 by_cases hL:1024<x.length
 ·have hLz:(1024:Int)<(x.length:Int):=by omega
  go_wp2
  go_ret3
  exact ⟨⟨none,0,[],0,2,rfl,by decide,⟨oL rfl,fun s hs=>by cases hs⟩,NwQ.none _,by simp,oR ⟨by decide,rfl,oL hL⟩⟩,bR _ _⟩
 have hLz:¬(1024:Int)<(x.length:Int):=by omega
 go_wp2
 go_loopw [0,5,6] (fun s v i wr=>∃(y:List UInt8) (q q0:List Stp),s= H ⟨y.toArray⟩∧i= V I ((q.length:Int)+1)∧q.length+y.length≤1024∧Hid (OwnS wr w.heap.size v q∧Below w.heap.size w wr∧q.map clr=q0.map clr∧Pre x y q0)) (fun s _ _ _=>A3 s)
 case atStart=>exact ⟨x,[],[],rfl,rfl,by simp;omega,OwnS.nil _ _,bR _ _,rfl,by unfold Pre;cases dW x<;>rfl⟩
 case round =>
  obtain ⟨y,q,q0,rfl,rfl,hyl,hov⟩:=hrel
  by_cases hy:y=[]
  ·subst hy
   obtain ⟨A,cap,hvA,hA,hst⟩:=OwnS.stps hov.out.1
   subst hvA
   have hnw:=OwnS.nw hov.out.1
   have hck:=kH q A cap wr (by unfold maxLen;simp at hyl;omega) hst
   have hckH:Hid _:=hck
   have htx:Hid (dW x=some q0):=by
    have:=hov.out.2.2.2
    unfold Pre at this
    show _=_
    rw[this]
    simp[dW,aW,jH]
   have hmH:Hid (q.map clr=q0.map clr∧Stps wr A q∧Below w.heap.size w wr∧q.length≤1024∧NwQ w.heap.size A q):=⟨hov.out.2.2.1,hst,hov.out.2.1,by simp at hyl;omega,hnw⟩
   clear hck hov hst hA hnw
   obtain ⟨E,hE⟩:∃E,bM q=E:=⟨_,rfl⟩
   rw[hE] at hckH
   go_wp2_with fail
   refine cM (show Calls _ _ _ _ _ from hckH.out) ?_
   rintro e w2 ⟨rfl,hb2⟩
   have hfin:Hid (Stps w2 A q∧Below w.heap.size w w2):=⟨hmH.out.2.1.below hb2,hmH.out.2.2.1.trans (hb2.mono hmH.out.2.2.1.size)⟩
   clear hckH hb2
   by_cases hE0:E=0
   ·subst hE0
    have hEH:Hid (bM q=0):=hE
    clear hE
    go_wp2
    go_ret3
    exact ⟨⟨A,cap,q,0,0,rfl,by decide,hfin.out.1,hmH.out.2.2.2.2,hmH.out.2.2.2.1,oL ⟨rfl,by omega,⟨q0,htx.out,hmH.out.1⟩,hEH.out⟩⟩,hfin.out.2⟩
   ·have hEb:(E==0)=false:=by simpa using hE0
    have hEH:Hid (bM q=E∧E≠0):=⟨hE,hE0⟩
    clear hE hE0
    go_wp2
    go_ret3
    exact ⟨⟨none,0,[],0,E,rfl,by decide,⟨oL rfl,fun s hs=>by cases hs⟩,NwQ.none _,by simp,oR ⟨hEH.out.2,rfl,oR (oR ⟨q0,q,htx.out,hmH.out.1,by rw[hEH.out.1];exact hEH.out.2⟩)⟩⟩,hfin.out.2⟩
  ·have hyb:(y==[])=false:=by simpa using hy
   have hcu:=wy y 10 wr (hr.below hov.out.2.1) (by omega)
   have hcuH:Hid _:=hcu
   clear hcu
   go_wp2_with fail
   refine cM (show Calls _ _ _ _ _ from hcuH.out) ?_
   rintro e w2 ⟨⟨a,r,b,rfl,hab⟩,hg2⟩
   have hal:a.length≤y.length∧r.length≤y.length:=by
    rcases hab with ⟨_,e,_⟩|⟨_,_,e,e2⟩
    ·rw[e];simp;omega
    ·rw[e,e2];simp
   have hb2:Below w.heap.size w w2:=hov.out.2.1.trans (hg2.below.mono hov.out.2.1.size)
   have hpl:=m7 a w2 (hr.below hb2) (by omega)
   have hplH:Hid _:=hpl
   have hH2:Hid (Below w.heap.size w w2∧Gr wr w2):=⟨hb2,hg2⟩
   have habH:Hid _:=hab
   clear hpl hcuH hb2 hg2 hab
   go_wp2_with fail
   refine cM (show Calls _ _ _ _ _ from hplH.out) ?_
   rintro e w3 ⟨t',rfl,hb3,hres⟩
   have hb3H:Hid (Below w.heap.size w w3):=hH2.out.1.trans (hb3.mono hH2.out.1.size)
   cases b with
   | false =>
    have hfin:Hid (dW x=none):=by
     rcases habH.out with ⟨e,_⟩|⟨_,h1,_⟩
     ·cases e
     ·exact Pre.none hov.out.2.2.2 (qW h1 hy)
    clear hres hplH hov hb3
    go_wp2
    go_ret3
    exact ⟨⟨none,0,[],_,_,rfl,by omega,⟨oL rfl,fun s hs=>by cases hs⟩,NwQ.none _,by simp,oR ⟨by decide,rfl,oR (oL hfin.out)⟩⟩,hb3H.out.alloc hb3H.out.size _⟩
   | true =>
    obtain ⟨rfl,hna⟩:y=a++10::r∧(10:UInt8) ∉ a:=by
     rcases habH.out with ⟨_,h1,h2⟩|⟨e,_⟩
     ·exact ⟨h1,h2⟩
     ·cases e
    cases hla:iy a with
    | none =>
     have hfin:Hid (dW x=none):=Pre.none hov.out.2.2.2 (by rw[lK hna,hla])
     clear hres hplH hov hb3 hla habH
     go_wp2
     go_ret3
     exact ⟨⟨none,0,[],_,_,rfl,by omega,⟨oL rfl,fun s hs=>by cases hs⟩,NwQ.none _,by simp,oR ⟨by decide,rfl,oR (oL hfin.out)⟩⟩,hb3H.out.alloc hb3H.out.size _⟩
    | some s0 =>
     obtain ⟨hct,hht,hft⟩:=hres s0 hla
     have hpr:Hid (Pre x r (q0++[s0])∧(q++[t']).map clr=(q0++[s0]).map clr):=⟨hov.out.2.2.2.next hna hla,by rw[List.map_append,List.map_append,hov.out.2.2.1];simp[hct]⟩
     have how:Hid (OwnS w3 w.heap.size u5 q∧ApartS w3 w.heap.size u5.ownBlock t'):=⟨(hov.out.1.gr hH2.out.2).below hb3,⟨hht.1,hht.2.1,hht.2.2,fun a ha=>⟨nT hH2.out.1.size (hft a ha).1,(hft a ha).2,fun e=>by
      have h1:=(hov.out.1.own.lt _ e).2
      have h2:=(hft a ha).1
      have h3:=hH2.out.2.size
      omega⟩⟩⟩
     have hln:q.length+1+r.length≤1024:=by simp at hyl;omega
     clear hres hplH hov hb3 hla habH hct hht hft
     have hg5:Gr w3 ((w3.alloc (Y #[V I t'.k,V I t'.a,V I t'.b,V I t'.c,V I t'.o,V I t'.v,J t'.p t'.l.length t'.n] 86)).alloc (Y #[V I t'.k,V I t'.a,V I t'.b,V I t'.c,V I t'.o,V I t'.v,J t'.p t'.l.length t'.n] 86)):=((gR w3).alloc _).alloc _
     have hoX:Hid (OwnS ((w3.alloc (Y #[V I t'.k,V I t'.a,V I t'.b,V I t'.c,V I t'.o,V I t'.v,J t'.p t'.l.length t'.n] 86)).alloc (Y #[V I t'.k,V I t'.a,V I t'.b,V I t'.c,V I t'.o,V I t'.v,J t'.p t'.l.length t'.n] 86)) w.heap.size u5 q∧ax iH 7 ((w3.alloc (Y #[V I t'.k,V I t'.a,V I t'.b,V I t'.c,V I t'.o,V I t'.v,J t'.p t'.l.length t'.n] 86)).alloc (Y #[V I t'.k,V I t'.a,V I t'.b,V I t'.c,V I t'.o,V I t'.v,J t'.p t'.l.length t'.n] 86)) (some ⟨w3.heap.size+1,0,none⟩) [t']∧ApartS ((w3.alloc (Y #[V I t'.k,V I t'.a,V I t'.b,V I t'.c,V I t'.o,V I t'.v,J t'.p t'.l.length t'.n] 86)).alloc (Y #[V I t'.k,V I t'.a,V I t'.b,V I t'.c,V I t'.o,V I t'.v,J t'.p t'.l.length t'.n] 86)) w.heap.size u5.ownBlock t'∧q.length+1≤maxLen∧(q.length+1)*72≤140737488355328∧Below w.heap.size w ((w3.alloc (Y #[V I t'.k,V I t'.a,V I t'.b,V I t'.c,V I t'.o,V I t'.v,J t'.p t'.l.length t'.n] 86)).alloc (Y #[V I t'.k,V I t'.a,V I t'.b,V I t'.c,V I t'.o,V I t'.v,J t'.p t'.l.length t'.n] 86))):=⟨how.out.1.gr hg5,xr (by simp) t' 86,how.out.2.below hg5.below,by unfold maxLen;omega,by omega,hb3H.out.trans (hg5.below.mono hb3H.out.size)⟩
     clear how hg5
     go_wp2_with (at_builtin;refine fO _ rfl _ _ rfl w.heap.size u5 q t' ⟨w3.heap.size+1,0,none⟩ 1 rfl rfl hoX.out.1 hoX.out.2.1 hoX.out.2.2.1 hoX.out.2.2.2.1 hoX.out.2.2.2.2.1 hoX.out.2.2.2.2.2.size ?_;intro v7 w7 hown7 hb7)
     have hfin7:Hid (OwnS w7 w.heap.size v7 (q++[t'])∧Below w.heap.size w w7):=⟨hown7,hoX.out.2.2.2.2.2.trans hb7⟩
     clear hown7 hb7 hoX
     go_roundw
     case rel=>exact ⟨r,q++[t'],q0++[s0],rfl,by simp only[List.length_append,List.length_cons,List.length_nil];go_num,by simp;omega,hfin7.out.1,hfin7.out.2,hpr.out.2,hpr.out.1⟩
     case measure=>show r.toArray.size<(a++10::r).toArray.size;simp;omega
theorem sW (x:List UInt8) (w:World) (hr:Reads w) (hx0:x.length≤maxLen):Calls S 8 #[H ⟨x.toArray⟩] w fun e w'=>(∃A cap q k er,e= O (U #[J A q.length cap,V I k,V I er])∧0≤k∧Stps w' A q∧q.length≤1024∧fk x q er)∧Below w.heap.size w w' :=
 (mW x w hr hx0).mono fun _ _ ⟨⟨A,cap,q,k,er,h1,h2,h3,_,h5⟩,h6⟩=>⟨⟨A,cap,q,k,er,h1,h2,h3,h5⟩,h6⟩

theorem tD {w:World} {B:Nat} (a:Int) (ha:¬isN a) (x:List UInt8) :
  Calls S 22 #[Z (some ⟨B,0,none⟩),V I a,H ⟨x.toArray⟩] w fun e w'=>e= O (V I 4)∧w'=w:=by
 have hN:Hid (∀W,Calls S 31 #[V I a] W fun e w'=>e= O (X false)∧w'=W):=gX a ha
 clear ha
 go_enter Tryz.func22,Tryz.ntmps22
 go_wp2_with fail
 refine cM (hN.out _) ?_
 rintro e w1 ⟨rfl,rfl⟩
 go_wp2
 go_ret
 exact ⟨rfl,rfl⟩
theorem qY {w:World} {B:Nat} {P:Nat→Prop} {M:NetM} {Q:Nat→List (List Stp)} (h:NetP w B P M Q) (hr:Reads w) (i:Nat) (hi:i<4) (x:List UInt8) (hx:x.length≤maxLen) :
  Calls S 22 #[Z (some ⟨B,0,none⟩),V I i,H ⟨x.toArray⟩] w fun e w'=>∃q ep er Q',e= O (V I er)∧fk x q ep∧aX w B P w' M Q'∧((ep≠0∧er=ep∧Q'=Q)∨(ep=0∧er=wtE q (Q i)∧Q'=iu Q i (wtQ q (Q i)))):=by
 have hN:Hid (∀W,Calls S 31 #[V I i] W fun e w'=>e= O (X true)∧w'=W):=cD i hi
 have hP:Hid (Calls S 8 #[H ⟨x.toArray⟩] w fun e w'=>(∃A cap q k er,e= O (U #[J A q.length cap,V I k,V I er])∧0≤k∧Stps w' A q∧q.length≤1024∧fk x q er)∧Below w.heap.size w w'):=sW x w hr hx
 have hH:Hid (NetP w B P M Q∧i<4):=⟨h,hi⟩
 have hi4:(i:Int)<4:=by omega
 clear h hr hx
 go_enter Tryz.func22,Tryz.ntmps22
 go_wp2_with fail
 refine cM (hN.out _) ?_
 rintro e w1 ⟨rfl,rfl⟩
 go_wp2_with fail
 refine cM (show Calls _ _ _ _ _ from hP.out) ?_
 rintro e w2 ⟨⟨A,cap,q,k,er,rfl,f1,f2,f3,f4⟩,f5⟩
 have hF:Hid (Stps w2 A q∧q.length≤1024∧fk x q er∧Below w1.heap.size w1 w2):=⟨f2,f3,f4,f5⟩
 clear f1 f2 f3 f4 f5 hP
 by_cases he:er=0
 rotate_left
 ·have heb:(er != 0)=true:=by simpa using he
  have hfin:Hid (aX w1 B P w2 M Q∧er≠0):=⟨aX.same hH.out.1 hF.out.2.2.2,he⟩
  clear he
  go_wp2
  go_ret
  exact ⟨q,er,er,Q,rfl,hF.out.2.2.1,hfin.out.1,oL ⟨hfin.out.2,rfl,rfl⟩⟩
 subst he
 obtain ⟨E,hE⟩:∃E,wtE q (Q i)=E:=⟨_,rfl⟩
 have hW:Hid (Calls S 42 #[Z (some ⟨B,i*38,none⟩),J A q.length cap] w2 fun e w'=>e= O (V I E)∧aX w1 B P w' M (iu Q i (wtQ q (Q i)))):=by
  have hn:=hH.out.1.below hF.out.2.2.2
  have hd:=tE (hn.nd i hH.out.2) q A cap (by have:=hF.out.2.1;unfold maxLen;omega) hF.out.1
  rw[hE] at hd
  refine hd.mono ?_
  rintro e w' ⟨rfl,f1,f2⟩
  refine ⟨rfl,aX.ahead hF.out.2.2.2 hH.out.1.lt ?_⟩
  have hc:=hn.call hH.out.2 f1 f2 (nR _)
  rw[fN,fN] at hc
  exact hc
 have hEH:Hid (wtE q (Q i)=E):=hE
 clear hE
 go_wp2_with fail
 refine cM (show Calls _ _ _ _ _ from hW.out) ?_
 rintro e w3 ⟨rfl,f1⟩
 have hG:Hid _:=f1
 clear f1 hW
 go_wp2
 go_ret
 exact ⟨q,0,E,_,rfl,hF.out.2.2.1,hG.out,oR ⟨rfl,hEH.out.symm,rfl⟩⟩

theorem pF {t:Tab} {c:Ctx} (ht:aq t=0) (h0:bB t c=0):aq (bO t c)=0:=by
 have hs:woE t.c (am (ci c) t.e)=0:=by
  unfold bB at h0
  rw[ht] at h0
  by_cases hc:aK c=0
  ·rw[hc] at h0;simpa using h0
  ·rw[if_neg (by simp),if_pos hc] at h0;exact absurd h0 hc
 have hd:=du ht (ci c)
 obtain ⟨_,h2,h3⟩:=xG hd.2 hs
 have hT:bO t c=⟨woC t.c (am (ci c) t.e),fH c t.e⟩:=by unfold bO;rw[if_pos h0]
 rw[hT]
 refine je h2 (nT (List.length_filter_le _ _) (ai ht).2.1) (List.Pairwise.filter _ (dM ht)) fun y hy=> ?_
 have hy':=List.mem_filter.1 hy
 refine ⟨(h3 _).2 ⟨bP ht hy'.1,fun hm=> ?_⟩,e8 ht hy'.1⟩
 have:=(fE ht hy'.1).1 hm
 simp[this] at hy'
def ch (N:NetM) (h:Hap):Int :=
 if h.k=1 then (if isN h.a then ndE (N.s h.a.toNat) (N.t h.a.toNat) (h.a.toNat:Nat) h.e1 h.e2 h.e3 h.e4 h.e5 else 4)
 else if h.k=2 then (if isN h.a∧isN h.b then (if N.pk.length<200 then 0 else 2) else 4)
 else if h.k=3 then (if isN h.a∧isN h.b then (if N.pk.length<200 then o6 (N.s h.a.toNat) (N.t h.a.toNat) (N.s h.b.toNat).c (N.t h.b.toNat).c else 2) else 4)
 else if h.k=4 then (if 0≤h.n then (match N.pk[h.n.toNat]? with|some p=>gF (N.s p.1) (N.t p.1) p.2.1 p.2.2|none=>4) else 4)
 else 1
def xI (x:List UInt8) (h:Hap) (Q:Nat→List (List Stp)) (er:Int) (Q':Nat→List (List Stp)):Prop :=
 (¬isN h.a∧er=4∧Q'=Q)∨(isN h.a∧∃q ep,fk x q ep∧((ep≠0∧er=ep∧Q'=Q)∨(ep=0∧er=wtE q (Q h.a.toNat)∧Q'=iu Q h.a.toNat (wtQ q (Q h.a.toNat)))))
def pQ (x:List UInt8) (N:NetM) (h:Hap) (Q:Nat→List (List Stp)) (er:Int) (Q':Nat→List (List Stp)):Prop:=(h.k≠5∧er=ch N h∧Q'=Q)∨(h.k=5∧xI x h Q er Q')
section
variable {w:World} {B:Nat} {P:Nat→Prop} {M:NetM} {Q:Nat→List (List Stp)}
theorem uf (h:NetP w B P M Q) (y:Hap) (hk:y.k=1):Calls S 19 #[Z (some ⟨B,0,none⟩),V I y.a,.agg #[V I y.e1,V I y.e2,V I y.e3,V I y.e4,V I y.e5]] w fun e w'=>e= O (V I (ch M y))∧aX w B P w' (bE M y) Q:=by
 by_cases ha:isN y.a
 ·obtain ⟨i,hi,hi4⟩:=gW ha
  have e1:ch M y=ndE (M.s i) (M.t i) i y.e1 y.e2 y.e3 y.e4 y.e5:=by unfold ch;rw[if_pos hk,if_pos ha,hi];rfl
  have e2:bE M y=⟨upd M.s i (ndS (M.s i) i y.e1 y.e2 y.e3 y.e4 y.e5),upd M.t i (ndT (M.t i) i y.e1 y.e2 y.e3 y.e4 y.e5),M.pk⟩:=by unfold bE;rw[if_pos hk,if_pos ha,hi];rfl
  rw[e1,e2,hi]
  exact ug h i hi4 _ _ _ _ _
 ·have e1:ch M y=4:=by unfold ch;rw[if_pos hk,if_neg ha]
  have e2:bE M y=M:=by unfold bE;rw[if_pos hk,if_neg ha]
  rw[e1,e2]
  exact wH h _ _ _ _ _ _ ha
theorem xv (k a b:Int) (hn:¬(isN a∧isN b)):Calls S 20 #[Z (some ⟨B,0,none⟩),V I k,V I a,V I b] w fun e w'=>e= O (V I 4)∧w'=w:=by
 by_cases ha:isN a
 ·obtain ⟨i,rfl,hi4⟩:=gW ha
  have h1:Hid (∀W,Calls S 31 #[V I i] W fun e w'=>e= O (X true)∧w'=W):=cD i hi4
  have h2:Hid (∀W,Calls S 31 #[V I b] W fun e w'=>e= O (X false)∧w'=W):=gX b fun k=>hn ⟨ha,k⟩
  clear hn ha
  go_enter Tryz.func20,Tryz.ntmps20
  go_wp2_with fail
  refine cM (h1.out _) ?_
  rintro e w1 ⟨rfl,rfl⟩
  go_wp2_with fail
  refine cM (h2.out _) ?_
  rintro e w0 ⟨rfl,rfl⟩
  go_wp2
  go_ret
  exact ⟨rfl,rfl⟩
 ·have h1:Hid (∀W,Calls S 31 #[V I a] W fun e w'=>e= O (X false)∧w'=W):=gX a ha
  clear hn ha
  go_enter Tryz.func20,Tryz.ntmps20
  go_wp2_with fail
  refine cM (h1.out _) ?_
  rintro e w1 ⟨rfl,rfl⟩
  go_wp2
  go_ret
  exact ⟨rfl,rfl⟩
theorem tm (h:NetP w B P M Q) (k:Int) (i j:Nat) (hi:i<4) (hj:j<4) (hl:¬M.pk.length<200):Calls S 20 #[Z (some ⟨B,0,none⟩),V I k,V I i,V I j] w fun e w'=>e= O (V I 2)∧w'=w:=by
 obtain ⟨L,A,c,hp⟩:=h.pk
 have hc:=hp.cel
 have hL:L.length=M.pk.length:=by rw[←hp.eq,List.length_map]
 have hz:(200:Int)≤(L.length:Int):=by omega
 have h1:Hid (∀W,Calls S 31 #[V I i] W fun e w'=>e= O (X true)∧w'=W):=cD i hi
 have h2:Hid (∀W,Calls S 31 #[V I j] W fun e w'=>e= O (X true)∧w'=W):=cD j hj
 clear h hp hL hi hj hl
 go_enter Tryz.func20,Tryz.ntmps20
 go_wp2_with fail
 refine cM (h1.out _) ?_
 rintro e w1 ⟨rfl,rfl⟩
 go_wp2_with fail
 refine cM (h2.out _) ?_
 rintro e w0 ⟨rfl,rfl⟩
 go_wp2
 go_ret
 exact ⟨rfl,rfl⟩
theorem pC (h:NetP w B P M Q) (y:Hap) (hk:y.k=2∨y.k=3):Calls S 20 #[Z (some ⟨B,0,none⟩),V I y.k,V I y.a,V I y.b] w fun e w'=>e= O (V I (ch M y))∧aX w B P w' (bE M y) Q:=by
 have h1:¬y.k=1:=by omega
 have same:∀ {E:Int},ch M y=E→bE M y=M→Calls S 20 #[Z (some ⟨B,0,none⟩),V I y.k,V I y.a,V I y.b] w (fun e w'=>e= O (V I E)∧w'=w)→Calls S 20 #[Z (some ⟨B,0,none⟩),V I y.k,V I y.a,V I y.b] w fun e w'=>e= O (V I (ch M y))∧aX w B P w' (bE M y) Q:=by
  intro E e1 e2 hc
  rw[e1,e2]
  refine hc.mono ?_
  rintro e w' ⟨rfl,rfl⟩
  exact ⟨rfl,aX.same h (bR _ _)⟩
 by_cases hab:isN y.a∧isN y.b
 rotate_left
 ·have hab3:¬(isN y.a∧isN y.b∧M.pk.length<200):=fun k=>hab ⟨k.1,k.2.1⟩
  refine same (E:=4) ?_ ?_ (xv _ _ _ hab)
  ·unfold ch;rw[if_neg h1]
   rcases hk with hk|hk
   ·rw[if_pos hk,if_neg hab]
   ·rw[if_neg (by omega),if_pos hk,if_neg hab]
  ·unfold bE;rw[if_neg h1]
   rcases hk with hk|hk
   ·rw[if_pos hk,if_neg hab3]
   ·rw[if_neg (by omega),if_pos hk,if_neg hab3]
 obtain ⟨i,hi,hi4⟩:=gW hab.1
 obtain ⟨j,hj,hj4⟩:=gW hab.2
 by_cases hl:M.pk.length<200
 rotate_left
 ·have hab3:¬(isN y.a∧isN y.b∧M.pk.length<200):=fun k=>hl k.2.2
  refine same (E:=2) ?_ ?_ (by rw[hi,hj];exact tm h _ i j hi4 hj4 hl)
  ·unfold ch;rw[if_neg h1]
   rcases hk with hk|hk
   ·rw[if_pos hk,if_pos hab,if_neg hl]
   ·rw[if_neg (by omega),if_pos hk,if_pos hab,if_neg hl]
  ·unfold bE;rw[if_neg h1]
   rcases hk with hk|hk
   ·rw[if_pos hk,if_neg hab3]
   ·rw[if_neg (by omega),if_pos hk,if_neg hab3]
 have hab3:isN y.a∧isN y.b∧M.pk.length<200:=⟨hab.1,hab.2,hl⟩
 have ok:∀n,n<4→aq (M.s n)=0∧aq (M.t n)=0:=fun n hn=>⟨(h.nd n hn).ts.ok,(h.nd n hn).tt.ok⟩
 rcases hk with hk|hk
 ·have e1:ch M y=0:=by unfold ch;rw[if_neg h1,if_pos hk,if_pos hab,if_pos hl]
  have e2:bE M y=qV M 0 j (M.s i) (M.t i):=by unfold bE qV;rw[if_neg h1,if_pos hk,if_pos hab3,if_pos rfl,hi,hj];rfl
  rw[e1,e2,hk,hi,hj]
  exact pD h 2 i j hi4 hj4 hl (fun _=>ok i hi4) (nV h i hi4 j)
 ·have e1:ch M y=o6 (M.s i) (M.t i) (M.s j).c (M.t j).c:=by unfold ch;rw[if_neg h1,if_neg (by omega),if_pos hk,if_pos hab,if_pos hl,hi,hj];rfl
  have e2:bE M y=qV M (o6 (M.s i) (M.t i) (M.s j).c (M.t j).c) j (snS (M.s i) (M.t i) (M.s j).c (M.t j).c) (snT (M.s i) (M.t i) (M.s j).c (M.t j).c):=by
   unfold bE
   rw[if_neg h1,if_neg (by omega),if_pos hk,if_pos hab3,hi,hj]
   show rn M i j=_
   unfold rn qV
   by_cases h0:o6 (M.s i) (M.t i) (M.s j).c (M.t j).c=0
   ·rw[if_pos h0,if_pos h0]
    unfold snS snT
    rw[if_pos (show gf (M.s i) (M.t i) (M.s j).c (M.t j).c=0 from h0),if_pos (show gf (M.s i) (M.t i) (M.s j).c (M.t j).c=0 from h0)]
   ·rw[if_neg h0,if_neg h0]
  rw[e1,e2,hk,hi,hj]
  refine pD h 3 i j hi4 hj4 hl (fun h0=> ?_) (px h i j hi4 hj4)
  have h0':gf (M.s i) (M.t i) (M.s j).c (M.t j).c=0:=h0
  unfold snS snT
  rw[if_pos h0',if_pos h0']
  unfold gf at h0'
  by_cases hs:bB (M.s i) (M.s j).c=0
  ·rw[if_pos hs] at h0'
   exact ⟨pF (ok i hi4).1 hs,pF (ok i hi4).2 h0'⟩
  ·rw[if_neg hs] at h0'
   exact absurd h0' hs
theorem vL (h:NetP w B P M Q) (y:Hap) (hk:y.k=4):Calls S 21 #[Z (some ⟨B,0,none⟩),V I y.n] w fun e w'=>e= O (V I (ch M y))∧aX w B P w' (bE M y) Q:=by
 have k1:¬y.k=1:=by omega
 have k2:¬y.k=2:=by omega
 have k3:¬y.k=3:=by omega
 have no:ch M y=4→bE M y=M→(y.n<0∨(M.pk.length:Int)≤y.n)→Calls S 21 #[Z (some ⟨B,0,none⟩),V I y.n] w fun e w'=>e= O (V I (ch M y))∧aX w B P w' (bE M y) Q:=fun e1 e2 hn=>by
  rw[e1,e2]
  refine (vK h y.n hn).mono ?_
  rintro e w' ⟨rfl,rfl⟩
  exact ⟨rfl,aX.same h (bR _ _)⟩
 by_cases h0:0≤y.n
 rotate_left
 ·refine no ?_ ?_ (oL (by omega))
  ·unfold ch;rw[if_neg k1,if_neg k2,if_neg k3,if_pos hk,if_neg h0]
  ·unfold bE;rw[if_neg k1,if_neg k2,if_neg k3,if_pos hk,if_neg h0]
 obtain ⟨n,hn⟩:∃n:Nat,y.n=n:=⟨y.n.toNat,by omega⟩
 cases hp:M.pk[n]? with
 | none =>
  refine no ?_ ?_ (oR (by rw[hn];have:=List.getElem?_eq_none_iff.1 hp;omega))
  ·unfold ch;rw[if_neg k1,if_neg k2,if_neg k3,if_pos hk,if_pos h0,hn,Int.toNat_natCast,hp]
  ·unfold bE;rw[if_neg k1,if_neg k2,if_neg k3,if_pos hk,if_pos h0,hn,Int.toNat_natCast,hp]
 | some p =>
  have e1:ch M y=gF (M.s p.1) (M.t p.1) p.2.1 p.2.2:=by unfold ch;rw[if_neg k1,if_neg k2,if_neg k3,if_pos hk,if_pos h0,hn,Int.toNat_natCast,hp]
  have e2:bE M y=gp M p.1 p.2.1 p.2.2:=by unfold bE;rw[if_neg k1,if_neg k2,if_neg k3,if_pos hk,if_pos h0,hn,Int.toNat_natCast,hp]
  rw[e1,e2,hn]
  exact tw h n hp
theorem tF (h:NetP w B P M Q) (hr:Reads w) (x:List UInt8) (hx:x.length≤maxLen) (y:Hap):Calls S 22 #[Z (some ⟨B,0,none⟩),V I y.a,H ⟨x.toArray⟩] w fun e w'=>∃er Q',e= O (V I er)∧xI x y Q er Q'∧aX w B P w' M Q':=by
 by_cases ha:isN y.a
 ·obtain ⟨i,hi,hi4⟩:=gW ha
  have hw:=qY h hr i hi4 x hx
  rw[←hi] at hw
  refine hw.mono ?_
  rintro e w' ⟨q,ep,er,Q',rfl,f1,f2,f3⟩
  refine ⟨er,Q',rfl,oR ⟨ha,q,ep,f1,?_⟩,f2⟩
  rw[hi]
  exact f3
 ·refine (tD (B:=B) y.a ha x).mono ?_
  rintro e w' ⟨rfl,rfl⟩
  exact ⟨4,Q,rfl,oL ⟨ha,rfl,rfl⟩,aX.same h (bR _ _)⟩
end
theorem rp {w:World} {B:Nat} {P:Nat→Prop} {M:NetM} {Q:Nat→List (List Stp)} (h:NetP w B P M Q) (hr:Reads w) (x:List UInt8) (hx:x.length≤maxLen) (y:Hap) :
  Calls S 7 #[Z (some ⟨B,0,none⟩),.agg #[V I y.k,V I y.a,V I y.b,V I y.n,V I y.e1,V I y.e2,V I y.e3,V I y.e4,V I y.e5,H ⟨x.toArray⟩]] w fun e w'=>∃er Q',e= O (V I er)∧pQ x M y Q er Q'∧aX w B P w' (bE M y) Q':=by
 obtain ⟨w1,hw1⟩:∃W,w.alloc (Y #[V I y.k,V I y.a,V I y.b,V I y.n,V I y.e1,V I y.e2,V I y.e3,V I y.e4,V I y.e5,H ⟨x.toArray⟩] 30)=W:=⟨_,rfl⟩
 have hg1:Gr w w1:=by rw[←hw1];exact (gR w).alloc _
 have hBx:Cls w1 w.heap.size [V I y.k,V I y.a,V I y.b,V I y.n,V I y.e1,V I y.e2,V I y.e3,V I y.e4,V I y.e5,H ⟨x.toArray⟩]:=by rw[←hw1];exact Cls.new w _ _
 obtain ⟨b0,b1,b2,b3,b4,b5,b6,b7,b8,b9⟩:=oB hBx
 have h1:=h.below hg1.below
 have hr1:=hr.below hg1.below
 have hH:Hid (aX w B P w1 M Q∧Below w.heap.size w w1∧B<w.heap.size):=⟨aX.same h hg1.below,hg1.below,h.lt⟩
 have m5:¬y.k=1→¬y.k=2→¬y.k=3→¬y.k=4→bE M y=M:=fun a b c d=>by unfold bE;rw[if_neg a,if_neg b,if_neg c,if_neg d]
 clear hBx hg1 h hr
 by_cases k1:y.k=1
 ·have hC:Hid _:=uf h1 y k1
  have kb1:(y.k==1)=true:=by simp;omega
  have k5:Hid (y.k≠5):=by show _≠_;omega
  clear k1 h1 m5
  go_enter Tryz.func7,Tryz.ntmps7
  go_wp2_with fail
  try rw[hw1]
  refine cM (show Calls _ _ _ _ _ from hC.out) ?_
  rintro e w2 ⟨rfl,f1⟩
  have hF:Hid (aX w B P w2 (bE M y) Q):=f1.ahead hH.out.2.1 hH.out.2.2
  clear f1 hC
  obtain ⟨E,hE⟩:∃E,ch M y=E:=⟨_,rfl⟩
  have hEH:Hid (ch M y=E):=hE
  rw[hE]
  clear hE
  go_wp2
  go_ret
  exact ⟨E,Q,rfl,oL ⟨k5.out,hEH.out.symm,rfl⟩,hF.out⟩
 by_cases k2:y.k=2
 ·have hC:Hid _:=pC h1 y (oL k2)
  have kb1:(y.k==1)=false:=by simp;omega
  have kb2:(y.k==2)=true:=by simp;omega
  have k5:Hid (y.k≠5):=by show _≠_;omega
  clear k1 k2 h1 m5
  go_enter Tryz.func7,Tryz.ntmps7
  go_wp2_with fail
  try rw[hw1]
  refine cM (show Calls _ _ _ _ _ from hC.out) ?_
  rintro e w2 ⟨rfl,f1⟩
  have hF:Hid (aX w B P w2 (bE M y) Q):=f1.ahead hH.out.2.1 hH.out.2.2
  clear f1 hC
  obtain ⟨E,hE⟩:∃E,ch M y=E:=⟨_,rfl⟩
  have hEH:Hid (ch M y=E):=hE
  rw[hE]
  clear hE
  go_wp2
  go_ret
  exact ⟨E,Q,rfl,oL ⟨k5.out,hEH.out.symm,rfl⟩,hF.out⟩
 by_cases k3:y.k=3
 ·have hC:Hid _:=pC h1 y (oR k3)
  have kb1:(y.k==1)=false:=by simp;omega
  have kb2:(y.k==2)=false:=by simp;omega
  have kb3:(y.k==3)=true:=by simp;omega
  have k5:Hid (y.k≠5):=by show _≠_;omega
  clear k1 k2 k3 h1 m5
  go_enter Tryz.func7,Tryz.ntmps7
  go_wp2_with fail
  try rw[hw1]
  refine cM (show Calls _ _ _ _ _ from hC.out) ?_
  rintro e w2 ⟨rfl,f1⟩
  have hF:Hid (aX w B P w2 (bE M y) Q):=f1.ahead hH.out.2.1 hH.out.2.2
  clear f1 hC
  obtain ⟨E,hE⟩:∃E,ch M y=E:=⟨_,rfl⟩
  have hEH:Hid (ch M y=E):=hE
  rw[hE]
  clear hE
  go_wp2
  go_ret
  exact ⟨E,Q,rfl,oL ⟨k5.out,hEH.out.symm,rfl⟩,hF.out⟩
 by_cases k4:y.k=4
 ·have hC:Hid _:=vL h1 y k4
  have kb1:(y.k==1)=false:=by simp;omega
  have kb2:(y.k==2)=false:=by simp;omega
  have kb3:(y.k==3)=false:=by simp;omega
  have kb4:(y.k==4)=true:=by simp;omega
  have k5:Hid (y.k≠5):=by show _≠_;omega
  clear k1 k2 k3 k4 h1 m5
  go_enter Tryz.func7,Tryz.ntmps7
  go_wp2_with fail
  try rw[hw1]
  refine cM (show Calls _ _ _ _ _ from hC.out) ?_
  rintro e w2 ⟨rfl,f1⟩
  have hF:Hid (aX w B P w2 (bE M y) Q):=f1.ahead hH.out.2.1 hH.out.2.2
  clear f1 hC
  obtain ⟨E,hE⟩:∃E,ch M y=E:=⟨_,rfl⟩
  have hEH:Hid (ch M y=E):=hE
  rw[hE]
  clear hE
  go_wp2
  go_ret
  exact ⟨E,Q,rfl,oL ⟨k5.out,hEH.out.symm,rfl⟩,hF.out⟩
 have hM:Hid (bE M y=M):=m5 k1 k2 k3 k4
 have kb1:(y.k==1)=false:=by simp;omega
 have kb2:(y.k==2)=false:=by simp;omega
 have kb3:(y.k==3)=false:=by simp;omega
 have kb4:(y.k==4)=false:=by simp;omega
 by_cases k5:y.k=5
 ·have hC:Hid _:=tF h1 hr1 x hx y
  have kb5:(y.k==5)=true:=by simp;omega
  have k5H:Hid (y.k=5):=k5
  clear k1 k2 k3 k4 k5 h1 m5 hr1
  go_enter Tryz.func7,Tryz.ntmps7
  go_wp2_with fail
  try rw[hw1]
  refine cM (show Calls _ _ _ _ _ from hC.out) ?_
  rintro e w2 ⟨E,Q',rfl,f1,f2⟩
  have hF:Hid (xI x y Q E Q'∧aX w B P w2 M Q'):=⟨f1,f2.ahead hH.out.2.1 hH.out.2.2⟩
  clear f1 f2 hC
  go_wp2
  go_ret
  refine ⟨E,Q',rfl,oR ⟨k5H.out,hF.out.1⟩,?_⟩
  rw[hM.out]
  exact hF.out.2
 ·have kb5:(y.k==5)=false:=by simp;omega
  have k5H:Hid (y.k≠5∧ch M y=1):=⟨k5,by unfold ch;rw[if_neg k1,if_neg k2,if_neg k3,if_neg k4]⟩
  clear k1 k2 k3 k4 k5 h1 m5 hr1
  go_enter Tryz.func7,Tryz.ntmps7
  go_wp2
  try rw[hw1]
  go_ret
  refine ⟨1,Q,rfl,oL ⟨k5H.out.1,k5H.out.2.symm,rfl⟩,?_⟩
  rw[hM.out]
  exact hH.out.1
end Go.Proofs.YtfedpiamlpflhaaGreatDoor
