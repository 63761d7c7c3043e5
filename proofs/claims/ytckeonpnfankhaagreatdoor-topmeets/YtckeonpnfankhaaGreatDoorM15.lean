/-
  query.opOf, query.kindOf: the op of a sign, the kind of a word.
  strings.Split and strings.Cut at one byte.
  query.parseList: the numbers that a word tells.
  query.parsePart: one part is put into a step.
  query.parseLine: the step of a line.
  Steps of one's own: append, one by one.
-/
import Derived.Test.YtckeonpnfankhaaGreatDoorM14
set_option maxRecDepth 100000
set_option maxHeartbeats 8000000
namespace Go.Proofs.YtckeonpnfankhaaGreatDoor
open Go.RowKit Go.Sort

theorem oV (x:List UInt8):0≤cY x∧cY x≤3:=by
 unfold cY
 repeat' split
 all_goals decide
theorem uU (x:List UInt8) (w:World):Calls Tryz.prog 85 #[.string ⟨x.toArray⟩] w fun e w'=>e= .returned (.int .i64 (cY x))∧w'=w:=by
 go_enter Tryz.func85,Tryz.ntmps85
 go_wp2
 go_loopw [3] (fun i wr=>∃j:Nat,j≤3∧i= .int .i64 ((j:Int)+1)∧Hid (∀m:Nat,m<j→jh ((m:Int)+1)≠x)∧wr=w) (fun i _=>4-(intOf i).toNat)
 case atStart=>exact ⟨0,nZ _,rfl,fun m h=>by omega,rfl⟩
 case round =>
  obtain ⟨j,hj,rfl,hall,rfl⟩:=hrel
  by_cases hlt:j<3
  ·have hle:decide ((j:Int)+1≤3)=true:=decide_eq_true (by omega)
   have hsg:=qK ((j:Int)+1) wr
   have hsgH:Hid _:=hsg
   clear hsg
   by_cases hq:jh ((j:Int)+1)=x
   ·have hfin:Hid (cY x=(j:Int)+1):=by
     show _=_
     rw[←hq]
     exact qD (by omega)
    rw[hq] at hsgH
    clear hq
    go_wp2_with (go_at_call 121;(refine cM (show Calls _ _ _ _ _ from hsgH.out) ?_);rintro e w' ⟨rfl,rfl⟩)
    go_ret
    exact ⟨by rw[hfin.out];rfl,rfl⟩
   ·have hb:(jh ((j:Int)+1)==x)=false:=by simpa using hq
    have hqH:Hid (jh ((j:Int)+1)≠x):=hq
    clear hq
    go_wp2_with (go_at_call 121;(refine cM (show Calls _ _ _ _ _ from hsgH.out) ?_);rintro e w' ⟨rfl,rfl⟩)
    go_roundw
    case rel =>
     refine ⟨j+1,by omega,by go_num,?_,by trivial⟩
     intro m hm
     by_cases e:m=j
     ·subst e;exact hqH.out
     ·exact hall m (by omega)
    case measure=>simp[intOf];omega
  ·have hle:decide ((j:Int)+1≤3)=false:=decide_eq_false (by omega)
   have hfin:Hid (cY x=0):=by
    show _=_
    by_cases h0:cY x=0
    ·exact h0
    ·have hr:=oV x
     have ht:=pM h0
     exact absurd (by rw[show (((cY x).toNat-1:Nat):Int)+1=cY x by omega];exact ht) (hall ((cY x).toNat-1) (by omega))
   go_wp2
   go_ret
   exact ⟨by rw[hfin.out];rfl,rfl⟩

theorem qd (x:List UInt8) (w:World):Calls Tryz.prog 61 #[.string ⟨x.toArray⟩] w fun e w'=>e= .returned (.int .i64 (dj x))∧w'=w:=by
 go_enter Tryz.func61,Tryz.ntmps61
 go_wp2
 go_loopw [3] (fun i wr=>∃j:Nat,j≤9∧i= .int .i64 ((j:Int)+1)∧Hid (∀m:Nat,m<j→dN ((m:Int)+1)≠x)∧wr=w) (fun i _=>10-(intOf i).toNat)
 case atStart=>exact ⟨0,nZ _,rfl,fun m h=>by omega,rfl⟩
 case round =>
  obtain ⟨j,hj,rfl,hall,rfl⟩:=hrel
  by_cases hlt:j<9
  ·have hle:decide ((j:Int)+1≤9)=true:=decide_eq_true (by omega)
   have hsg:=iQ ((j:Int)+1) wr
   obtain ⟨P,hP⟩:∃P,bf ((j:Int)+1)=P:=⟨_,rfl⟩
   rw[hP] at hsg
   have hsgH:Hid _:=hsg
   clear hsg hP
   by_cases hq:dN ((j:Int)+1)=x
   ·have hfin:Hid (dj x=(j:Int)+1):=by
     show _=_
     rw[←hq]
     exact pT (by omega)
    rw[hq] at hsgH
    clear hq
    go_wp2_with (go_at_call 62;(refine cM (show Calls _ _ _ _ _ from hsgH.out) ?_);rintro e w' ⟨rfl,rfl⟩)
    go_ret
    exact ⟨by rw[hfin.out];rfl,rfl⟩
   ·have hb:(dN ((j:Int)+1)==x)=false:=by simpa using hq
    have hqH:Hid (dN ((j:Int)+1)≠x):=hq
    clear hq
    go_wp2_with (go_at_call 62;(refine cM (show Calls _ _ _ _ _ from hsgH.out) ?_);rintro e w' ⟨rfl,rfl⟩)
    go_roundw
    case rel =>
     refine ⟨j+1,by omega,by go_num,?_,by trivial⟩
     intro m hm
     by_cases e:m=j
     ·subst e;exact hqH.out
     ·exact hall m (by omega)
    case measure=>simp[intOf];omega
  ·have hle:decide ((j:Int)+1≤9)=false:=decide_eq_false (by omega)
   have hfin:Hid (dj x=0):=by
    show _=_
    by_cases h0:dj x=0
    ·exact h0
    ·have ht:=qp h0
     exact absurd (by rw[show (((dj x).toNat-1:Nat):Int)+1=dj x by omega];exact ht.1) (hall ((dj x).toNat-1) (by omega))
   go_wp2
   go_ret
   exact ⟨by rw[hfin.out];rfl,rfl⟩

theorem yP (c b:UInt8) (l:List UInt8):[c].isPrefixOf (b::l)=(c==b):=by simp[List.isPrefixOf]
theorem nx (c:UInt8):∀x:List UInt8,(c ∉ x∧Lib.index x [c]= -1)∨(∃a r,x=a++c::r∧c ∉ a∧Lib.index x [c]=(a.length:Int))
 | []=>oL ⟨by simp,rfl⟩
 | b::l=>by
  rw[Lib.index,yP]
  by_cases h:c=b
  ·subst h
   exact oR ⟨[],l,rfl,by simp,by simp⟩
  ·have hb:¬(c==b)=true:=by simpa using h
   rw[if_neg hb]
   rcases nx c l with ⟨h1,h2⟩|⟨a,r,h1,h2,h3⟩
   ·refine oL ⟨by simp[h,h1],by rw[h2];rfl⟩
   ·refine oR ⟨b::a,r,by rw[h1];rfl,by simp[h,h2],?_⟩
    have hn:¬(Lib.index l [c] == -1)=true:=by rw[h3];simp
    rw[if_neg hn,h3]
    simp
theorem rB (c:UInt8):∀(n:Nat) (x:List UInt8),x.length≤n→Lib.split x [c]=aU c x
 | n,x,hn=>by
  rcases nx c x with ⟨h1,h2⟩|⟨a,r,h1,h2,h3⟩
  ·unfold Lib.split
   rw[Lib.count_miss h2,Lib.splitK,iK x h1]
  ·cases n with
   | zero=>rw[h1] at hn;simp at hn
   | succ n =>
    have hr:r.length≤n:=by rw[h1] at hn;simp at hn;omega
    have ih:=rB c n r hr
    have hd:x.drop (a.length+[c].length)=r:=by rw[h1];simp
    have ht:x.take a.length=a:=by rw[h1];simp
    unfold Lib.split at ih ⊢
    rw[Lib.count_hit (by simp) h3,hd,Nat.add_comm,Lib.splitK]
    have hm:¬(Lib.index x [c] == -1)=true:=by rw[h3];simp
    rw[if_neg hm,h3,show ((a.length:Int)).toNat+0=a.length by simp,show ((a.length:Int)).toNat+[c].length=a.length+[c].length by simp,hd,ht,ih,h1,iG a r h2]
theorem px (c:UInt8) (x:List UInt8):Lib.splitB ⟨#[c]⟩ 0 (Lib.countB ⟨x.toArray⟩ ⟨#[c]⟩) ⟨x.toArray⟩=(aU c x).map fun y=>(⟨y.toArray⟩:ByteArray):=by
 have h:=Lib.splitB_data ⟨#[c]⟩ 0 (Lib.countB ⟨x.toArray⟩ ⟨#[c]⟩) ⟨x.toArray⟩
 have h2:Lib.splitK [c] 0 (Lib.count x [c]) x=aU c x:=rB c x.length x (nR _)
 have h3:(Lib.splitB ⟨#[c]⟩ 0 (Lib.countB ⟨x.toArray⟩ ⟨#[c]⟩) ⟨x.toArray⟩).map (·.data.toList)=aU c x:=h.trans h2
 rw[←h3,List.map_map]
 have:((fun y:List UInt8=>(⟨y.toArray⟩:ByteArray)) ∘ fun b:ByteArray=>b.data.toList)=id:=by
  funext b
  rfl
 rw[this,List.map_id]
theorem gY (c:UInt8):∀x,(aU c x).length≤x.length+1
 | []=>by simp[aU]
 | b::r=>by
  have ih:=gY c r
  rw[aU]
  split
  ·simp;omega
  ·split
   ·simp
   ·next e=>rw[e] at ih;simp at ih ⊢;omega
theorem wB (c:UInt8) (x:List UInt8):Lib.countB ⟨x.toArray⟩ ⟨#[c]⟩+1=(aU c x).length:=by
 have h:=Lib.splitB_all ⟨#[c]⟩ (nR 1) 0 _ (⟨x.toArray⟩:ByteArray) rfl
 rw[px,List.length_map] at h
 exact h.symm
theorem uH {W:World} (xs:List (List UInt8)) (T:TypeId):sp (W.alloc (.cells ((xs.map fun y=>(⟨y.toArray⟩:ByteArray)).map Value.string).toArray T)) (some ⟨W.heap.size,0,none⟩) xs:=by
 refine oR ⟨W.heap.size,0,rfl,by simp,fun j hj i hi=> ?_⟩
 obtain rfl:i=0:=by omega
 simp[wh,List.getElem?_eq_getElem hj]
theorem mB (x:List UInt8) (c:UInt8) (w:World) (hr:Reads w) (hx:x.length<4294967281):Calls Tryz.prog 60 #[.string ⟨x.toArray⟩,.string ⟨#[c]⟩] w fun e w'=>e= .returned (.slice (some ⟨w.heap.size,0,none⟩) (aU c x).length (aU c x).length)∧sp w' (some ⟨w.heap.size,0,none⟩) (aU c x)∧Below w.heap.size w w':=by
 obtain ⟨m,hm⟩:=hr.len
 have hc:=Any.strings_Split Tryz.lays146.1 Tryz.lays146.i9 ⟨x.toArray⟩ ⟨#[c]⟩ m w hx hm (nR 1)
 change Calls Tryz.prog 60 _ _ _ at hc
 rw[px] at hc
 refine hc.mono ?_
 rintro e w' ⟨rfl,rfl⟩
 have:=wB c x
 refine ⟨?_,uH _ _,Below.alloc (bR _ _) (nR _) _⟩
 rw[←this]
theorem wG (w:World) (n:Nat):Gr w (w.drewN n):=Gr.of ⟨rfl,rfl,rfl,nR _,fun _ _=>rfl⟩ (by simp[World.drewN])
theorem wv (x:List UInt8) (c:UInt8) (w:World) (hr:Reads w) (hx:x.length<4294967281):Calls Tryz.prog 40 #[.string ⟨x.toArray⟩,.string ⟨#[c]⟩] w fun e w'=>(∃a r b,e= .returned (.tuple #[.string ⟨a.toArray⟩,.string ⟨r.toArray⟩,.bool b])∧((b=true∧x=a++c::r∧c ∉ a)∨(b=false∧c ∉ x∧a=x∧r=[])))∧Gr w w':=by
 obtain ⟨m,hm⟩:=hr.len
 have hc:=Any.strings_Cut Tryz.lays145.1 ⟨x.toArray⟩ ⟨#[c]⟩ m w hx hm
 change Calls Tryz.prog 40 _ _ _ at hc
 refine hc.mono ?_
 rintro e w' ⟨rfl,n,rfl⟩
 refine ⟨⟨_,_,_,rfl,?_⟩,wG _ _⟩
 show ((Lib.cut x [c]).2.2=true∧x=(Lib.cut x [c]).1++c::(Lib.cut x [c]).2.1∧c ∉ (Lib.cut x [c]).1)∨((Lib.cut x [c]).2.2=false∧c ∉ x∧(Lib.cut x [c]).1=x∧(Lib.cut x [c]).2.1=[])
 unfold Lib.cut
 rcases nx c x with ⟨h1,h2⟩|⟨a,r,h1,h2,h3⟩
 ·rw[if_neg (by omega)]
  exact oR ⟨rfl,h1,rfl,rfl⟩
 ·have hd:x.drop (a.length+[c].length)=r:=by rw[h1];simp
  have ht:x.take a.length=a:=by rw[h1];simp
  rw[if_pos (by omega),h3]
  simp only[Int.toNat_natCast,hd,ht]
  exact oL ⟨trivial,h1,h2⟩

theorem kY:∀ {xs:List (List UInt8)} {M:List Int} {y:List UInt8} {n:Int},dU xs=some M→dc y=some n→dU (xs++[y])=some (M++[n])
 | [],M,y,n,h,k=>by
  obtain rfl:=sI h
  simp[dU,k]
 | x::r,M,y,n,h,k=>by
  rw[dU] at h
  cases e:dc x with
  | none=>rw[e] at h;simp at h
  | some a =>
   cases e2:dU r with
   | none=>rw[e,e2] at h;simp at h
   | some m =>
    rw[e,e2] at h
    obtain rfl:=sI h
    rw[List.cons_append,dU,e,kY e2 k]
    rfl
theorem ky:∀ {xs:List (List UInt8)} {y:List UInt8},y∈xs→dc y=none→dU xs=none
 | [],y,h,_=>by simp at h
 | x::r,y,h,k=>by
  rw[dU]
  rcases List.mem_cons.1 h with rfl|h
  ·rw[k]
  ·rw[ky h k]
   cases dc x<;>rfl
theorem mg (x:List UInt8) (w:World) (hr:Reads w) (hx:x.length≤100000):Calls Tryz.prog 86 #[.string ⟨x.toArray⟩] w fun e w'=>(∃v,e= .returned (.tuple #[v,.bool (iv x).isSome])∧ef w' w.heap.size v ((iv x).getD []))∧Below w.heap.size w w':=by
 have hsp:=mB x 44 w hr (by omega)
 have hln:=gY 44 x
 unfold iv
 obtain ⟨ls,hls⟩:∃ls,aU 44 x=ls:=⟨_,rfl⟩
 rw[hls] at hsp hln ⊢
 have hspH:Hid _:=hsp
 clear hsp hls
 go_enter Tryz.func86,Tryz.ntmps86
 go_wp2_with fail
 refine cM (show Calls _ _ _ _ _ from hspH.out) ?_
 rintro e w1 ⟨rfl,hrow,hb⟩
 have hH:Hid (sp w1 (some ⟨w.heap.size,0,none⟩) ls∧Below w.heap.size w w1∧Reads w1):=⟨hrow,hb,hr.below hb⟩
 clear hspH hrow hb hr
 go_wp2
 go_loopw [4,12] (fun v i wr=>∃j:Nat,j≤ls.length∧i= .int .i64 j∧Hid (∃M,dU (ls.take j)=some M∧M.length=j∧ef wr w1.heap.size v M∧Below w1.heap.size w1 wr)) (fun _ i _=>ls.length-(intOf i).toNat)
 case atStart=>exact ⟨0,nZ _,rfl,[],rfl,rfl,ai.nil _ _ _ _ _,bR _ _⟩
 case round =>
  obtain ⟨j,hj,rfl,hov⟩:=hrel
  obtain ⟨M,hM,hMl,hown,hbl⟩:=hov.out
  clear hov
  by_cases hlt:j<ls.length
  ·have hltz:(j:Int)<(ls.length:Int):=by omega
   obtain ⟨b,off,hA,_,hcs⟩:=(hH.out.1.below hbl).at hlt
   obtain ⟨y,hy⟩:∃y,ls[j]=y:=⟨_,rfl⟩
   have e0:=hcs j hlt 0 (by omega)
   rw[hy] at e0
   simp only[Option.some.injEq,Addr.mk.injEq,and_true] at hA
   obtain ⟨rfl,rfl⟩:=hA
   have e1:wr.cell? ⟨w.heap.size,j,none⟩=some (.string ⟨y.toArray⟩):=by simpa[wh] using e0
   have hpn:=gk y wr (hH.out.2.2.below hbl)
   clear hcs e0
   cases hq:dc y with
   | none =>
    rw[hq] at hpn
    have hpnH:Hid _:=hpn
    have hfin:Hid (dU ls=none∧Below w.heap.size w wr):=⟨ky (by rw[←hy];exact gM hlt) hq,hH.out.2.1.trans (hbl.mono hH.out.2.1.size)⟩
    clear hpn hM hown hbl hq hy
    go_wp2_with fail
    refine cM (show Calls _ _ _ _ _ from hpnH.out) ?_
    rintro e w2 ⟨rfl,hb2⟩
    have hfin2:Hid (dU ls=none∧Below w.heap.size w w2):=⟨hfin.out.1,hfin.out.2.trans (hb2.mono hfin.out.2.size)⟩
    clear hpnH hfin hb2
    go_wp2
    go_ret2
    refine ⟨⟨.slice none 0 0,?_,?_⟩,hfin2.out.2⟩
    ·rw[hfin2.out.1];rfl
    ·rw[hfin2.out.1];exact ai.nil _ _ _ _ _
   | some n =>
    rw[hq] at hpn
    have hpnH:Hid _:=hpn
    have hst:Hid (dU (ls.take (j+1))=some (M++[n])∧(M++[n]).length=j+1):=⟨by rw[List.take_succ_eq_append_getElem hlt,hy];exact kY hM hq,by simp[hMl]⟩
    have hoH:Hid (ef wr w1.heap.size u4 M∧Below w1.heap.size w1 wr):=⟨hown,hbl⟩
    clear hpn hM hown hbl hq hy
    go_wp2_with fail
    refine cM (show Calls _ _ _ _ _ from hpnH.out) ?_
    rintro e w2 ⟨rfl,hb2⟩
    clear hpnH
    have hg2:Gr w2 (w2.alloc (.cells #[.int .i64 n] 3)):=(gR _).alloc _
    have hoX:Hid (ef (w2.alloc (.cells #[.int .i64 n] 3)) w1.heap.size u4 M∧ay (w2.alloc (.cells #[.int .i64 n] 3)) (some ⟨w2.heap.size,0,none⟩) [n]∧M.length+1≤maxLen∧(M.length+1)*8≤140737488355328∧Below w1.heap.size w1 (w2.alloc (.cells #[.int .i64 n] 3))):=⟨(hoH.out.1.below hb2).gr hg2,gV rfl n 3,by unfold maxLen;omega,by omega,(hoH.out.2.trans (hb2.mono hoH.out.2.size)).trans (hg2.below.mono (hoH.out.2.trans (hb2.mono hoH.out.2.size)).size)⟩
    clear hg2 hb2 hoH
    go_wp2_with (at_builtin;refine aR _ rfl _ _ rfl w1.heap.size u4 M [n] (some ⟨w2.heap.size,0,none⟩) 1 rfl rfl hoX.out.1 hoX.out.2.1 (fun h=>by cases h) hoX.out.2.2.1 hoX.out.2.2.2.1 hoX.out.2.2.2.2.size ?_;intro v7 w7 hown7 hg7)
    have hfin7:Hid (ef w7 w1.heap.size v7 (M++[n])∧Below w1.heap.size w1 w7):=⟨hown7,hoX.out.2.2.2.2.trans (ai.grown_below hoX.out.1 hg7 hoX.out.2.2.2.2.size)⟩
    clear hown7 hg7 hoX
    go_roundw
    case rel=>exact ⟨j+1,by omega,by go_num,_,hst.out.1,hst.out.2,hfin7.out.1,hfin7.out.2⟩
    case measure=>simp[intOf];omega
  ·have hltz:¬(j:Int)<(ls.length:Int):=by omega
   rw[List.take_of_length_le (by omega)] at hM
   have hfin:Hid (dU ls=some M∧ef wr w.heap.size u4 M∧Below w.heap.size w wr):=⟨hM,hown.mono hH.out.2.1.size,hH.out.2.1.trans (hbl.mono hH.out.2.1.size)⟩
   clear hM hown hbl
   go_wp2
   go_ret2
   refine ⟨⟨u4,?_,?_⟩,hfin.out.2.2⟩
   ·rw[hfin.out.1];rfl
   ·rw[hfin.out.1];exact hfin.out.2.1

structure Box (w:World) (b:Nat) (s:Stp):Prop where
 c0:w.cell? ⟨b,0,none⟩=some (.int .i64 s.k)
 c1:w.cell? ⟨b,1,none⟩=some (.int .i64 s.a)
 c2:w.cell? ⟨b,2,none⟩=some (.int .i64 s.b)
 c3:w.cell? ⟨b,3,none⟩=some (.int .i64 s.c)
 c4:w.cell? ⟨b,4,none⟩=some (.int .i64 s.o)
 c5:w.cell? ⟨b,5,none⟩=some (.int .i64 s.v)
 c6:w.cell? ⟨b,6,none⟩=some (.slice s.p s.l.length s.n)
 fz:∀j,w.frozen? ⟨b,j,none⟩=false
 lt:b<w.heap.size
theorem Box.below {w w':World} {b:Nat} {s:Stp} (h:Box w b s) (k:Below w.heap.size w w'):Box w' b s :=
 ⟨(k.cell (p:=⟨b,0,none⟩) h.lt).trans h.c0,(k.cell (p:=⟨b,1,none⟩) h.lt).trans h.c1,(k.cell (p:=⟨b,2,none⟩) h.lt).trans h.c2,(k.cell (p:=⟨b,3,none⟩) h.lt).trans h.c3,(k.cell (p:=⟨b,4,none⟩) h.lt).trans h.c4,(k.cell (p:=⟨b,5,none⟩) h.lt).trans h.c5,(k.cell (p:=⟨b,6,none⟩) h.lt).trans h.c6,fun j=>(k.frozen (p:=⟨b,j,none⟩) h.lt).trans (h.fz j),nL h.lt k.size⟩
theorem dZ {w:World} {B j j':Nat} {u x:Value} (hx:w.cell? ⟨B,j',none⟩=some x):(w.setCell ⟨B,j,none⟩ u).cell? ⟨B,j',none⟩=some (if j'=j then u else x):=by
 by_cases h:j'=j
 ·subst h;rw[if_pos rfl];exact World.cell?_setCell_same _ _ _ hx
 ·rw[if_neg h,World.cell?_setCell_other _ _ _ _ (by intro e;injection e with e1 e2;exact h e2.symm)];exact hx
theorem Box.set {w:World} {b:Nat} {s t:Stp} (h:Box w b s) (j:Nat) (u:Value)
  (h0:some (if 0=j then u else .int .i64 s.k)=some (.int .i64 t.k)) (h1:some (if 1=j then u else .int .i64 s.a)=some (.int .i64 t.a)) (h2:some (if 2=j then u else .int .i64 s.b)=some (.int .i64 t.b)) (h3:some (if 3=j then u else .int .i64 s.c)=some (.int .i64 t.c)) (h4:some (if 4=j then u else .int .i64 s.o)=some (.int .i64 t.o)) (h5:some (if 5=j then u else .int .i64 s.v)=some (.int .i64 t.v)) (h6:some (if 6=j then u else .slice s.p s.l.length s.n)=some (.slice t.p t.l.length t.n)):Box (w.setCell ⟨b,j,none⟩ u) b t :=
 ⟨(dZ h.c0).trans h0,(dZ h.c1).trans h1,(dZ h.c2).trans h2,(dZ h.c3).trans h3,(dZ h.c4).trans h4,(dZ h.c5).trans h5,(dZ h.c6).trans h6,fun i=>by simp only[World.frozen?_setCell];exact h.fz i,by simpa[World.setCell] using h.lt⟩
structure Kept (b:Nat) (w w':World):Prop where
 os:w'.os=w.os
 tape:w'.tape=w.tape
 output:w'.output=w.output
 size:w.heap.size≤w'.heap.size
 block:∀k,k<w.heap.size→k≠b→w'.heap[k]? = w.heap[k]?
theorem Kept.of {b:Nat} {w w':World} (h:Below w.heap.size w w'):Kept b w w':=⟨h.os,h.tape,h.output,h.size,fun k hk _=>h.block k hk⟩
theorem Kept.set {b:Nat} {w w':World} (h:Kept b w w') (j:Nat) (u:Value):Kept b w (w'.setCell ⟨b,j,none⟩ u) :=
 ⟨h.os,h.tape,h.output,by simpa[World.setCell] using h.size,fun k hk hn=>(Below.heap_setCell w' ⟨b,j,none⟩ u k hn).trans (h.block k hk hn)⟩
theorem Kept.trans {b:Nat} {w w' w'':World} (h:Kept b w w') (k:Kept b w' w''):Kept b w w'' :=
 ⟨k.os.trans h.os,k.tape.trans h.tape,k.output.trans h.output,nT h.size k.size,fun i hi hn=>(k.block i (nL hi h.size) hn).trans (h.block i hi hn)⟩
theorem Kept.below {b B:Nat} {w w':World} (h:Kept b w w') (hB:B≤b) (hs:B≤w.heap.size):Below B w w' :=
 ⟨h.os,h.tape,h.output,h.size,fun k hk=>h.block k (by omega) (by omega)⟩
structure Good (lo:Nat) (w:World) (s:Stp):Prop where
 row:ay w s.p s.l
 len:s.l.length≤maxLen
 nil:s.p=none→s.n=0
 far:∀a,s.p=some a→lo≤a.block∧a.block<w.heap.size
theorem nH {b:Nat} {w w':World} {A:Option Addr} {l:List Int} (h:ay w A l) (k:Kept b w w') (hf:∀a,A=some a→a.block≠b):ay w' A l:=by
 rcases h with h|⟨c,off,rfl,hc,hcs⟩
 ·exact oL h
 ·have hn:c≠b:=hf _ rfl
  exact oR ⟨c,off,rfl,nL hc k.size,fun j hj i hi=>(World.cell?_of_block (w:=w) (k.block c hc hn)).trans (hcs j hj i hi)⟩
theorem Good.kept {b lo:Nat} {w w':World} {s:Stp} (h:Good lo w s) (hlo:b<lo) (k:Kept b w w'):Good lo w' s:=⟨nH h.row k (fun a ha=>by have:=h.far a ha;omega),h.len,h.nil,fun a ha=>⟨(h.far a ha).1,nL (h.far a ha).2 k.size⟩⟩
theorem Good.as {b:Nat} {w:World} {s t:Stp} (h:Good b w s) (hl:t.l=s.l) (hp:t.p=s.p) (hn:t.n=s.n):Good b w t:=⟨by rw[hl,hp];exact h.row,by rw[hl];exact h.len,by rw[hp,hn];exact h.nil,by rw[hp];exact h.far⟩

theorem nS (s:Stp) (x:List UInt8) (b:Nat) (w:World) (hB:Box w b s):Calls Tryz.prog 63 #[.pointer (some ⟨b,0,none⟩),.int .u8 79,.string ⟨x.toArray⟩] w fun e w'=>e= .returned (.bool (cY x != 0))∧w'=w.setCell ⟨b,4,none⟩ (.int .i64 (cY x)):=by
 have ho:=uU x w
 have hoH:Hid _:=ho
 have hc:=hB.c4
 have hz:=hB.fz 4
 clear ho hB
 obtain ⟨n,hn⟩:∃n,cY x=n:=⟨_,rfl⟩
 rw[hn] at hoH ⊢
 clear hn
 go_enter Tryz.func63,Tryz.ntmps63
 go_wp2_with fail
 refine cM (show Calls _ _ _ _ _ from hoH.out) ?_
 rintro e w1 ⟨rfl,rfl⟩
 go_wp2
 go_ret
 exact ⟨rfl,rfl⟩

theorem kN (s:Stp) (x:List UInt8) (b:Nat) (w:World) (hB:Box w b s) (hr:Reads w) (hx:x.length≤100000):Calls Tryz.prog 63 #[.pointer (some ⟨b,0,none⟩),.int .u8 76,.string ⟨x.toArray⟩] w fun e w'=>e= .returned (.bool (iv x).isSome)∧∃v w1,ef w1 w.heap.size v ((iv x).getD [])∧Below w.heap.size w w1∧w'=w1.setCell ⟨b,6,none⟩ v:=by
 have ho:=mg x w hr hx
 have hoH:Hid _:=ho
 have hBH:Hid (Box w b s):=hB
 clear ho hB hr
 go_enter Tryz.func63,Tryz.ntmps63
 go_wp2_with fail
 refine cM (show Calls _ _ _ _ _ from hoH.out) ?_
 rintro e w1 ⟨⟨v,rfl,hv⟩,hb⟩
 have hc:=(hBH.out.below hb).c6
 have hz:=(hBH.out.below hb).fz 6
 have hvH:Hid (ef w1 w.heap.size v ((iv x).getD [])∧Below w.heap.size w w1):=⟨hv,hb⟩
 obtain ⟨A,cap,hvA,-,-,-⟩:=ai.row bV hv
 subst hvA
 clear hv hb hoH hBH
 go_wp2
 go_ret
 exact ⟨rfl,_,w1,hvH.out.1,hvH.out.2,rfl⟩

theorem el (x:List UInt8) (b:Nat) (p:Int) (f:Nat) (w:World) (hr:Reads w) (hf:vR p=f) (h1:(p==79)=false) (h2:(p==76)=false) (u:Value) (hc:w.cell? ⟨b,f,none⟩=some u) (hz:w.frozen? ⟨b,f,none⟩=false):Calls Tryz.prog 63 #[.pointer (some ⟨b,0,none⟩),.int .u8 p,.string ⟨x.toArray⟩] w fun e w'=>e= .returned (.bool (dc x).isSome)∧∃w1,Below w.heap.size w w1∧w'=w1.setCell ⟨b,f,none⟩ (.int .i64 ((dc x).getD 0)):=by
 have hfl:=eN b p w
 rw[hf] at hfl
 have hflH:Hid _:=hfl
 have hnm:=gk x w hr
 have hnmH:Hid _:=hnm
 clear hfl hnm hf hr
 go_enter Tryz.func63,Tryz.ntmps63
 go_wp2_with fail
 refine cM (show Calls _ _ _ _ _ from hflH.out) ?_
 rintro e w1 ⟨rfl,rfl⟩
 clear hflH
 go_wp2_with fail
 refine cM (show Calls _ _ _ _ _ from hnmH.out) ?_
 rintro e w2 ⟨rfl,hb⟩
 have hlt:=World.block_lt_of_cell? w1 _ hc
 have hc2:w2.cell? ⟨b,f,none⟩=some u:=(hb.cell (p:=⟨b,f,none⟩) hlt).trans hc
 have hz2:w2.frozen? ⟨b,f,none⟩=false:=(hb.frozen (p:=⟨b,f,none⟩) hlt).trans hz
 have hbH:Hid _:=hb
 clear hb hnmH hc hz hlt
 go_wp2
 go_ret
 exact ⟨rfl,w2,hbH.out,rfl⟩
theorem me (s:Stp) (p:UInt8) (hp:p∈([65,66,67,79,86,76]:List UInt8)) (x:List UInt8) (b:Nat) (w:World) (hB:Box w b s) {lo:Nat} (hlo:b<lo) (hlw:lo≤w.heap.size) (hG:Good lo w s) (hr:Reads w) (hx:x.length≤100000) :
  Calls Tryz.prog 63 #[.pointer (some ⟨b,0,none⟩),.int .u8 (p.toNat:Int),.string ⟨x.toArray⟩] w fun e w'=>e= .returned (.bool (cV s p x).isSome)∧Kept b w w'∧∀t,cV s p x=some t→∃t',clr t'=clr t∧Box w' b t'∧Good lo w' t':=by
 simp only[List.mem_cons,List.not_mem_nil,or_false] at hp
 rcases hp with rfl|rfl|rfl|rfl|rfl|rfl
 ·refine cM (el x b 65 1 w hr rfl rfl rfl _ hB.c1 (hB.fz 1)) ?_
  rintro e w' ⟨rfl,w1,hb,rfl⟩
  have hpt:cV s 65 x=match dc x with
   | none=>none
   | some n=>some { s with a:=n }:=by unfold cV;rw[if_neg (by decide),if_neg (by decide)];rfl
  rw[hpt]
  have hk:Kept b w (w1.setCell ⟨b,1,none⟩ (.int .i64 ((dc x).getD 0))):=(Kept.of hb).set 1 _
  cases hq:dc x with
  | none=>exact ⟨rfl,by rw[hq] at hk;exact hk,fun t ht=>by cases ht⟩
  | some n =>
   rw[hq] at hk
   refine ⟨rfl,hk,fun t ht=> ?_⟩
   obtain rfl:=sI ht
   exact ⟨_,rfl,(hB.below hb).set 1 _ rfl rfl rfl rfl rfl rfl rfl,(hG.kept hlo hk).as rfl rfl rfl⟩
 ·refine cM (el x b 66 2 w hr rfl rfl rfl _ hB.c2 (hB.fz 2)) ?_
  rintro e w' ⟨rfl,w1,hb,rfl⟩
  have hpt:cV s 66 x=match dc x with
   | none=>none
   | some n=>some { s with b:=n }:=by unfold cV;rw[if_neg (by decide),if_neg (by decide)];rfl
  rw[hpt]
  have hk:Kept b w (w1.setCell ⟨b,2,none⟩ (.int .i64 ((dc x).getD 0))):=(Kept.of hb).set 2 _
  cases hq:dc x with
  | none=>exact ⟨rfl,by rw[hq] at hk;exact hk,fun t ht=>by cases ht⟩
  | some n =>
   rw[hq] at hk
   refine ⟨rfl,hk,fun t ht=> ?_⟩
   obtain rfl:=sI ht
   exact ⟨_,rfl,(hB.below hb).set 2 _ rfl rfl rfl rfl rfl rfl rfl,(hG.kept hlo hk).as rfl rfl rfl⟩
 ·refine cM (el x b 67 3 w hr rfl rfl rfl _ hB.c3 (hB.fz 3)) ?_
  rintro e w' ⟨rfl,w1,hb,rfl⟩
  have hpt:cV s 67 x=match dc x with
   | none=>none
   | some n=>some { s with c:=n }:=by unfold cV;rw[if_neg (by decide),if_neg (by decide)];rfl
  rw[hpt]
  have hk:Kept b w (w1.setCell ⟨b,3,none⟩ (.int .i64 ((dc x).getD 0))):=(Kept.of hb).set 3 _
  cases hq:dc x with
  | none=>exact ⟨rfl,by rw[hq] at hk;exact hk,fun t ht=>by cases ht⟩
  | some n =>
   rw[hq] at hk
   refine ⟨rfl,hk,fun t ht=> ?_⟩
   obtain rfl:=sI ht
   exact ⟨_,rfl,(hB.below hb).set 3 _ rfl rfl rfl rfl rfl rfl rfl,(hG.kept hlo hk).as rfl rfl rfl⟩
 ·refine cM (nS s x b w hB) ?_
  rintro e w' ⟨rfl,rfl⟩
  have hk:Kept b w (w.setCell ⟨b,4,none⟩ (.int .i64 (cY x))):=(Kept.of (bR _ _)).set 4 _
  have hpt:cV s 79 x=if cY x=0 then none else some { s with o:=cY x }:=by unfold cV;rw[if_pos rfl]
  rw[hpt]
  by_cases h0:cY x=0
  ·rw[if_pos h0]
   exact ⟨by rw[h0];rfl,hk,fun t ht=>by cases ht⟩
  ·rw[if_neg h0]
   refine ⟨by rw[show (cY x != 0)=true by simpa using h0];rfl,hk,fun t ht=> ?_⟩
   obtain rfl:=sI ht
   exact ⟨_,rfl,hB.set 4 _ rfl rfl rfl rfl rfl rfl rfl,(hG.kept hlo hk).as rfl rfl rfl⟩
 ·refine cM (el x b 86 5 w hr rfl rfl rfl _ hB.c5 (hB.fz 5)) ?_
  rintro e w' ⟨rfl,w1,hb,rfl⟩
  have hpt:cV s 86 x=match dc x with
   | none=>none
   | some n=>some { s with v:=n }:=by unfold cV;rw[if_neg (by decide),if_neg (by decide)];rfl
  rw[hpt]
  have hk:Kept b w (w1.setCell ⟨b,5,none⟩ (.int .i64 ((dc x).getD 0))):=(Kept.of hb).set 5 _
  cases hq:dc x with
  | none=>exact ⟨rfl,by rw[hq] at hk;exact hk,fun t ht=>by cases ht⟩
  | some n =>
   rw[hq] at hk
   refine ⟨rfl,hk,fun t ht=> ?_⟩
   obtain rfl:=sI ht
   exact ⟨_,rfl,(hB.below hb).set 5 _ rfl rfl rfl rfl rfl rfl rfl,(hG.kept hlo hk).as rfl rfl rfl⟩
 ·refine cM (kN s x b w hB hr hx) ?_
  rintro e w' ⟨rfl,v,w1,hv,hb,rfl⟩
  have hk:Kept b w (w1.setCell ⟨b,6,none⟩ v):=(Kept.of hb).set 6 _
  have hpt:cV s 76 x=match iv x with
   | none=>none
   | some l=>some { s with l:=l }:=by unfold cV;rw[if_neg (by decide),if_pos rfl];rfl
  rw[hpt]
  cases hq:iv x with
  | none=>exact ⟨rfl,hk,fun t ht=>by cases ht⟩
  | some l =>
   refine ⟨rfl,hk,fun t ht=> ?_⟩
   obtain rfl:=sI ht
   rw[hq] at hv
   obtain ⟨A,cap,rfl,hnil,hrow,hfar⟩:=ai.row bV hv
   have hf:∀a,A=some a→a.block≠b:=fun a ha=>by have:=(hfar a ha).1;have:=hB.lt;omega
   refine ⟨{ s with l:=l,p:=A,n:=cap },rfl,(hB.below hb).set 6 _ rfl rfl rfl rfl rfl rfl rfl,⟨?_,?_,hnil,fun a ha=>⟨nT hlw (hfar a ha).1,by have:=(hfar a ha).2;simpa[World.setCell] using this⟩⟩⟩
   ·exact nH hrow ((Kept.of (bR _ _)).set 6 _) hf
   ·have h1:=congrArg List.length (mu hq)
    have h2:=gY 44 x
    rw[List.length_map] at h1
    show l.length≤maxLen
    unfold maxLen
    omega

def j9:Stp:=fC 0
theorem wL (w:World):Box (w.alloc (.cells #[.int .i64 0,.int .i64 0,.int .i64 0,.int .i64 0,.int .i64 0,.int .i64 0,.slice none 0 0] 105)) w.heap.size j9 :=
 ⟨aa (gR _) rfl,aa (gR _) rfl,aa (gR _) rfl,aa (gR _) rfl,aa (gR _) rfl,aa (gR _) rfl,aa (gR _) rfl,fun j=>ew (gR _) j,by simp⟩
theorem ns {w:World} {B:Nat} {xs:List (List UInt8)} (h:sp w (some ⟨B,0,none⟩) xs) {j:Nat} (hj:j<xs.length):w.cell? ⟨B,j,none⟩=some (.string ⟨xs[j].toArray⟩):=by
 obtain ⟨b,off,hA,_,hcs⟩:=h.at hj
 have e0:=hcs j hj 0 (by omega)
 simp only[Option.some.injEq,Addr.mk.injEq,and_true] at hA
 obtain ⟨rfl,rfl⟩:=hA
 simpa[wh] using e0

theorem iU:∀(ps qs:List UInt8) (xs ys:List (List UInt8)) (s:Stp),ps.length=xs.length→dD s (ps++qs) (xs++ys)=match dD s ps xs with
  | none=>none
  | some t=>dD t qs ys
 | [],qs,[],ys,s,_=>rfl
 | p::ps,qs,x::xs,ys,s,h=>by
  rw[List.cons_append,List.cons_append,dD,dD]
  cases cV s p x with
  | none=>rfl
  | some t=>exact iU ps qs xs ys t (by simpa using h)
 | [],_,_::_,_,_,h=>by simp at h
 | _::_,_,[],_,_,h=>by simp at h
theorem rN {s t:Stp} (h:clr s=clr t) (p:UInt8) (x:List UInt8):(cV s p x).map clr=(cV t p x).map clr:=by
 obtain ⟨k,a,b,c,o,v,pp,n,l⟩:=s
 obtain ⟨k',a',b',c',o',v',pp',n',l'⟩:=t
 simp only[clr,Stp.mk.injEq,true_and] at h
 obtain ⟨rfl,rfl,rfl,rfl,rfl,rfl,rfl⟩:=h
 unfold cV
 split
 ·split<;>rfl
 ·split
  ·cases iv x<;>rfl
  ·cases dc x with
   | none=>rfl
   | some n =>
    simp only[Option.map]
    repeat' split
    all_goals rfl
def nt (k:Int) (ps:List UInt8) (r:List (List UInt8)) (b:Nat) (w w':World) (j:Nat):Prop:=∃t t',dD (fC k) (ps.take j) (r.take j)=some t∧clr t'=clr t∧Box w' b t'∧Good (b+1) w' t'∧Kept b w w'
theorem nt.next {k:Int} {ps:List UInt8} {r:List (List UInt8)} {j:Nat} {t:Stp} (hl:r.length=ps.length) (hj:j<ps.length) (hj2:j<r.length) (h:dD (fC k) (ps.take j) (r.take j)=some t):dD (fC k) (ps.take (j+1)) (r.take (j+1))=cV t ps[j] r[j]:=by
 rw[List.take_succ_eq_append_getElem hj,List.take_succ_eq_append_getElem hj2,iU _ _ _ _ _ (by simp;omega),h]
 show dD t [ps[j]] [r[j]]=_
 rw[dD]
 cases cV t ps[j] r[j]<;>rfl
theorem nt.fail {k:Int} {ps:List UInt8} {r:List (List UInt8)} {j:Nat} (hl:r.length=ps.length) (h:dD (fC k) (ps.take j) (r.take j)=none):dD (fC k) ps r=none:=by
 have:=iU (ps.take j) (ps.drop j) (r.take j) (r.drop j) (fC k) (by simp;omega)
 rw[List.take_append_drop,List.take_append_drop,h] at this
 exact this

theorem k6 (c:UInt8):∀x,∀z∈aU c x,z.length≤x.length
 | [],z,h=>by simp[aU] at h;simp[h]
 | b::r,z,h=>by
  have ih:=k6 c r
  rw[aU] at h
  split at h
  ·rcases List.mem_cons.1 h with rfl|h
   ·simp
   ·have:=ih z h;simp;omega
  ·cases e:aU c r with
   | nil=>exact absurd e (jy c r)
   | cons y t =>
    rw[e] at h ih
    simp only[List.mem_cons] at h
    rcases h with rfl|h
    ·have:=ih y (by simp);simp;omega
    ·have:=ih z (by simp[h]);simp;omega
theorem Box.under {w w':World} {b B:Nat} {s:Stp} (h:Box w b s) (hb:b<B) (k:Below B w w'):Box w' b s :=
 ⟨(k.cell (p:=⟨b,0,none⟩) hb).trans h.c0,(k.cell (p:=⟨b,1,none⟩) hb).trans h.c1,(k.cell (p:=⟨b,2,none⟩) hb).trans h.c2,(k.cell (p:=⟨b,3,none⟩) hb).trans h.c3,(k.cell (p:=⟨b,4,none⟩) hb).trans h.c4,(k.cell (p:=⟨b,5,none⟩) hb).trans h.c5,(k.cell (p:=⟨b,6,none⟩) hb).trans h.c6,fun j=>(k.frozen (p:=⟨b,j,none⟩) hb).trans (h.fz j),nL h.lt k.size⟩
def zF (w:World) (t:Stp):Prop:=ay w t.p t.l∧t.l.length≤maxLen∧(t.p=none→t.n=0)
theorem fX {B b:Nat} {a w:World} (h:Below B a w) (hb:B≤b) (u0 u1 u2 u3 u4 u5 u6:Value) :
  Below B a (((((((w.setCell ⟨b,0,none⟩ u0).setCell ⟨b,1,none⟩ u1).setCell ⟨b,2,none⟩ u2).setCell ⟨b,3,none⟩ u3).setCell ⟨b,4,none⟩ u4).setCell ⟨b,5,none⟩ u5).setCell ⟨b,6,none⟩ u6) :=
 ((((((h.setCell (p:=⟨b,0,none⟩) hb _).setCell (p:=⟨b,1,none⟩) hb _).setCell (p:=⟨b,2,none⟩) hb _).setCell (p:=⟨b,3,none⟩) hb _).setCell (p:=⟨b,4,none⟩) hb _).setCell (p:=⟨b,5,none⟩) hb _).setCell (p:=⟨b,6,none⟩) hb _
theorem m8 (x:List UInt8) (w:World) (hr:Reads w) (hx:x.length≤100000):Calls Tryz.prog 41 #[.string ⟨x.toArray⟩] w fun e w'=>∃t',e= .returned (.tuple #[.agg #[.int .i64 t'.k,.int .i64 t'.a,.int .i64 t'.b,.int .i64 t'.c,.int .i64 t'.o,.int .i64 t'.v,.slice t'.p t'.l.length t'.n],.bool (ip x).isSome])∧Below w.heap.size w w'∧∀t,ip x=some t→clr t'=clr t∧zF w' t'∧∀a,t'.p=some a→w.heap.size≤a.block∧a.block<w'.heap.size:=by
 obtain ⟨w0,hw0⟩:∃w0,w.alloc (.cells #[.int .i64 0,.int .i64 0,.int .i64 0,.int .i64 0,.int .i64 0,.int .i64 0,.slice none 0 0] 105)=w0:=⟨_,rfl⟩
 have hB0:Box w0 w.heap.size j9:=hw0▸wL w
 have hb0:Below w.heap.size w w0:=hw0▸((gR w).alloc _).below
 have hs0:w0.heap.size=w.heap.size+1:=by rw[←hw0];simp
 have hsp:=mB x 32 w0 (hr.below hb0) (by omega)
 have hln:=gY 32 x
 obtain ⟨ls,hls⟩:∃ls,aU 32 x=ls:=⟨_,rfl⟩
 rw[hls] at hsp hln
 obtain ⟨y,r,rfl⟩:∃y r,ls=y::r:=List.exists_cons_of_ne_nil (by rw[←hls];exact jy _ _)
 have hlp:ip x=if dj y=0∨r.length≠(bf (dj y)).length then none else dD (fC (dj y)) (bf (dj y)) r:=by unfold ip;rw[hls]
 obtain ⟨LP,hLP⟩:∃LP,ip x=LP:=⟨_,rfl⟩
 rw[hLP] at hlp ⊢
 clear hLP
 have hrl0:∀z∈r,z.length≤100000:=fun z hz=>nT (k6 32 x z (by rw[hls];simp[hz])) hx
 have hspH:Hid _:=hsp
 have hH0:Hid (Box w0 w.heap.size j9∧Below w.heap.size w w0∧Reads w0):=⟨hB0,hb0,hr.below hb0⟩
 have hrw:Hid (Reads w):=hr
 clear hsp hls hB0 hb0 hr
 go_enter Tryz.func41,Tryz.ntmps41
 go_wp2_with fail
 refine cM (show Calls _ _ _ _ _ from hspH.out) ?_
 rintro e w1 ⟨rfl,hrow,hb⟩
 clear hw0
 rw[hs0] at hrow
 have hH:Hid (sp w1 (some ⟨w.heap.size+1,0,none⟩) (y::r)∧Box w1 w.heap.size j9∧Below w.heap.size w w1∧Reads w1):=⟨hrow,hH0.out.1.below hb,hH0.out.2.1.trans (hb.mono (by omega)),hH0.out.2.2.below hb⟩
 have e1:w1.cell? ⟨w.heap.size+1,0,none⟩=some (.string ⟨y.toArray⟩):=ns hrow (j:=0) (by simp)
 have hlenc:(y::r).length=r.length+1:=rfl
 rw[hlenc]
 have hko:=qd y w1
 obtain ⟨k,hk⟩:∃k,dj y=k:=⟨_,rfl⟩
 rw[hk] at hko
 have hkoH:Hid _:=hko
 have hfo:=iQ k w1
 obtain ⟨ps,hps⟩:∃ps,bf k=ps:=⟨_,rfl⟩
 obtain ⟨wo,hwo⟩:∃wo,dN k=wo:=⟨_,rfl⟩
 rw[hps,hwo] at hfo
 have hfoH:Hid _:=hfo
 clear hrow hb hspH hH0 hko hfo hwo
 go_wp2_with fail
 refine cM (show Calls _ _ _ _ _ from hkoH.out) ?_
 rintro e w2 ⟨rfl,hw2⟩
 subst w2
 go_wp2_with fail
 refine cM (show Calls _ _ _ _ _ from hfoH.out) ?_
 rintro e w2 ⟨rfl,hw2⟩
 subst w2
 clear hkoH hfoH
 have hp4:ps.length≤4:=by rw[←hps];exact sR k
 by_cases hbad:k=0∨r.length≠ps.length
 ·rw[hk,hps,if_pos hbad] at hlp
  subst hlp
  have c0:=hH.out.2.1.c0
  have c1:=hH.out.2.1.c1
  have c2:=hH.out.2.1.c2
  have c3:=hH.out.2.1.c3
  have c4:=hH.out.2.1.c4
  have c5:=hH.out.2.1.c5
  have c6:=hH.out.2.1.c6
  have fz:=hH.out.2.1.fz
  by_cases hk0:k=0
  ·subst hk0
   go_wp2
   exact bodyPost_ret (v:= .tuple #[.agg #[.int .i64 0,.int .i64 0,.int .i64 0,.int .i64 0,.int .i64 0,.int .i64 0,.slice none 0 0],.bool false]) (by simp[results,Tryz.results41,go_sem,c0,c1,c2,c3,c4,c5,c6]) rfl ⟨j9,rfl,fX hH.out.2.2.1 (nR _) _ _ _ _ _ _ _,fun t ht=>by cases ht⟩
  ·have hkf:(k==0)=false:=by simpa using hk0
   have hkl:((r.length:Int)+1 != 1+(ps.length:Int))=true:=by simp;omega
   go_wp2
   exact bodyPost_ret (v:= .tuple #[.agg #[.int .i64 0,.int .i64 0,.int .i64 0,.int .i64 0,.int .i64 0,.int .i64 0,.slice none 0 0],.bool false]) (by simp[results,Tryz.results41,go_sem,c0,c1,c2,c3,c4,c5,c6]) rfl ⟨j9,rfl,fX hH.out.2.2.1 (nR _) _ _ _ _ _ _ _,fun t ht=>by cases ht⟩
 have hk0:(k==0)=false:=by simp;omega
 have hkl:((r.length:Int)+1 != 1+(ps.length:Int))=false:=by simp;omega
 go_wp2
 obtain ⟨W,hW⟩:∃W,w1.alloc (.cells #[.int .i64 k,.int .i64 0,.int .i64 0,.int .i64 0,.int .i64 0,.int .i64 0,.slice none 0 0] 105)=W:=⟨_,rfl⟩
 rw[hW]
 have hWs:W.heap.size=w1.heap.size+1:=by rw[←hW];simp
 have hbW:Below w1.heap.size w1 W:=by rw[←hW];exact ((gR w1).alloc _).below
 have hBW:Box W w1.heap.size (fC k):=by
  rw[←hW]
  exact ⟨aa (gR _) rfl,aa (gR _) rfl,aa (gR _) rfl,aa (gR _) rfl,aa (gR _) rfl,aa (gR _) rfl,aa (gR _) rfl,fun j=>ew (gR _) j,by simp⟩
 have hHW:Hid (sp W (some ⟨w.heap.size+1,0,none⟩) (y::r)∧Box W w.heap.size j9∧Below w.heap.size w W∧Reads W∧W.heap.size=w1.heap.size+1∧w.heap.size<w1.heap.size∧Box W w1.heap.size (fC k)∧w.heap.size+1<w1.heap.size):=⟨hH.out.1.below hbW,hH.out.2.1.below hbW,hH.out.2.2.1.trans (hbW.mono hH.out.2.2.1.size),hH.out.2.2.2.below hbW,hWs,hH.out.2.1.lt,hBW,World.block_lt_of_cell? w1 _ e1⟩
 have hrl:Hid (∀z∈r,z.length≤100000):=hrl0
 clear hH hWs hbW hBW hW e1
 go_loopw [36] (fun i wr=>∃j:Nat,j≤ps.length∧i= .int .i64 j∧Hid (nt k ps r w1.heap.size W wr j)) (fun i _=>ps.length-(intOf i).toNat)
 case atStart=>exact ⟨0,nZ _,rfl,fC k,fC k,rfl,rfl,hHW.out.2.2.2.2.2.2.1,⟨oL rfl,nZ _,fun _=>rfl,fun a ha=>by cases ha⟩,Kept.of (bR _ _)⟩
 case round =>
  obtain ⟨j,hj,rfl,hov⟩:=hrel
  obtain ⟨t,t',hpt,hcl,hbx,hgd,hkp⟩:=hov.out
  clear hov
  by_cases hlt:j<ps.length
  ·have hltz:(j:Int)<(ps.length:Int):=by omega
   have hltr:j<r.length:=by omega
   obtain ⟨X,hX⟩:∃X,r[j]=X:=⟨_,rfl⟩
   have hkd:Kept w1.heap.size W wr.drew:=⟨hkp.os,hkp.tape,hkp.output,hkp.size,hkp.block⟩
   have hbd:Below w1.heap.size W wr.drew:=hkd.below (nR _) (by have:=hHW.out.2.2.2.2.1;omega)
   have hwc:W.cell? ⟨w.heap.size+1,1+j,none⟩=some (.string ⟨X.toArray⟩):=by
    have:=ns hHW.out.1 (j:=1+j) (by simp;omega)
    rw[this]
    congr 3
    rw[←hX]
    simp[Nat.add_comm 1 j]
   have hS0:wr.drew.cell? ⟨w.heap.size+1,1+j,none⟩=some (.string ⟨X.toArray⟩):=(hbd.cell (p:=⟨w.heap.size+1,1+j,none⟩) hHW.out.2.2.2.2.2.2.2).trans hwc
   have hSK:Hid (∀y1,Kept w1.heap.size wr.drew y1→y1.cell? ⟨w.heap.size+1,1+j,none⟩=some (.string ⟨X.toArray⟩)):=fun y1 h1=>((h1.below (B:=w1.heap.size) (nR _) (nT (by have:=hHW.out.2.2.2.2.1;omega) hkd.size)).cell (p:=⟨w.heap.size+1,1+j,none⟩) hHW.out.2.2.2.2.2.2.2).trans hS0
   have hbxd:Box wr.drew w1.heap.size t':=⟨hbx.c0,hbx.c1,hbx.c2,hbx.c3,hbx.c4,hbx.c5,hbx.c6,hbx.fz,hbx.lt⟩
   have hgdd:Good (w1.heap.size+1) wr.drew t':=⟨hgd.row.below ((gR wr).drew).below,hgd.len,hgd.nil,hgd.far⟩
   have hw1:IntKind.i64.wrap (1+(j:Int))=1+(j:Int):=by rw[IntKind.wrap_i64];omega
   have hw2:(0:Int)≤1+(j:Int):=by omega
   have hw3:1+(j:Int)<(r.length:Int)+1:=by omega
   have hw4:(1+(j:Int)).toNat=1+j:=by omega
   have hbw:Below w.heap.size w wr.drew:=hHW.out.2.2.1.trans (hkd.below (Nat.le_of_lt hHW.out.2.2.2.2.2.1) hHW.out.2.2.1.size)
   have hpp:=me t' ps[j] (by have:=(uG (k:=k)).1;rw[hps] at this;exact this _ (gM hlt)) X w1.heap.size wr.drew hbxd (Nat.lt_succ_self _) (nT (by have:=hHW.out.2.2.2.2.1;omega) hkd.size) hgdd (hrw.out.below hbw) (by rw[←hX];exact hrl.out _ (gM hltr))
   have hnxt:=nt.next (by omega) hlt hltr hpt
   rw[hX] at hnxt
   have hcq:=rN hcl ps[j] X
   clear hcl
   cases hq:cV t' ps[j] X with
   | none =>
    rw[hq] at hpp hcq
    have hppH:Hid _:=hpp
    have hLPn:LP=none:=by
     rw[hlp,hk,hps,if_neg hbad]
     refine nt.fail (j:=j+1) (by omega) ?_
     rw[hnxt]
     cases hz:cV t ps[j] X with
     | none=>rfl
     | some z=>rw[hz] at hcq;cases hcq
    subst hLPn
    have hZ:Hid (∀y1,Kept w1.heap.size wr.drew y1→Box y1 w.heap.size j9∧Below w.heap.size w y1):=fun y1 h1=>⟨hHW.out.2.1.under hHW.out.2.2.2.2.2.1 (hbd.trans (h1.below (nR _) (nT (by have:=hHW.out.2.2.2.2.1;omega) hkd.size))),hbw.trans (h1.below (Nat.le_of_lt hHW.out.2.2.2.2.2.1) hbw.size)⟩
    clear hpp hcq hq hnxt hpt hbx hgd hkp hkd hbd hwc hbxd hgdd hbw hlp
    go_upto_region 10 with fail
    refine wp_region_noPanic ?_
    refine wp_region_held_drew (S:=fun w'=>w'.cell? ⟨w.heap.size+1,1+j,none⟩=some (.string ⟨X.toArray⟩)) (by kernel_rfl) (hS0) (fun hHeld=> ?_)
    refine tks [0,1,2,3,4,5,6,7] (by assumption) ?_
    iterate 8 (refine tk (v:= ?_) (by rfl) (by kernel_rfl) ?_ ?_;rotate_left;· (refine oL ⟨by rfl,?_⟩;intro w hSw;(try dsimp only at hSw);go_simp<;>with_reducible rfl);try simp only[Act.put,yA,aC,yS])
    refine tk0 ?_
    refine wpAnyH_ready (rs:=[8]) (by kernel_rfl) (by simp) ?_
    refine AllReadyH.cons (o:= ?oia9) ?hopa9 (fun K hK=> ?stepa9) ?morea9
    case hopa9=>(simp only[zA,z0',zS];rfl)
    case morea9=>exact AllReadyH.nil
    go_simp
    (go_at_call 63;(refine cM (show Calls _ _ _ _ _ from hppH.out) ?_);rintro e y1 ⟨rfl,hk1,hres⟩;have hS1:y1.cell? ⟨w.heap.size+1,1+j,none⟩=some (.string ⟨X.toArray⟩):=hSK.out y1 hk1;have hzb:=hZ.out y1 hk1;obtain ⟨c0,c1,c2,c3,c4,c5,c6,fz,_⟩:=hzb.1;have hfb:Hid _:=hzb.2;clear hk1 hres hzb)
    first|(go_wp2_with fail)|skip
    refine hK.out _ _ ?_ (fun hHeld=> ?_)
    ·(try dsimp only);(first|with_reducible exact hS0|with_reducible exact hS1)
    clear hK K
    try simp only[Act.put,yA,aC,yS]
    refine tks [9] (by assumption) ?_
    iterate 1 (refine tk (v:= ?_) (by rfl) (by kernel_rfl) ?_ ?_;rotate_left;· (refine oL ⟨by rfl,?_⟩;intro w hSw;(try dsimp only at hSw);go_simp<;>with_reducible rfl);try simp only[Act.put,yA,aC,yS])
    refine tk0 ?_
    refine wpAnyH_done (by kernel_rfl) ?_ _
    refine NoPanic.normal ?_
    go_wp2
    exact bodyPost_ret (v:= .tuple #[.agg #[.int .i64 0,.int .i64 0,.int .i64 0,.int .i64 0,.int .i64 0,.int .i64 0,.slice none 0 0],.bool false]) (by simp[results,Tryz.results41,go_sem,c0,c1,c2,c3,c4,c5,c6]) rfl ⟨j9,rfl,fX hfb.out (nR _) _ _ _ _ _ _ _,fun t ht=>by cases ht⟩
   | some z =>
    rw[hq] at hpp hcq
    have hppH:Hid _:=hpp
    have hnx:Hid (∀y1,Kept w1.heap.size wr.drew y1→(∀t,some z=some t→∃t',clr t'=clr t∧Box y1 w1.heap.size t'∧Good (w1.heap.size+1) y1 t')→Hid (nt k ps r w1.heap.size W y1 (j+1))):=by
     intro y1 h1 h2
     obtain ⟨t2,h3,h4,h5⟩:=h2 z rfl
     cases hz:cV t ps[j] X with
     | none=>rw[hz] at hcq;cases hcq
     | some z2 =>
      rw[hz] at hcq
      exact ⟨z2,t2,hnxt.trans hz,h3.trans (sI hcq),h4,h5,hkd.trans h1⟩
    clear hpp hcq hq hnxt hpt hbx hgd hkp hkd hbd hwc hbxd hgdd hbw hlp
    go_upto_region 10 with fail
    refine wp_region_noPanic ?_
    refine wp_region_held_drew (S:=fun w'=>w'.cell? ⟨w.heap.size+1,1+j,none⟩=some (.string ⟨X.toArray⟩)) (by kernel_rfl) (hS0) (fun hHeld=> ?_)
    refine tks [0,1,2,3,4,5,6,7] (by assumption) ?_
    iterate 8 (refine tk (v:= ?_) (by rfl) (by kernel_rfl) ?_ ?_;rotate_left;· (refine oL ⟨by rfl,?_⟩;intro w hSw;(try dsimp only at hSw);go_simp<;>with_reducible rfl);try simp only[Act.put,yA,aC,yS])
    refine tk0 ?_
    refine wpAnyH_ready (rs:=[8]) (by kernel_rfl) (by simp) ?_
    refine AllReadyH.cons (o:= ?oib9) ?hopb9 (fun K hK=> ?stepb9) ?moreb9
    case hopb9=>(simp only[zA,z0',zS];rfl)
    case moreb9=>exact AllReadyH.nil
    go_simp
    (go_at_call 63;(refine cM (show Calls _ _ _ _ _ from hppH.out) ?_);rintro e y1 ⟨rfl,hk1,hres⟩;have hS1:y1.cell? ⟨w.heap.size+1,1+j,none⟩=some (.string ⟨X.toArray⟩):=hSK.out y1 hk1;have hkr:Hid _:=hk1;have hresH:Hid _:=hres;clear hk1 hres)
    first|(go_wp2_with fail)|skip
    refine hK.out _ _ ?_ (fun hHeld=> ?_)
    ·(try dsimp only);(first|with_reducible exact hS0|with_reducible exact hS1)
    clear hK K
    try simp only[Act.put,yA,aC,yS]
    refine tks [9] (by assumption) ?_
    iterate 1 (refine tk (v:= ?_) (by rfl) (by kernel_rfl) ?_ ?_;rotate_left;· (refine oL ⟨by rfl,?_⟩;intro w hSw;(try dsimp only at hSw);go_simp<;>with_reducible rfl);try simp only[Act.put,yA,aC,yS])
    refine tk0 ?_
    refine wpAnyH_done (by kernel_rfl) ?_ _
    refine NoPanic.normal ?_
    go_wp2
    go_roundw
    case rel=>exact ⟨j+1,by omega,by go_num,hnx.out _ hkr.out hresH.out⟩
    case measure=>simp[intOf];omega
  ·have hltz:¬(j:Int)<(ps.length:Int):=by omega
   rw[List.take_of_length_le (by omega),List.take_of_length_le (by omega)] at hpt
   have hLP:LP=some t:=by rw[hlp,hk,hps,if_neg hbad];exact hpt
   subst hLP
   have hbd:Below w1.heap.size W wr:=hkp.below (nR _) (by have:=hHW.out.2.2.2.2.1;omega)
   have hzb:=hHW.out.2.1.under hHW.out.2.2.2.2.2.1 hbd
   have hbw:Hid (Below w.heap.size w wr):=hHW.out.2.2.1.trans (hkp.below (Nat.le_of_lt hHW.out.2.2.2.2.2.1) hHW.out.2.2.1.size)
   obtain ⟨c0,c1,c2,c3,c4,c5,c6,fz,_⟩:=hzb
   obtain ⟨d0,d1,d2,d3,d4,d5,d6,dz,_⟩:=hbx
   have hfin:Hid (clr t'=clr t∧Good (w1.heap.size+1) wr t'∧w.heap.size<w1.heap.size):=⟨hcl,hgd,hHW.out.2.2.2.2.2.1⟩
   clear hpt hlp hcl hgd hkp hbd
   go_wp2
   refine bodyPost_ret (v:= .tuple #[.agg #[.int .i64 t'.k,.int .i64 t'.a,.int .i64 t'.b,.int .i64 t'.c,.int .i64 t'.o,.int .i64 t'.v,.slice t'.p t'.l.length t'.n],.bool true]) (by simp[results,Tryz.results41,go_sem,c0,c1,c2,c3,c4,c5,c6]) rfl ⟨t',rfl,fX hbw.out (nR _) _ _ _ _ _ _ _,hfin.out.1,⟨?_,hfin.out.2.1.len,hfin.out.2.1.nil⟩,fun a ha=>⟨by have:=(hfin.out.2.1.far a ha).1;have:=hfin.out.2.2;omega,by have:=(hfin.out.2.1.far a ha).2;simpa[World.setCell] using this⟩⟩
   exact nH hfin.out.2.1.row ((((((((Kept.of (bR _ _)).set 0 _).set 1 _).set 2 _).set 3 _).set 4 _).set 5 _).set 6 _) (fun a ha=>by have:=hfin.out.2.1.far a ha;have:=hfin.out.2.2;omega)

theorem Tryz.infoQ2:(Tryz.prog.info? 105).map (fun i=>(i.zero,i.size,i.bytes))=some (some (.agg #[.int .i64 0,.int .i64 0,.int .i64 0,.int .i64 0,.int .i64 0,.int .i64 0,.slice none 0 0]),7,72):=by kernel_rfl

structure ApartS (w:World) (base:Nat) (ob:Option Nat) (x:Stp):Prop where
 row:ay w x.p x.l
 len:x.l.length≤maxLen
 nil:x.p=none→x.n=0
 own:∀a,x.p=some a→base≤a.block∧a.block<w.heap.size∧ob≠some a.block
structure OwnS (w:World) (base:Nat) (v:Value) (l:List Stp):Prop where
 own:ai iB 7 105 w base v l
 each:∀x∈l,ApartS w base v.ownBlock x
theorem OwnS.nil (w:World) (base:Nat):OwnS w base (.slice none 0 0) []:=⟨ai.nil _ _ _ _ _,fun x hx=>by cases hx⟩
theorem ApartS.below {w w':World} {base:Nat} {ob:Option Nat} {x:Stp} (h:ApartS w base ob x) (q:Below w.heap.size w w'):ApartS w' base ob x :=
 ⟨h.row.below q,h.len,h.nil,fun a ha=>⟨(h.own a ha).1,nL (h.own a ha).2.1 q.size,(h.own a ha).2.2⟩⟩
theorem OwnS.below {w w':World} {base:Nat} {v:Value} {l:List Stp} (h:OwnS w base v l) (q:Below w.heap.size w w'):OwnS w' base v l:=⟨h.own.below q,fun x hx=>(h.each x hx).below q⟩
theorem OwnS.gr {w w':World} {base:Nat} {v:Value} {l:List Stp} (h:OwnS w base v l) (q:Gr w w'):OwnS w' base v l:=h.below q.below
theorem OwnS.stps {w:World} {base:Nat} {v:Value} {l:List Stp} (h:OwnS w base v l):∃A cap,v= .slice A l.length cap∧(A=none→cap=0)∧Stps w A l:=by
 obtain ⟨A,cap,hv,hA,hr,ha⟩:=h.own.row iW
 exact ⟨A,cap,hv,hA,⟨hr,fun x hx=>⟨(h.each x hx).row,(h.each x hx).len,(h.each x hx).nil⟩⟩⟩
theorem ApartS.grown {w w':World} {base:Nat} {ob ob':Option Nat} {x:Stp} (h:ApartS w base ob x) (q:w.grownBy w' ob) (hob:ob'=ob∨ob'=some w.heap.size):ApartS w' base ob' x:=by
 refine ⟨?_,h.len,h.nil,fun a ha=>⟨(h.own a ha).1,nL (h.own a ha).2.1 q.size,?_⟩⟩
 ·rcases h.row with k|⟨b,off,hp,hb,hc⟩
  ·exact oL k
  ·refine oR ⟨b,off,hp,nL hb q.size,fun j hj i hi=> ?_⟩
   have hne:=(h.own _ hp).2.2
   rw[World.cell?_of_block (a:=⟨b,off+j*1+i,none⟩) (q.block b hb fun e=>hne e.symm)]
   exact hc j hj i hi
 ·rcases hob with e|e
  ·rw[e];exact (h.own a ha).2.2
  ·rw[e]
   intro k
   injection k with k
   have:=(h.own a ha).2.1
   omega
theorem lW (w:World) (ty:TypeId) (base:Nat) (v:Value) (l:List Stp) (x:Stp) (A:Addr) (cap:Nat) (hown:OwnS w base v l) (hr:ax iB 7 w (some A) [x]) (hx:ApartS w base v.ownBlock x)
  (hml:l.length+1≤maxLen) (hb:(l.length+1)*72≤140737488355328) (hbase:base≤w.heap.size) :
  ∃v' w',(Builtin.append_ #[54,54] ty #[v,.slice (some A) 1 cap]).run Tryz.prog w= .ok v' w'∧OwnS w' base v' (l++[x])∧Below base w w'∧w.grownBy w' v.ownBlock:=by
 obtain ⟨i0,hi,hz0,hz1,hz2⟩:=info_parts Tryz.infoQ2
 obtain ⟨v',w',g1,g2,g3,_,g5⟩:=run_append_own_at (P:=Tryz.prog) w base 54 ty 105 i0 (.agg #[.int .i64 0,.int .i64 0,.int .i64 0,.int .i64 0,.int .i64 0,.int .i64 0,.slice none 0 0]) 7 72 Tryz.underlying54 hi hz0 hz1 hz2 rfl (by omega) v l.length (aM iB l) hown.own A 1 cap (aM iB [x]) (br iW [x]) (hr.cells iW (by omega)) (fun u hu=>dH ux u [x] hu) hml hb hbase
 refine ⟨v',w',g1,⟨?_,fun y hy=> ?_⟩,ai.grown_below hown.own g3 hbase,g3⟩
 ·show w'.ownsRow base _ 7 v' (l++[x]).length (aM iB (l++[x]))
  rw[List.length_append,co]
  exact g2
 ·rcases List.mem_append.1 hy with k|k
  ·exact (hown.each y k).grown g3 g5
  ·have:y=x:=by simpa using k
   subst this
   exact hx.grown g3 g5
theorem fx (w:World) {ops:Array Oper} {rest:List Oper} {o:Oper} {a:Act} {Q:Exit→Act→World→Prop} (hgd:o.guard=none) (s z:Operand)
  (ho:o.op= .call { callee:= .builtin .append,args:= #[s,z],argTypes:= #[54,54] })
  (base:Nat) (v:Value) (l:List Stp) (x:Stp) (A:Addr) (cap:Nat) (hs:a.eval s=v) (hz:a.eval z= .slice (some A) 1 cap) (hown:OwnS w base v l) (hr:ax iB 7 w (some A) [x]) (hx:ApartS w base v.ownBlock x)
  (hml:l.length+1≤maxLen) (hb:(l.length+1)*72≤140737488355328) (hbase:base≤w.heap.size)
  (h:∀v' w',OwnS w' base v' (l++[x])→Below base w w'→wpList Tryz.prog ops Q rest (a.put o.dst v') w'):wpList Tryz.prog ops Q (o::rest) a w :=
 wpList_plain hgd fun _ hK=>by
  obtain ⟨v',w',hr,h2,h3,_⟩:=lW w o.type base v l x A cap hown hr hx hml hb hbase
  unfold Oper.wp execOp
  simp only[ho,resolve,invoke,builtin,Sem.run_bind,Sem.run_pure,Result.andThen_ok,List.map_toArray,List.map_cons,List.map_nil,hs,hz,hr]
  exact hK _ _ (h v' w' h2 h3)

end Go.Proofs.YtckeonpnfankhaaGreatDoor
