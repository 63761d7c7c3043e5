import Derived.Test.YtjmmpnmgpgaagaaGreatDoorM29
set_option maxRecDepth 100000
set_option maxHeartbeats 8000000
open Go renaming Calls → Y, World → U, Addr → ka
open Go.Ending renaming returned → O
open Go.IntKind renaming i64 → Z
open Go.Proofs.Tryz renaming prog → I
open Go.RowKit renaming Hid → T, Below → ib
open Go.Value renaming string → J, int → H, slice → K, pointer → ic, tuple → ix, bool → kb, agg → kc
namespace Go.Proofs.YtjmmpnmgpgaagaaGreatDoor
open Go.RowKit Go.Sort

theorem e8 (c:UInt8):∀x:List UInt8,(ac c x).length<=x.length+1
 | []=>by simp[ac]
 | b::r=>by
  have ih:=e8 c r
  unfold ac
  by_cases f:b=c
  ·rw[if_pos f];simp only[List.length_cons];omega
  ·rw[if_neg f]
   cases e:ac c r with
   | nil=>simp
   | cons y t=>rw[e] at ih;simp only[List.length_cons] at ih ⊢;omega
def bT (x:List UInt8):List (List UInt8):=(ac 32 x).filter fun y=> !(y==[])
def dy (x:List UInt8):List (List UInt8):=if (ac 10 x).getLast? = some [] then (ac 10 x).dropLast else ac 10 x
def bP:List (List UInt8)->Option (List Int)
 | []=>some []
 | x::r=>match eD 6 x with
  | none=>none
  | some n=>match bP r with
   | none=>none
   | some l=>some (n::l)
theorem sp {L:List (List UInt8)} {n:Nat} (h:L.length=n+1) {y:List UInt8} (f:L[n]'(by omega)=y):L.getLast? = some y:=by
 rw[List.getLast?_eq_getElem?,h,Nat.add_sub_cancel,List.getElem?_eq_getElem (by omega),f]
theorem sq (x:List UInt8) (w:U) (hr:Reads w) (hx:x.length<=65536):Y I 11 #[J ⟨x.toArray⟩] w fun e w'=>(∃A cap,e= O (K A (dy x).length cap)/\cw w' A (dy x))/\ib w.heap.size w w':=by
 have C:T _:=lL x 10 w hr (by omega)
 obtain ⟨L,g⟩:∃L,ac 10 x=L:=⟨_,rfl⟩
 have F:L≠[]:=by rw[<-g];exact cF _ _
 have ah:=List.length_pos_iff.2 F
 have ad:L.length<=65537:=by rw[<-g];exact nT (e8 10 x) (by omega)
 obtain ⟨n,j⟩:∃n,L.length=n+1:=⟨L.length-1,by omega⟩
 obtain ⟨y,R⟩:∃y,L[n]'(by omega)=y:=⟨_,rfl⟩
 have hD:T (dy x=if y=[] then L.take n else L):=by
  show _=_
  unfold dy
  rw[g,sp j R,List.dropLast_eq_take,j,Nat.add_sub_cancel]
  by_cases h:y=[]<;>simp[h]
 rw[g] at C
 have u:=ja1 R
 clear hr hx g R
 go_enter Tryz.func11,Tryz.ntmps11
 go_wp2_with fail
 refine ja0 C ?_
 rintro e w1 ⟨rfl,f1,f2⟩
 have f:=ja2 f1 f2
 clear f1 f2 C
 obtain ⟨b,an,r,hb,hc⟩:=f.out.1.at (m:=n) (by omega)
 injection r with r
 injection r with hA1 hA2
 subst hA1 hA2
 have k:=hc n (by omega) 0 (by omega)
 rw[u.out] at k
 have c1:w1.cell? ⟨w.heap.size,n,none⟩=some (J ⟨y.toArray⟩):=by simpa[g9] using k
 clear hc k
 rw[j]
 have ez:((n+1:Nat):Int)-1=(n:Int):=by omega
 by_cases h:y=[]
 ·subst h
  have E:T (dy x=L.take n):=by show _=_;rw[hD.out,if_pos rfl]
  have hl:(L.take n).length=n:=by rw[List.length_take];omega
  go_wp2
  go_ret
  rw[E.out,hl]
  exact ⟨⟨_,_,rfl,f.out.1.take n⟩,f.out.2⟩
 ·have hb:(y==[])=false:=by simpa using h
  have E:T (dy x=L):=by show _=_;rw[hD.out,if_neg h]
  go_wp2
  go_ret
  rw[E.out,j]
  exact ⟨⟨_,_,rfl,f.out.1⟩,f.out.2⟩
theorem yc (x:List UInt8) (c:UInt8) (w:U) (j:Reads w) (k:x.length<4294967281):Y I 23 #[J ⟨x.toArray⟩,J ⟨#[c]⟩] w fun e w'=>e= O (K (some ⟨w.heap.size,0,none⟩) (ac c x).length (ac c x).length)/\Cls w' w.heap.size ((ac c x).map fun y=> J ⟨y.toArray⟩)/\ib w.heap.size w w':=by
 obtain ⟨m,h⟩:=j.len
 have f:=Any.strings_Split Tryz.lays146.1 Tryz.lays146.i9 ⟨x.toArray⟩ ⟨#[c]⟩ m w k h (nR 1)
 change Y I 23 _ _ _ at f
 rw[o8] at f
 refine f.mono ?_
 rintro e w' ⟨rfl,rfl⟩
 have:=va c x
 refine ⟨?_,?_,Below.alloc (bR _ _) (nR _) _⟩
 ·rw[<-this]
 ·have g:(ac c x).map (fun y=>Value.string ⟨y.toArray⟩)=List.map Value.string (List.map (fun y=>(⟨y.toArray⟩:ByteArray)) (ac c x)):=by rw[List.map_map];rfl
  rw[g]
  exact Cls.new w _ _
theorem sj (y:List UInt8) (w:U):Y I 31 #[J ⟨y.toArray⟩] w fun e w'=>e= O (kb (y==[]))/\w'=w:=by
 go_enter Tryz.func31,Tryz.ntmps31
 go_wp2
 go_ret
 exact ⟨by simp,rfl⟩
theorem qT {α : Type} [Inhabited α] (enc: α -> Value) (n:Nat) (w:U) (b off:Nat) (d:Array α) (h:n<=b):RowKit.Below n w (putRow enc w b off d) :=
 ⟨rfl,rfl,rfl,by rw[size_putRow];exact nR _,fun k f=>by
  show (w.heap.modify b _)[k]? = _
  rw[Array.getElem?_modify,if_neg (by omega)]⟩
theorem tn (x:List UInt8) (w:U) (hr:Reads w) (hx:x.length<=65536):Y I 15 #[J ⟨x.toArray⟩] w fun e w'=>(∃cap,(bT x).length<=cap/\e= O (K (some ⟨w.heap.size,0,none⟩) (bT x).length cap)/\cw w' (some ⟨w.heap.size,0,none⟩) (bT x))/\ib w.heap.size w w':=by
 have hS:T _:=yc x 32 w hr (by omega)
 obtain ⟨L,E⟩:∃L,ac 32 x=L:=⟨_,rfl⟩
 have ap:L.length<=65537:=by rw[<-E];exact nT (e8 32 x) (by omega)
 have hD:T (bT x=L.filter fun y=> !(y==[])):=by show _=_;unfold bT;rw[E]
 rw[E] at hS
 clear E hr hx
 have hC:T (∀w1:U,Cls w1 w.heap.size (L.map fun y=> J ⟨y.toArray⟩)->Y I 30 #[K (some ⟨w.heap.size,0,none⟩) L.length L.length,.func (.func 31) #[] #[]] w1 fun e w'=>e= O (K (some ⟨w.heap.size,0,none⟩) (L.filter fun y=> !(y==[])).length L.length)/\cw w' (some ⟨w.heap.size,0,none⟩) (L.filter fun y=> !(y==[]))/\ib w.heap.size w1 w'):=by
  intro w1 g
  have eg:∀f w,(callFunc 31 f).run I w= .ok (.enter 31 f) w:=enters_of Tryz.func31 (by kernel_rfl) rfl
  have hH:Holds (fun y:List UInt8=>Value.string ⟨y.toArray⟩) w1 w.heap.size 0 L.toArray:=fun j R=>by
   have an:j<L.length:=by simpa using R
   refine ⟨?_,?_⟩
   ·rw[Nat.zero_add]
    refine g.cell ?_
    rw[List.getElem?_map,List.getElem?_eq_getElem an,Option.map_some,getElem!_pos L.toArray j R]
    simp
   ·rw[Nat.zero_add];exact g.fz _
  have g1:∀(W:U) (y:List UInt8),FnGives I 31 #[] #[J ⟨y.toArray⟩] (kb (y==[])) W:=fun W y=>(sj y W).mono fun _ _ ⟨g,h2⟩=>⟨g,0,h2⟩
  have hc:=AnyE.slices_DeleteFunc Tryz.delD (fun y:List UInt8=>Value.string ⟨y.toArray⟩) (fun _=>rfl) (fun y=>y==[]) 31 #[] eg [] Tryz.zeroValue9 w.heap.size 0 L.length L.toArray w1 (fun W y _=>g1 W y) (fun n os dk y _=>g1 _ y) hH (by simp;omega) (by simp)
  change Y I 30 _ _ _ at hc
  have es:L.toArray.size=L.length:=by simp
  rw[es] at hc
  refine hc.mono ?_
  rintro e w' ⟨rfl,q,rfl⟩
  obtain ⟨F,C⟩:∃F,(L.filter fun y=> !(y==[]))=F:=⟨_,rfl⟩
  have a0:F.length<=L.length:=by rw[<-C];exact List.length_filter_le _ _
  have ad:(L.toArray.toList.filter fun y=> !(y==[]))=F:=C
  rw[ad]
  refine ⟨rfl,?_,?_⟩
  ·have ah:Holds (fun y:List UInt8=>Value.string ⟨y.toArray⟩) (Sort.ahead w1 q) w.heap.size 0 L.toArray:=hH
   have hp:=holds_putRow (fun y:List UInt8=>Value.string ⟨y.toArray⟩) (Sort.ahead w1 q) w.heap.size 0 L.toArray (F++List.replicate (L.length-F.length) []).toArray ah (by simp;omega)
   refine oR ⟨w.heap.size,0,rfl,?_,fun j R i hi=> ?_⟩
   ·rw[size_putRow];exact g.lt
   ·obtain rfl:i=0:=by omega
    have u:=(hp j (by simp;omega)).1
    rw[getElem!_pos _ j (by simp;omega)] at u
    simp only[List.getElem_toArray] at u
    rw[List.getElem_append_left R] at u
    simpa[g9] using u
  ·exact Below.trans ((vt w1 q).below.mono (Nat.le_of_lt g.lt)) (qT _ _ _ _ _ _ (nR _))
 go_enter Tryz.func15,Tryz.ntmps15
 go_wp2_with fail
 refine ja0 hS ?_
 rintro e w1 ⟨rfl,h,k⟩
 have C:=ja1 k
 have r:T _:=hC.out w1 h
 clear h k hS hC
 go_wp2_with fail
 refine ja0 r ?_
 rintro e w2 ⟨rfl,h,k⟩
 have hG:=ja2 h k
 clear h k r
 rw[<-hD.out] at hG ⊢
 have ao:(bT x).length<=L.length:=by rw[hD.out];exact List.length_filter_le _ _
 go_wp2
 go_ret
 exact ⟨⟨_,ao,rfl,hG.out.1⟩,C.out.trans hG.out.2⟩

abbrev eC:List UInt8:=[113,117,101,114,121]
abbrev ir:List UInt8:=[99,108,101,97,114]
abbrev kY:List UInt8:=[115,104,111,119]
abbrev rg:List UInt8:=[112,117,116]
abbrev uN:List UInt8:=[100,101,108]
abbrev ou:List UInt8:=[115,101,110,100]
abbrev oq:List UInt8:=[100,105,102,102]
abbrev qn:List UInt8:=[116,97,107,101]
abbrev jc:List UInt8:=[118,105,101,119]
abbrev jb:List UInt8:=[114,111,119,115]
abbrev ot:List UInt8:=[115,101,101]
abbrev kX:List UInt8:=[109,101,101,116]
def eQ (a:List UInt8) (n:Int):Bool :=
 if a=ir\/a=kY\/a=kX then n==0 else if a=qn\/a=jc then n==1 else if a=ou\/a=oq\/a=jb then n==2
 else if a=uN then n==3 else if a=rg then n==5 else if a=ot then decide (2<=n) else false
theorem kd:∀(f:List (List UInt8)) (y:List UInt8),bP (f++[y])=match bP f with
  | none=>none
  | some l=>(eD 6 y).map fun n=>l++[n]
 | [],y=>by
  show bP [y]=(eD 6 y).map fun n=>[]++[n]
  simp only[bP]
  cases eD 6 y<;>rfl
 | x::r,y=>by
  rw[List.cons_append,bP,bP,kd r y]
  cases eD 6 x with
  | none=>rfl
  | some n =>
   cases bP r with
   | none=>rfl
   | some l=>cases eD 6 y<;>rfl
theorem pR:∀ {g:List (List UInt8)} {l:List Int},bP g=some l->l.length=g.length
 | [],l,h=>by cases h;rfl
 | x::r,l,h=>by
  rw[bP] at h
  cases e:eD 6 x with
  | none=>rw[e] at h;cases h
  | some n =>
   rw[e] at h
   cases f:bP r with
   | none=>rw[f] at h;cases h
   | some m =>
    rw[f] at h
    cases h
    have:=pR f
    simp[this]
theorem xC {f:List (List UInt8)} {k:Nat} (h:bP (f.take k)=none):bP f=none:=by
 have key:∀(b a:List (List UInt8)),bP a=none->bP (a++b)=none:=by
  intro b
  induction b with
  | nil=>intro a h;rw[List.append_nil];exact h
  | cons y t ih =>
   intro a h
   have e:a++y::t=(a++[y])++t:=by simp
   rw[e]
   exact ih _ (by rw[kd,h])
 have:=key (f.drop k) _ h
 rwa [List.take_append_drop] at this
theorem oM (f:List (List UInt8)) (A:Option ka) (cap:Nat) (w:U) (a1:Reads w) (hr:cw w A f) (hl:f.length<=70000) :
  Y I 27 #[K A f.length cap] w fun e w'=>∃v,e= O (ix #[v,kb (bP f).isSome])/\ib w.heap.size w w'/\∀l,bP f=some l->dr w' w.heap.size v l:=by
 obtain ⟨B9,F⟩:∃B9,(bP f).isSome=B9:=⟨_,rfl⟩
 have hH:=ja2 hr a1
 have a0:=ja1 F
 rw[F]
 clear hr a1 F
 go_enter Tryz.func27,Tryz.ntmps27
 go_wp2
 go_loopw [4,11] (fun v i wr=>∃(k:Nat) (l:List Int),k<=f.length/\i= H Z k/\T (bP (f.take k)=some l/\l.length=k/\dr wr w.heap.size v l/\ib w.heap.size w wr)) (fun _ i _=>f.length-(intOf i).toNat)
 case atStart=>exact ⟨0,[],nZ _,rfl,rfl,rfl,ae.nil _ _ _ _ _,bR _ _⟩
 case round =>
  rename U=>a8
  obtain ⟨k,l,hk,rfl,g⟩:=hrel
  by_cases ao:k<f.length
  ·have a5:(k:Int)<(f.length:Int):=by omega
   obtain ⟨x,hx⟩:∃x,f[k]=x:=⟨_,rfl⟩
   obtain ⟨b,bb,rfl,hb,a2⟩:=(hH.out.1.below g.out.2.2.2).at ao
   have e0:=a2 k ao 0 (by omega)
   rw[hx] at e0
   have e1:a8.cell? ⟨b,bb+k,none⟩=some (J ⟨x.toArray⟩):=by simpa[g9] using e0
   have a6:T (bP (f.take (k+1))=(eD 6 x).map fun n=>l++[n]):=by show _=_;rw[List.take_succ_eq_append_getElem ao,hx,kd,g.out.1]
   have ad:=nJ 6 (by decide) x a8 (hH.out.2.below g.out.2.2.2)
   obtain ⟨N,hN⟩:∃N,(eD 6 x).getD 0=N:=⟨_,rfl⟩
   obtain ⟨B,hB⟩:∃B,(eD 6 x).isSome=B:=⟨_,rfl⟩
   rw[hN,hB] at ad
   have hW:T _:=ad
   have L:=ja2 hN hB
   clear ad a2 e0 hx hN hB
   go_wp2_with fail
   refine ja0 hW ?_
   rintro e w2 ⟨rfl,a7⟩
   have ap:=ja1 a7
   clear hW a7
   cases B
   ·have C:T (bP f=none):=by
     have h2:=L.out.2
     have hn:eD 6 x=none:=by
      cases e:eD 6 x with
      | none=>rfl
      | some n=>rw[e] at h2;cases h2
     exact xC (k:=k+1) (by rw[a6.out,hn];rfl)
    have j:=ja1 (g.out.2.2.2.trans (ap.out.mono g.out.2.2.2.size))
    go_wp2
    go_ret2
    exact ⟨_,by rw[<-a0.out,C.out];rfl,j.out,fun l h=>by rw[C.out] at h;cases h⟩
   ·have hn:T (eD 6 x=some N):=by
     have h1:=L.out.1
     have h2:=L.out.2
     show _=_
     cases e:eD 6 x with
     | none=>rw[e] at h2;cases h2
     | some n=>rw[e] at h1;rw[<-h1];rfl
    obtain ⟨W3,ah⟩:∃W,(w2.alloc (.cells #[H Z N] 3))=W:=⟨_,rfl⟩
    have an:Gr w2 W3:=by rw[<-ah];exact (gR _).alloc _
    have E:al W3 (some ⟨w2.heap.size,0,none⟩) [N]:=by rw[<-ah];exact ii rfl N _
    have R:=g.out.2.2.1.below ap.out
    have j:ib w.heap.size w w2:=g.out.2.2.2.trans (ap.out.mono g.out.2.2.2.size)
    obtain ⟨v0,c0,hv,_⟩:=ae.full bS R
    subst hv
    have u:T (dr W3 w.heap.size (K v0 l.length c0) l/\al W3 (some ⟨w2.heap.size,0,none⟩) [N]/\l.length+1<=maxLen/\(l.length+1)*8<=140737488355328/\ib w.heap.size w W3):=⟨R.gr an,E,by have:=g.out.2.1;unfold maxLen;omega,by have:=g.out.2.1;omega,j.trans (an.below.mono j.size)⟩
    have ba:=ja1 g.out.2.1
    clear an E g R j
    go_wp2_with (at_builtin;refine aJ _ rfl (.tmp 22) (.tmp 24) rfl w.heap.size (K v0 l.length c0) l [N] (some ⟨w2.heap.size,0,none⟩) 1 rfl rfl u.out.1 u.out.2.1 (fun h=>by cases h) u.out.2.2.1 u.out.2.2.2.1 u.out.2.2.2.2.size ?_)
    intro v4 w4 r a4
    clear ah
    have a3:T (bP (f.take (k+1))=some (l++[N])/\(l++[N]).length=k+1/\dr w4 w.heap.size v4 (l++[N])/\ib w.heap.size w w4):=⟨by rw[a6.out,hn.out];rfl,by have:=ba.out;simp;omega,r,u.out.2.2.2.2.trans (u.out.1.grown_below a4 u.out.2.2.2.2.size)⟩
    clear r a4
    go_wp2
    go_roundw
    case rel=>exact ⟨k+1,l++[N],by omega,by go_num,a3⟩
    case measure=>simp[intOf];omega
  ·have a5:¬(k:Int)<(f.length:Int):=by omega
   have a9:f.take k=f:=List.take_of_length_le (by omega)
   rw[a9] at g
   go_wp2
   go_ret2
   exact ⟨_,by rw[<-a0.out,g.out.1];rfl,g.out.2.2.2,fun l' h=>by rw[g.out.1] at h;rw[<-Option.some.inj h];exact g.out.2.2.1⟩
theorem vT (a:List UInt8):a=ir\/a=kY\/a=kX\/a=qn\/a=jc\/a=ou\/a=oq\/a=jb\/a=uN\/a=rg\/a=ot\/((a==ir)=false/\(a==kY)=false/\(a==kX)=false/\(a==qn)=false/\(a==jc)=false/\(a==ou)=false/\(a==oq)=false/\(a==jb)=false/\(a==uN)=false/\(a==rg)=false/\(a==ot)=false):=by
 simp only[beq_eq_false_iff_ne,ne_eq]
 by_cases h:a=ir;· exact oL h
 by_cases j:a=kY;· exact oR (oL j)
 by_cases k:a=kX;· exact oR (oR (oL k))
 by_cases n:a=qn;· exact oR (oR (oR (oL n)))
 by_cases r:a=jc;· exact oR (oR (oR (oR (oL r))))
 by_cases u:a=ou;· exact oR (oR (oR (oR (oR (oL u)))))
 by_cases C:a=oq;· exact oR (oR (oR (oR (oR (oR (oL C))))))
 by_cases E:a=jb;· exact oR (oR (oR (oR (oR (oR (oR (oL E)))))))
 by_cases F:a=uN;· exact oR (oR (oR (oR (oR (oR (oR (oR (oL F))))))))
 by_cases f:a=rg;· exact oR (oR (oR (oR (oR (oR (oR (oR (oR (oL f)))))))))
 by_cases g:a=ot;· exact oR (oR (oR (oR (oR (oR (oR (oR (oR (oR (oL g))))))))))
 exact oR (oR (oR (oR (oR (oR (oR (oR (oR (oR (oR ⟨h,j,k,n,r,u,C,E,F,f,g⟩))))))))))
theorem tX (a:List UInt8) (n:Int) (w:U):Y I 28 #[J ⟨a.toArray⟩,H Z n] w fun e w'=>e= O (kb (eQ a n))/\w'=w:=by
 rcases vT a with rfl|rfl|rfl|rfl|rfl|rfl|rfl|rfl|rfl|rfl|rfl|⟨b1,b2,b3,b4,b5,b6,b7,b8,b9,b10,b11⟩
 all_goals
  go_enter Tryz.func28,Tryz.ntmps28
  go_wp2
  go_ret
 all_goals first
  | exact ⟨rfl,rfl⟩
  | (
   refine ⟨?_,rfl⟩
   simp only[beq_eq_false_iff_ne,ne_eq] at *
   simp[*,eQ])

def aO (e:Int):List UInt8:=if e=0 then [111,107,10] else [101,114,114,111,114,32]++Lib.itoa e++[10]
def atD (e k:Int):List UInt8:=[101,114,114,111,114,32]++Lib.itoa e++[32]++Lib.itoa k++[10]
theorem ci {e:Int} (h:Small e) {w:U} (F:dK w):Y I 10 #[H Z e] w fun v w'=>v= O (J ⟨(aO e).toArray⟩)/\Gr w w':=by
 by_cases k:e=0
 ·subst k
  go_enter Tryz.func10,Tryz.ntmps10
  go_wp2
  go_ret
  exact ⟨rfl,gR _⟩
 have hb:(e==0)=false:=by simpa using k
 have n:=dw h
 obtain ⟨L,j⟩:∃b:ByteArray,b=⟨(Lib.itoa e).toArray⟩:=⟨_,rfl⟩
 obtain ⟨r,f⟩:∃b:ByteArray,b=⟨([101,114,114,111,114,32]++Lib.itoa e).toArray⟩:=⟨_,rfl⟩
 obtain ⟨u,g⟩:∃b:ByteArray,b=⟨([101,114,114,111,114,32]++Lib.itoa e++[10]).toArray⟩:=⟨_,rfl⟩
 have a1:∀w,(Op.stringOp .add ⟨#[101,114,114,111,114,32]⟩ L).run I w= .ok (J r) w:=l6 (x:=[101,114,114,111,114,32]) f rfl j (by simp;omega)
 have a2:∀w,(Op.stringOp .add r ⟨#[10]⟩).run I w= .ok (J u) w:=l6 (y:=[10]) g f rfl (by simp;omega)
 have E:T (Y I 22 #[H Z e] w fun v w'=>v= O (J L)/\Gr w w'):=by rw[j];exact gu h F
 have R:T (u=⟨(aO e).toArray⟩):=by show _=_;rw[g];unfold aO;rw[if_neg k]
 clear j f g k F h n
 go_enter Tryz.func10,Tryz.ntmps10
 go_wp2_with fail
 refine ja0 E ?_
 rintro v w1 ⟨rfl,C⟩
 have hF:=ja1 C
 clear C E
 go_wp2
 go_ret
 exact ⟨by rw[R.out];rfl,hF.out⟩
theorem uW {e k:Int} (h:Small e) (E:Small k) {w:U} (R:dK w):Y I 56 #[H Z e,H Z k] w fun v w'=>v= O (J ⟨(atD e k).toArray⟩)/\Gr w w':=by
 have F:=dw h
 have L:=dw E
 obtain ⟨ia,r⟩:∃b:ByteArray,b=⟨(Lib.itoa e).toArray⟩:=⟨_,rfl⟩
 obtain ⟨ik,u⟩:∃b:ByteArray,b=⟨(Lib.itoa k).toArray⟩:=⟨_,rfl⟩
 obtain ⟨b1,f⟩:∃b:ByteArray,b=⟨([101,114,114,111,114,32]++Lib.itoa e).toArray⟩:=⟨_,rfl⟩
 obtain ⟨b2,g⟩:∃b:ByteArray,b=⟨([101,114,114,111,114,32]++Lib.itoa e++[32]).toArray⟩:=⟨_,rfl⟩
 obtain ⟨b3,j⟩:∃b:ByteArray,b=⟨([101,114,114,111,114,32]++Lib.itoa e++[32]++Lib.itoa k).toArray⟩:=⟨_,rfl⟩
 obtain ⟨b4,n⟩:∃b:ByteArray,b=⟨(atD e k).toArray⟩:=⟨_,rfl⟩
 have a1:∀w,(Op.stringOp .add ⟨#[101,114,114,111,114,32]⟩ ia).run I w= .ok (J b1) w:=l6 (x:=[101,114,114,111,114,32]) f rfl r (by simp;omega)
 have a2:∀w,(Op.stringOp .add b1 ⟨#[32]⟩).run I w= .ok (J b2) w:=l6 (y:=[32]) g f rfl (by simp;omega)
 have a3:∀w,(Op.stringOp .add b2 ik).run I w= .ok (J b3) w:=l6 j g u (by simp;omega)
 have a4:∀w,(Op.stringOp .add b3 ⟨#[10]⟩).run I w= .ok (J b4) w:=l6 (y:=[10]) n j rfl (by simp;omega)
 have hC:T (Y I 22 #[H Z e] w fun v w'=>v= O (J ia)/\Gr w w'):=by rw[r];exact gu h R
 have hK:T (∀W,Gr w W->Y I 22 #[H Z k] W fun v w'=>v= O (J ik)/\Gr W w'):=fun W hW=>by rw[u];exact gu E (R.gr hW)
 have hE:=ja1 n
 clear r u f g j n R h E F L
 go_enter Tryz.func56,Tryz.ntmps56
 go_wp2_with fail
 refine ja0 hC ?_
 rintro v w1 ⟨rfl,C⟩
 have hF:=ja1 C
 clear C hC
 go_wp2_with fail
 refine cM (hK.out _ hF.out) ?_
 rintro v w2 ⟨rfl,C⟩
 have hG:=ja1 (hF.out.trans C)
 clear C hK
 go_wp2
 go_ret
 exact ⟨by rw[hE.out];rfl,hG.out⟩

theorem av {c:Prop} {_:Decidable c} {a b:Int} (h:Small a) (k:Small b):Small (if c then a else b):=by
 by_cases e:c
 ·rw[if_pos e];exact h
 ·rw[if_neg e];exact k
theorem s0:Small 0:=⟨by decide,by decide⟩
theorem s1:Small 1:=⟨by decide,by decide⟩
theorem s2:Small 2:=⟨by decide,by decide⟩
theorem s3:Small 3:=⟨by decide,by decide⟩
theorem s4:Small 4:=⟨by decide,by decide⟩
theorem s5:Small 5:=⟨by decide,by decide⟩
theorem lj (c:Ctx):Small (aN c):=av s1 (av s2 (av s0 s5))
theorem mY (t:Tab):Small (aw t):=av (lj _) (av s2 (av s0 s5))
theorem vx (a b:Ctx):Small (aM a b):=av (av s2 s0) (av (lj b) (lj a))
theorem nD (a b:Tab):Small (au a b):=av (mY a) (av (mY b) (av s5 (av (vx _ _) (av s2 s0))))
theorem qK (l:List (Int×Int)):Small (bL l):=av s2 (av s5 s0)
theorem BM (c:Ctx) (n:Int):Small (bi c n).2:=by
 unfold bi
 by_cases h:aN c=0
 ·rw[if_pos h]
  by_cases k:inB n 0 3=true
  ·rw[if_pos k];exact av s2 s0
  ·rw[if_neg k];exact s1
 ·rw[if_neg h];exact lj c
theorem DQ (t:Tab) (id k key col v:Int):Small (edE t id k key col v) :=
 av (av (mY t) (av s1 (av (BM _ _) (av (qK _) (av (qK _) (vx _ _)))))) (av (av (mY t) (av s1 (av s4 (qK _)))) s1)
theorem Cs (t:Tab) (id k key col v:Int):Small (doE t id k key col v):=av (nD _ _) (DQ ..)
theorem sU (t:Tab) (c:Ctx):Small (bE t c):=av (mY t) (av (lj c) (av (lj _) (av s2 s0)))
theorem zC (N:NetM) (h:Hap):Small (cY N h) :=
 av (av (av (Cs ..) (av (Cs ..) s1)) s4) (av (av (av s0 s2) s4) (av (av (av (av (sU _ _) (sU _ _)) s2) s4) (av (av (by
  cases N.pk[h.n.toNat]? with
  | none=>exact s4
  | some p=>exact av (nD _ _) (nD _ _)) s4) s1)))
theorem tL (q:List Stp):Small (bu q):=av s1 (av s2 (av s0 s1))
theorem CE (q:List Stp) (qs:List (List Stp)):Small (wtE q qs):=av (av s2 s0) (tL q)
theorem ln (l:List Zit):Small (aq l):=av s2 (av s5 s0)
theorem Ao (l:List Zit) (f:List Int) (m:Int):Small (ki l f m):=av (av (av s0 s1) s5) (ln l)
theorem qM (l:List Zit):Small (bY l):=av s2 (av (av s0 s5) s5)
theorem yw (a b:List Zit):Small (aY a b):=av (av (av (av s2 s0) (av s0 s5)) (ln _)) (ln _)
theorem Cn (s:Stp) (a b:List Zit) (S:List (List Zit)):Small (aT s a b S) :=
 av (qM _) (av (av (qM _) s5) (av (yw _ _) (av (av (yw _ _) (ln _)) (qM _))))
theorem yx (a b:List Zit):∀(q:List Stp) (S:List (List Zit)),Small (jB a b q S)
 | [],_=>s0
 | s::t,S=>av (yx a b t _) (Cn s a b S)
theorem Ak (q:List Stp) (a b:List Zit):Small (bM q a b):=av (yx _ _ _ _) (av (av (av (av s0 s5) (ln _)) (ln _)) (tL q))

def rdE (x:List UInt8):Int:=if 1024<x.length then 2 else if gH (ac 10 x) 1=0 then bu ((iC x).getD []) else 3
def rdK (x:List UInt8):Int:=if 1024<x.length then 0 else (gH (ac 10 x) 1:Nat)
def rdQ (x:List UInt8):List Stp:=((iC x).getD []).map bare
theorem nV {x:List UInt8} {q:List Stp} {k j:Int} (h:rj x q k j):j=rdE x/\k=rdK x/\(j=0->q.map bare=rdQ x):=by
 rcases h with ⟨g,rfl,rfl,rfl⟩|⟨g,h2,rfl,rfl,rfl⟩|⟨g,h2,q0,q1,h3,h4,rfl,rfl,h5,_⟩
 ·exact ⟨by unfold rdE;rw[if_pos g],by unfold rdK;rw[if_pos g],fun h=>absurd h (by decide)⟩
 ·have f:¬ 1024<x.length:=by omega
  exact ⟨by unfold rdE;rw[if_neg f,if_neg h2],by unfold rdK;rw[if_neg f],fun h=>absurd h (by decide)⟩
 ·have f:¬ 1024<x.length:=by omega
  have n:q1.map bare=q0.map bare:=h4
  have r:bu q1=bu q0:=by rw[<-eN q1,n,eN]
  refine ⟨by unfold rdE;rw[if_neg f,if_pos h2,h3];exact r,by unfold rdK;rw[if_neg f,h2];rfl,fun h=> ?_⟩
  unfold rdQ
  rw[h5 h,h3]
  exact n
theorem sM (x:List UInt8):Small (rdE x):=av s2 (av (tL _) s3)
theorem El (x:List UInt8):rdE x≠4:=by
 unfold rdE bu
 by_cases f:1024<x.length
 ·rw[if_pos f];decide
 ·rw[if_neg f]
  by_cases g:gH (ac 10 x) 1=0
  ·rw[if_pos g]
   split
   ·decide
   ·split
    ·decide
    ·split<;>decide
  ·rw[if_neg g];decide
theorem uK (q:List Stp):cT (q.map bare)=cT q:=by
 induction q with
 | nil=>rfl
 | cons s t ih =>
  show (gx (bare s)++[10])++cT (t.map bare)=(gx s++[10])++cT t
  rw[ih];rfl
theorem vL:∀(l:List (List UInt8)) (k:Nat),gH l k<=k+l.length
 | [],k=>nZ _
 | [y],k=>by
  show (if y=[] then 0 else k)<=_
  by_cases h:y=[]
  ·rw[if_pos h];exact nZ _
  ·rw[if_neg h];omega
 | p::r::t,k=>by
  rw[lH (by simp)]
  cases gw p with
  | none=>show k<=_;omega
  | some _ =>
   have:=vL (r::t) (k+1)
   show gH (r::t) (k+1)<=_
   simp only[List.length_cons] at this ⊢
   omega
theorem vJ (x:List UInt8):Small (rdK x):=by
 unfold rdK
 by_cases h:1024<x.length
 ·rw[if_pos h];exact s0
 ·rw[if_neg h]
  have f:=vL (ac 10 x) 1
  have g:=e8 10 x
  exact ⟨by omega,by omega⟩
def oy (x:List UInt8):Prop:=∃y,x=y++[10]/\y.length<=100000
def gd (l:List Zit) (cs:List Int):List UInt8:=if ki l cs 400=0 then d8 (ig l cs 400) (ig l cs 400).length++aO 0 else aO (ki l cs 400)
theorem cI {e:Int} (h:Small e):oy (aO e):=by
 unfold aO
 by_cases k:e=0
 ·rw[if_pos k];exact ⟨[111,107],rfl,by decide⟩
 ·rw[if_neg k]
  have:=dw h
  exact ⟨_,rfl,by simp;omega⟩
theorem uX {e k:Int} (h:Small e) (f:Small k):oy (atD e k):=by
 have g:=dw h
 have j:=dw f
 exact ⟨_,rfl,by simp;omega⟩
theorem vj {x:List UInt8} (f:x.length<=99000):oy (x++aO 0):=⟨x++[111,107],by simp[aO],by simp;omega⟩
theorem xR (l:List Zit) (f:List Int) (m:Int):∃L:List Itm,L.map Itm.r=ig l f m:=⟨(ig l f m).map fun r=>⟨none,0,r,0⟩,by rw[List.map_map];exact List.map_id _⟩
theorem nt (l:List Zit) (f:List Int):oy (gd l f):=by
 unfold gd
 by_cases k:ki l f 400=0
 ·rw[if_pos k]
  obtain ⟨L,g⟩:=xR l f 400
  have h:=pZ g
  have j:=ij (R:=ig l f 400) (by rw[<-g];exact h.rows) _ (nR _)
  have n:(ig l f 400).length<=400:=by rw[<-g,List.length_map];exact h.1
  exact vj (by omega)
 ·rw[if_neg k];exact cI (Ao _ _ _)

structure Dsk where
 m:NetM
 q:Nat->List (List Stp)
 x:List UInt8
def xw:Dsk:=⟨i7,fun _=>[],[]⟩
def mG (Q:Nat->List (List Stp)):Nat->List (List Stp):=fun i=>(Q i).map (·.map bare)
theorem wj (Q:Nat->List (List Stp)) (i:Nat) (l:List (List Stp)):mG (iH Q i l)=iH (mG Q) i (l.map (·.map bare)):=by
 funext j
 unfold mG iH
 split<;>rfl
theorem tp {q r:List Stp} (h:q.map bare=r) (qs:List (List Stp)):wtE q qs=wtE r (qs.map (·.map bare)):=by
 unfold wtE
 rw[<-h,eN,List.length_map]
theorem B2 {q r:List Stp} (h:q.map bare=r) (qs:List (List Stp)):(wtQ q qs).map (·.map bare)=wtQ r (qs.map (·.map bare)):=by
 unfold wtQ
 rw[<-tp h]
 by_cases k:wtE q qs=0
 ·rw[if_pos k,if_pos k,List.map_append,<-h];rfl
 ·rw[if_neg k,if_neg k]
def rX (a:List UInt8) (l:List Int):Hap :=
 if a=rg then ⟨1,l.getD 0 0,0,0,1,l.getD 1 0,l.getD 2 0,l.getD 3 0,l.getD 4 0⟩
 else if a=uN then ⟨1,l.getD 0 0,0,0,2,l.getD 1 0,l.getD 2 0,0,0⟩
 else if a=ou then ⟨2,l.getD 0 0,l.getD 1 0,0,0,0,0,0,0⟩
 else if a=oq then ⟨3,l.getD 0 0,l.getD 1 0,0,0,0,0,0,0⟩
 else ⟨4,0,0,l.getD 0 0,0,0,0,0,0⟩
def jM (x:List UInt8):List UInt8:=if rdE x=0 then cT (rdQ x)++aO 0 else atD (rdE x) (rdK x)
def dB (d:Dsk) (i:Int):Dsk×List UInt8 :=
 if isN i then (if rdE d.x=0 then (⟨d.m,iH d.q i.toNat (wtQ (rdQ d.x) (d.q i.toNat)),d.x⟩,aO (wtE (rdQ d.x) (d.q i.toNat))) else (d,atD (rdE d.x) (rdK d.x))) else (d,aO 4)
def jL (d:Dsk) (i j:Int):List UInt8 :=
 if isN i/\j=0 then gd (ofR (d.m.s i.toNat)) [] else if isN i/\j=1 then gd (ofR (d.m.t i.toNat)) [] else aO 4
def lI (d:Dsk) (i j:Int) (cs:List Int):List UInt8 :=
 if isN i/\0<=j then (match (d.q i.toNat)[j.toNat]? with
  | some q=>if bM q (ofR (d.m.s i.toNat)) (ofR (d.m.t i.toNat))=0 then gd (ei q (ofR (d.m.s i.toNat)) (ofR (d.m.t i.toNat))) cs else aO (bM q (ofR (d.m.s i.toNat)) (ofR (d.m.t i.toNat)))
  | none=>aO 4) else aO 4
def doD (d:Dsk) (a:List UInt8) (l:List Int):Dsk×List UInt8 :=
 if a=ir then (⟨d.m,d.q,[]⟩,aO 0)
 else if a=kY then (d,jM d.x)
 else if a=jc then dB d (l.getD 0 0)
 else if a=jb then (d,jL d (l.getD 0 0) (l.getD 1 0))
 else if a=ot then (d,lI d (l.getD 0 0) (l.getD 1 0) (l.drop 2))
 else if a=kX then (⟨iy d.m,d.q,d.x⟩,aO 0)
 else (⟨bW d.m (rX a l),d.q,d.x⟩,aO (cY d.m (rX a l)))
def je (d:Dsk) (r:List (List UInt8)):Dsk×List UInt8 :=
 if 1024<d.x.length+(Lib.join r [32]).length+1 then (d,aO 2) else (⟨d.m,d.q,d.x++(Lib.join r [32]++[10])⟩,aO 0)
def de (d:Dsk):List (List UInt8)->Dsk×List UInt8
 | []=>(d,[])
 | a::r=>if fr a [35]=true then (d,[]) else if a=eC then je d r else match bP r with
  | none=>(d,aO 3)
  | some l=>if eQ a (l.length:Int)=true then doD d a l else (d,aO 3)
theorem eK (d:Dsk) (a:List UInt8) (r:List (List UInt8)):de d (a::r)=if fr a [35]=true then (d,[]) else if a=eC then je d r else match bP r with
  | none=>(d,aO 3)
  | some l=>if eQ a (l.length:Int)=true then doD d a l else (d,aO 3):=rfl
structure DkI (c:Nat) (d:Dsk):Prop where
 net:NInv c d.m
 txt:d.x.length<=1024
theorem DkI.new:DkI 0 xw:=⟨NInv.new,nZ _⟩
theorem DkI.mono {c e:Nat} {d:Dsk} (h:DkI c d) (k:c<=e):DkI e d:=⟨h.net.mono k,h.txt⟩
theorem vS (d:Dsk) (i:Int):(dB d i).1.m=d.m/\(dB d i).1.x=d.x:=by
 unfold dB
 by_cases f:isN i
 ·rw[if_pos f]
  by_cases g:rdE d.x=0
  ·rw[if_pos g];exact ⟨rfl,rfl⟩
  ·rw[if_neg g];exact ⟨rfl,rfl⟩
 ·rw[if_neg f];exact ⟨rfl,rfl⟩
theorem DkI.does {c:Nat} {d:Dsk} (h:DkI c d) (C:c+1<=400) (a:List UInt8) (l:List Int):DkI (c+1) (doD d a l).1:=by
 have f:=h.mono (Nat.le_succ c)
 unfold doD
 by_cases g:a=ir
 ·rw[if_pos g];exact ⟨f.net,nZ _⟩
 rw[if_neg g]
 by_cases j:a=kY
 ·rw[if_pos j];exact f
 rw[if_neg j]
 by_cases k:a=jc
 ·rw[if_pos k]
  have:=vS d (l.getD 0 0)
  exact ⟨by rw[this.1];exact f.net,by rw[this.2];exact f.txt⟩
 rw[if_neg k]
 by_cases n:a=jb
 ·rw[if_pos n];exact f
 rw[if_neg n]
 by_cases r:a=ot
 ·rw[if_pos r];exact f
 rw[if_neg r]
 by_cases u:a=kX
 ·rw[if_pos u];exact ⟨f.net.met.1,f.txt⟩
 rw[if_neg u]
 exact ⟨h.net.hap C _,h.txt⟩
theorem DkI.wrt {c:Nat} {d:Dsk} (h:DkI c d) (r:List (List UInt8)):DkI c (je d r).1:=by
 unfold je
 by_cases k:1024<d.x.length+(Lib.join r [32]).length+1
 ·rw[if_pos k];exact h
 ·rw[if_neg k]
  refine ⟨h.net,?_⟩
  show (d.x++(Lib.join r [32]++[10])).length<=1024
  simp only[List.length_append,List.length_cons,List.length_nil]
  omega
theorem DkI.ans {c:Nat} {d:Dsk} (h:DkI c d) (u:c+1<=400) (n:List (List UInt8)):DkI (c+1) (de d n).1:=by
 have f:=h.mono (Nat.le_succ c)
 cases n with
 | nil=>exact f
 | cons a r =>
  rw[eK]
  by_cases g:fr a [35]=true
  ·rw[if_pos g];exact f
  rw[if_neg g]
  by_cases j:a=eC
  ·rw[if_pos j];exact f.wrt r
  rw[if_neg j]
  cases bP r with
  | none=>exact f
  | some l =>
   by_cases k:eQ a (l.length:Int)=true
   ·show DkI _ (if eQ a (l.length:Int)=true then doD d a l else (d,aO 3)).1
    rw[if_pos k];exact h.does u a l
   ·show DkI _ (if eQ a (l.length:Int)=true then doD d a l else (d,aO 3)).1
    rw[if_neg k];exact f
theorem xW (x:List UInt8):oy (jM x):=by
 unfold jM
 by_cases h:rdE x=0
 ·rw[if_pos h]
  have f:bu (rdQ x)=0:=by
   unfold rdE at h
   by_cases g:1024<x.length
   ·rw[if_pos g] at h;exact absurd h (by decide)
   rw[if_neg g] at h
   by_cases j:gH (ac 10 x) 1=0
   ·rw[if_pos j] at h
    unfold rdQ
    rw[eN];exact h
   ·rw[if_neg j] at h;exact absurd h (by decide)
  have n:=jw (rdQ x) fun s k=>(jl f s k).1
  have r:(rdQ x).length<=8:=(jz f).2
  exact vj (by omega)
 ·rw[if_neg h];exact uX (sM x) (vJ x)
theorem Bp (d:Dsk) (a:List UInt8) (l:List Int):oy (doD d a l).2:=by
 unfold doD
 by_cases h:a=ir
 ·rw[if_pos h];exact cI s0
 rw[if_neg h]
 by_cases j:a=kY
 ·rw[if_pos j];exact xW _
 rw[if_neg j]
 by_cases k:a=jc
 ·rw[if_pos k]
  unfold dB
  by_cases f:isN (l.getD 0 0)
  ·rw[if_pos f]
   by_cases g:rdE d.x=0
   ·rw[if_pos g];exact cI (CE _ _)
   ·rw[if_neg g];exact uX (sM _) (vJ _)
  ·rw[if_neg f];exact cI s4
 rw[if_neg k]
 by_cases n:a=jb
 ·rw[if_pos n]
  show oy (jL d _ _)
  unfold jL
  split
  ·exact nt _ _
  ·split
   ·exact nt _ _
   ·exact cI s4
 rw[if_neg n]
 by_cases r:a=ot
 ·rw[if_pos r]
  show oy (lI d _ _ _)
  unfold lI
  split
  ·split
   ·split
    ·exact nt _ _
    ·exact cI (Ak _ _ _)
   ·exact cI s4
  ·exact cI s4
 rw[if_neg r]
 by_cases u:a=kX
 ·rw[if_pos u];exact cI s0
 rw[if_neg u]
 exact cI (zC _ _)
def l8:List (List UInt8)->Bool
 | []=>false
 | a::_=> !fr a [35]
theorem rr (d:Dsk) (f:List (List UInt8)):(l8 f=true->oy (de d f).2)/\(l8 f=false->(de d f).2=[]):=by
 cases f with
 | nil=>exact ⟨fun h=>absurd h (by decide),fun _=>rfl⟩
 | cons a r =>
  rw[eK]
  show ((!fr a [35])=true->_)/\((!fr a [35])=false->_)
  by_cases g:fr a [35]=true
  ·rw[if_pos g,g];exact ⟨fun h=>absurd h (by decide),fun _=>rfl⟩
  rw[if_neg g]
  refine ⟨fun _=> ?_,fun h=>absurd (by simpa using h) g⟩
  by_cases j:a=eC
  ·rw[if_pos j]
   unfold je
   split
   ·exact cI s2
   ·exact cI s0
  rw[if_neg j]
  cases bP r with
  | none=>exact cI s3
  | some l =>
   show oy (if eQ a (l.length:Int)=true then doD d a l else (d,aO 3)).2
   split
   ·exact Bp d a l
   ·exact cI s3
def goD (p:Dsk×List UInt8) (x:List UInt8):Dsk×List UInt8:=((de p.1 (bT x)).1,p.2++(de p.1 (bT x)).2)
def dZ (l:List (List UInt8)):Dsk×List UInt8:=l.foldl goD (xw,[])
def cP (x:List UInt8):List UInt8:=if 65536<x.length then aO 2 else if 200<(dy x).length then aO 2 else (dZ (dy x)).2
theorem qd (l:List (List UInt8)) (x:List UInt8):dZ (l++[x])=goD (dZ l) x:=by unfold dZ;rw[List.foldl_append];rfl
theorem vr:∀(l:List (List UInt8)) (p:Dsk×List UInt8),p.2 <+: (l.foldl goD p).2
 | [],_=>List.prefix_refl _
 | x::l,p=>(List.prefix_append _ _).trans (vr l (goD p x))
theorem xS (a b:List (List UInt8)):(dZ a).2 <+: (dZ (a++b)).2:=by unfold dZ;rw[List.foldl_append];exact vr b _
def rk (l:List (List UInt8)):Prop:=DkI l.length (dZ l).1/\(dZ l).2.length<=l.length*100001/\((dZ l).2=[]\/∃y,(dZ l).2=y++[10])/\(l.filter fun x=>l8 (bT x)).length<=(dZ l).2.count 10
theorem rk.snoc {l:List (List UInt8)} (h:rk l) (g:l.length+1<=400) (x:List UInt8):rk (l++[x]):=by
 obtain ⟨r,k,u,F⟩:=h
 unfold rk
 rw[qd,List.length_append,List.filter_append,List.length_append]
 have n:=rr (dZ l).1 (bT x)
 refine ⟨r.ans g _,?_⟩
 show ((dZ l).2++(de (dZ l).1 (bT x)).2).length<=_/\((dZ l).2++(de (dZ l).1 (bT x)).2=[]\/∃y,(dZ l).2++(de (dZ l).1 (bT x)).2=y++[10])/\_<=((dZ l).2++(de (dZ l).1 (bT x)).2).count 10
 cases f:l8 (bT x) with
 | true =>
  obtain ⟨y,C,g⟩:=n.1 f
  rw[C,List.length_append,List.length_append,List.count_append,List.count_append]
  refine ⟨by show _+(_+1)<=(l.length+1)*100001;rw[Nat.succ_mul];exact Nat.add_le_add k (show y.length+1<=100001 from Nat.add_le_add_right g 1),oR ⟨(dZ l).2++y,by simp⟩,?_⟩
  have j:(List.filter (fun x=>l8 (bT x)) [x]).length=1:=by rw[List.filter_cons_of_pos (by exact f)];rfl
  rw[j]
  have E:List.count (10:UInt8) [10]=1:=by decide
  omega
 | false =>
  rw[n.2 f,List.append_nil]
  refine ⟨by rw[Nat.add_mul];exact Nat.le_add_right_of_le k,u,?_⟩
  have j:(List.filter (fun x=>l8 (bT x)) [x]).length=0:=by rw[List.filter_cons_of_neg (by rw[f];decide)];rfl
  omega
theorem kQ {l:List (List UInt8)} (f:l.length<=400):∀k,k<=l.length->rk (l.take k)
 | 0,_=>show rk [] from ⟨DkI.new,nZ _,oL rfl,nZ _⟩
 | k+1,h=>by
  rw[List.take_succ_eq_append_getElem (by omega)]
  exact (kQ f k (by omega)).snoc (by rw[List.length_take];omega) _
theorem o9 (c:UInt8):∀x y:List UInt8,ac c (x++c::y)=ac c x++ac c y
 | [],y=>by simp[ac]
 | b::x,y=>by
  have ih:=o9 c x y
  rw[List.cons_append,ac,ac,ih]
  by_cases f:b=c
  ·rw[if_pos f,if_pos f];rfl
  ·rw[if_neg f,if_neg f]
   cases e:ac c x with
   | nil=>exact absurd e (cF c x)
   | cons z t=>rfl
theorem zR (x y:List UInt8):dy x <+: dy (x++10::y):=by
 have f:dy x <+: ac 10 x:=by
  unfold dy
  split
  ·exact List.dropLast_prefix _
  ·exact List.prefix_refl _
 refine f.trans ?_
 unfold dy
 rw[o9]
 split
 ·rw[List.dropLast_append_of_ne_nil (cF _ _)];exact List.prefix_append _ _
 ·exact List.prefix_append _ _
theorem Aw {x y:List UInt8} (g:(x++10::y).length<=65536) (j:(dy (x++10::y)).length<=200):cP x <+: cP (x++10::y):=by
 have f:=zR x y
 have k:=f.length_le
 unfold cP
 rw[if_neg (by rw[List.length_append] at g;omega),if_neg (by omega),if_neg (by omega),if_neg (by omega)]
 obtain ⟨t,h⟩:=f
 rw[<-h]
 exact xS _ _

theorem ti {w:U} {B:Nat} (i:Nat) (hi:i<4) (j:Int) {E:Int} {F:List Zit}
  (f:Y I 91 #[ic (some ⟨B,i*38,none⟩),H Z j] w fun e w'=>∃(L:List Itm) (C:Option ka) (k:Nat),e= O (ix #[K C L.length k,H Z E])/\L.map Itm.z=F/\Lv w' C k L/\ib w.heap.size w w') :
  Y I 61 #[ic (some ⟨B,0,none⟩),H Z i,H Z j] w fun e w'=>∃(L:List Itm) (C:Option ka) (k:Nat),e= O (ix #[K C L.length k,H Z E])/\L.map Itm.z=F/\Lv w' C k L/\ib w.heap.size w w':=by
 have hN:=ja1 (bZ i hi)
 have R:T _:=f
 have ad:(i:Int)<4:=by omega
 clear f
 go_enter Tryz.func61,Tryz.ntmps61
 go_wp2_with fail
 refine cM (hN.out _) ?_
 rintro e w1 ⟨rfl,h⟩
 have h:=h.symm
 subst h
 go_wp2_with fail
 refine ja0 R ?_
 rintro e w2 ⟨L,C,k,rfl,n,r,u⟩
 have g:=ja3 n r u
 clear n r u R
 go_wp2
 go_ret2
 exact ⟨L,C,k,rfl,g.out⟩

theorem sk (l:List Itm) (A:Option ka) (cap:Nat) (k:List Int) (CA:Option ka) (cc:Nat) (w:U) (h:Lv w A cap l) (hc:al w CA k) (ah:k.length<=maxLen) (ht:dK w) :
  Y I 60 #[K A l.length cap,K CA k.length cc] w fun e w'=>e= O (J ⟨(gd (l.map Itm.z) k).toArray⟩)/\ib w.heap.size w w':=by
 have hR:T _:=Au l A cap k CA cc 400 w h hc ah
 obtain ⟨E,hE⟩:∃E,ki (l.map Itm.z) k 400=E:=⟨_,rfl⟩
 obtain ⟨R,n⟩:∃R,ig (l.map Itm.z) k 400=R:=⟨_,rfl⟩
 have an:T (Small E):=by show Small E;rw[<-hE];exact Ao _ _ _
 have hD:T (gd (l.map Itm.z) k=if E=0 then d8 R R.length++aO 0 else aO E):=by show _=_;unfold gd;rw[hE,n]
 have ad:=ja2 n ht
 rw[hE,n] at hR
 clear h hc ah ht hE n
 go_enter Tryz.func60,Tryz.ntmps60
 go_wp2_with fail
 refine ja0 hR ?_
 rintro e w1 ⟨v,rfl,⟨L,f,f2⟩,f3⟩
 obtain ⟨P1,c1,rfl,_,f4⟩:=f.read
 have g:=ja4 f4 f2 f3 (pZ (f2.trans ad.out.1.symm))
 have F:=ja1 (ad.out.2.below f3)
 clear f f2 f3 f4 hR
 by_cases h0:E=0
 ·subst h0
  have hl:L.length=R.length:=by rw[<-g.out.2.1,List.length_map]
  obtain ⟨s1,r⟩:∃s:ByteArray,s=⟨(d8 R R.length).toArray⟩:=⟨_,rfl⟩
  obtain ⟨s2,u⟩:∃s:ByteArray,s=⟨(aO 0).toArray⟩:=⟨_,rfl⟩
  obtain ⟨s3,C⟩:∃s:ByteArray,s=⟨(d8 R R.length++aO 0).toArray⟩:=⟨_,rfl⟩
  have ao:(d8 R R.length).length<=200*R.length:=ij (by rw[<-g.out.2.1];exact g.out.2.2.2.rows) _ (nR _)
  have h4:R.length<=400:=by rw[<-hl];exact g.out.2.2.2.1
  have a1:∀w,(Op.stringOp .add s1 s2).run I w= .ok (J s3) w:=l6 C r u (by simp[aO];omega)
  have hP:T (Y I 90 #[K P1 L.length c1] w1 fun e w'=>e= O (J s1)/\ib w1.heap.size w1 w'):=by
   have:=uy L P1 c1 w1 g.out.2.2.2 g.out.1 F.out
   rw[g.out.2.1,hl] at this
   rw[r,hl]
   exact this
  have hS:T (∀W,ib w1.heap.size w1 W->Y I 10 #[H Z 0] W fun e w'=>e= O (J s2)/\Gr W w'):=fun W hW=>by rw[u];exact ci s0 (F.out.below hW)
  have hT:T (s3=⟨(gd (l.map Itm.z) k).toArray⟩):=by show _=_;rw[C,hD.out,if_pos rfl]
  clear r u C ao h4 hl
  go_wp2_with fail
  refine ja0 hP ?_
  rintro e w2 ⟨rfl,f⟩
  have hG:=ja1 f
  clear f hP
  go_wp2_with fail
  refine cM (hS.out _ hG.out) ?_
  rintro e w3 ⟨rfl,f⟩
  have j:=ja1 (g.out.2.2.1.trans ((hG.out.trans (f.below.mono hG.out.size)).mono g.out.2.2.1.size))
  clear f hS
  go_wp2
  go_ret
  exact ⟨by rw[hT.out];rfl,j.out⟩
 ·have hb:(E != 0)=true:=by simpa using h0
  have hS:T (Y I 10 #[H Z E] w1 fun e w'=>e= O (J ⟨(gd (l.map Itm.z) k).toArray⟩)/\Gr w1 w'):=by rw[hD.out,if_neg h0];exact ci an.out F.out
  clear h0
  go_wp2_with fail
  refine ja0 hS ?_
  rintro e w2 ⟨rfl,f⟩
  have j:=ja1 (g.out.2.2.1.trans (f.below.mono g.out.2.2.1.size))
  clear f hS
  go_wp2
  go_ret
  exact ⟨rfl,j.out⟩
theorem AN {w:U} {B:Nat} (i j:Int) (h:¬(isN i/\(j=0\/j=1))):Y I 58 #[ic (some ⟨B,0,none⟩),H Z i,H Z j] w fun e w'=>e= O (ix #[kc #[H Z 0,H Z 0,H Z 0,H Z 0,K none 0 0,K none 0 0],H Z 4])/\Gr w w':=by
 obtain ⟨w1,u⟩:∃W,w.alloc (.cells #[H Z 0,H Z 0,H Z 0,H Z 0,K none 0 0,K none 0 0] 56)=W:=⟨_,rfl⟩
 have r:Gr w w1:=by rw[<-u];exact (gR w).alloc _
 have n:Cls w1 w.heap.size Z6:=by rw[<-u];exact Cls.new w _ _
 obtain ⟨R,p1,p2,p3,p4,p5⟩:=iJ n
 obtain ⟨z0,z1,z2,z3,z4,z5⟩:=rO n
 have g:T (Cls ((((((w1.setCell ⟨w.heap.size,0,none⟩ (H Z 0)).setCell ⟨w.heap.size,1,none⟩ (H Z 0)).setCell ⟨w.heap.size,2,none⟩ (H Z 0)).setCell ⟨w.heap.size,3,none⟩ (H Z 0)).setCell ⟨w.heap.size,4,none⟩ (K none 0 0)).setCell ⟨w.heap.size,5,none⟩ (K none 0 0)) w.heap.size [H Z 0,H Z 0,H Z 0,H Z 0,K none 0 0,K none 0 0]/\Gr w ((((((w1.setCell ⟨w.heap.size,0,none⟩ (H Z 0)).setCell ⟨w.heap.size,1,none⟩ (H Z 0)).setCell ⟨w.heap.size,2,none⟩ (H Z 0)).setCell ⟨w.heap.size,3,none⟩ (H Z 0)).setCell ⟨w.heap.size,4,none⟩ (K none 0 0)).setCell ⟨w.heap.size,5,none⟩ (K none 0 0))) :=
  ⟨((((((n.put 0 _).put 1 _).put 2 _).put 3 _).put 4 _).put 5 _),((((((r.setCell (nR _) _).setCell (nR _) _).setCell (nR _) _).setCell (nR _) _).setCell (nR _) _).setCell (nR _) _)⟩
 obtain ⟨b,E⟩:∃b,b=decide (isN i):=⟨_,rfl⟩
 have L:T (∀W,Y I 83 #[H Z i] W fun e w'=>e= O (kb b)/\w'=W):=fun W=>by
  by_cases hi:isN i
  ·rw[E,decide_eq_true hi]
   have:=bZ i.toNat (by have:=hi.1;have:=hi.2;omega) W
   rw[show ((i.toNat:Nat):Int)=i by have:=hi.1;omega] at this
   exact this
  ·rw[E,decide_eq_false hi];exact fu i hi W
 have F:b=true->j<0\/(¬j<0/\2<=j):=fun e=>by
  have hi:isN i:=by rw[E] at e;exact of_decide_eq_true e
  by_cases C:j<0
  ·exact oL C
  ·exact oR ⟨C,by
    have:¬(j=0\/j=1):=fun k=>h ⟨hi,k⟩
    omega⟩
 clear E h r
 cases b with
 | false =>
  clear F
  go_enter Tryz.func58,Tryz.ntmps58
  go_wp2_with fail
  refine cM (L.out _) ?_
  rintro e w2 ⟨rfl,f⟩
  have f:=f.symm
  subst f
  go_wp2
  exact bodyPost_ret (v:= ix #[kc #[H Z 0,H Z 0,H Z 0,H Z 0,K none 0 0,K none 0 0],H Z 4]) (by simp[results,Tryz.results58,go_sem,R,p1,p2,p3,p4,p5]) rfl ⟨rfl,g.out.2⟩
 | true =>
  rcases F rfl with C|⟨C,f⟩
  all_goals
   clear F
   go_enter Tryz.func58,Tryz.ntmps58
   go_wp2_with fail
   refine cM (L.out _) ?_
   rintro e w2 ⟨rfl,f⟩
   have f:=f.symm
   subst f
   go_wp2
   exact bodyPost_ret (v:= ix #[kc #[H Z 0,H Z 0,H Z 0,H Z 0,K none 0 0,K none 0 0],H Z 4]) (by simp[results,Tryz.results58,go_sem,R,p1,p2,p3,p4,p5]) rfl ⟨rfl,g.out.2⟩
theorem AZ {w:U} {B:Nat} (i j:Int) (h:¬isN i):Y I 61 #[ic (some ⟨B,0,none⟩),H Z i,H Z j] w fun e w'=>e= O (ix #[K none 0 0,H Z 4])/\w'=w:=by
 have f:=ja1 (fu i h)
 clear h
 go_enter Tryz.func61,Tryz.ntmps61
 go_wp2_with fail
 refine cM (f.out _) ?_
 rintro e w1 ⟨rfl,rfl⟩
 go_wp2
 go_ret2
 exact ⟨rfl,rfl⟩

structure Sav (D B:Nat) (w w':U):Prop where
 os:w'.os=w.os
 tape:w'.tape=w.tape
 output:w'.output=w.output
 size:w.heap.size<=w'.heap.size
 oth:∀g,g<w.heap.size->g≠D->g≠B->w'.heap[g]? = w.heap[g]?
theorem Sav.trans {D B:Nat} {a b c:U} (h:Sav D B a b) (k:Sav D B b c):Sav D B a c:=⟨k.os.trans h.os,k.tape.trans h.tape,k.output.trans h.output,nT h.size k.size,fun g n f j=>(k.oth g (nL n h.size) f j).trans (h.oth g n f j)⟩
theorem Sav.of {D B:Nat} {w w':U} (h:ib w.heap.size w w'):Sav D B w w':=⟨h.os,h.tape,h.output,h.size,fun g f _ _=>h.block g f⟩
theorem Sav.wr {D B lo hi:Nat} {w w':U} (h:Wr B lo hi w w'):Sav D B w w':=⟨h.os,h.tape,h.output,h.size,fun g j _ f=>h.oth g j f⟩
theorem Sav.ahead {D B n:Nat} {w w':U} (h:Sav D B w w') (f:n<=w.heap.size) (k:n<=D) (j:n<=B):ib n w w':=⟨h.os,h.tape,h.output,h.size,fun g r=>h.oth g (by omega) (by omega) (by omega)⟩
structure DkP (X:Nat->Prop) (w0 w:U) (D B:Nat) (d:Dsk):Prop where
 net:∃P Q,NetP w B P d.m Q/\(∀b,X b->¬P b)/\mG Q=d.q
 xlt:∀b,X b->b<w.heap.size
 xD:X D
 box:Cls w D [ic (some ⟨B,0,none⟩),J ⟨d.x.toArray⟩]
 low:w0.heap.size<=D
 lowB:w0.heap.size<=B
 ne:B≠D
 ahead:ib w0.heap.size w0 w
 txt:d.x.length<=1024
section
variable {X:Nat->Prop} {w0 w w':U} {D B:Nat} {d:Dsk}
theorem DkP.below (h:DkP X w0 w D B d) (k:ib w.heap.size w w'):DkP X w0 w' D B d:=by
 obtain ⟨P,Q,f,g,j⟩:=h.net
 exact ⟨⟨P,Q,f.below k,g,j⟩,fun b n=>nL (h.xlt b n) k.size,h.xD,h.box.below k,h.low,h.lowB,h.ne,h.ahead.trans (k.mono h.ahead.size),h.txt⟩
theorem DkP.lt (h:DkP X w0 w D B d):D<w.heap.size:=h.box.lt
theorem DkP.step (h:DkP X w0 w D B d) {P:Nat->Prop} (n:∀b,X b->¬P b) {M:NetM} {Q:Nat->List (List Stp)} (k:bj w B P w' M Q):DkP X w0 w' D B ⟨M,mG Q,d.x⟩/\Sav D B w w':=by
 obtain ⟨⟨P',r,u⟩,j⟩:=k
 have g:Sav D B w w':=Sav.wr j
 exact ⟨⟨⟨P',Q,r,fun b f e=>(u b e).elim (n b f) fun e=>absurd (h.xlt b f) (by omega),rfl⟩,fun b f=>nL (h.xlt b f) g.size,h.xD,h.box.keep (j.oth D h.lt (Ne.symm h.ne)),h.low,h.lowB,h.ne,h.ahead.trans (g.ahead h.ahead.size h.low h.lowB),h.txt⟩,g⟩
theorem DkP.wrote (h:DkP X w0 w D B d) {x:List UInt8} (E:x.length<=1024):DkP X w0 (w.setCell ⟨D,1,none⟩ (J ⟨x.toArray⟩)) D B ⟨d.m,d.q,x⟩/\Sav D B w (w.setCell ⟨D,1,none⟩ (J ⟨x.toArray⟩)):=by
 obtain ⟨P,Q,k,r,C⟩:=h.net
 have j:∀g,g≠D->(w.setCell ⟨D,1,none⟩ (J ⟨x.toArray⟩)).heap[g]? = w.heap[g]? := fun g j=>Below.heap_setCell _ _ _ _ (by exact j)
 have f:(w.setCell ⟨D,1,none⟩ (J ⟨x.toArray⟩)).heap.size=w.heap.size:=by simp
 have u:Sav D B w (w.setCell ⟨D,1,none⟩ (J ⟨x.toArray⟩)):=⟨rfl,rfl,rfl,by rw[f];exact nR _,fun g _ k _=>j g k⟩
 exact ⟨⟨⟨P,Q,k.keep (j B h.ne) ⟨by rw[f];exact nR _,fun b n _=>j b fun e=>r D h.xD (e▸n)⟩,r,C⟩,fun b n=>by rw[f];exact h.xlt b n,h.xD,h.box.put 1 _,h.low,h.lowB,h.ne,h.ahead.trans (u.ahead h.ahead.size h.low h.lowB),E⟩,u⟩
end
theorem az.dropAt {α : Type} {enc: α -> List Value} {w:U} {b f:Nat} {L:List α} (k:b<w.heap.size) (r:∀(j:Nat) (h:j<L.length) (i:Nat),i<1->w.cell? ⟨b,f+j*1+i,none⟩=(enc L[j])[i]?) (n:Nat):az enc 1 w (some ⟨b,f+n,none⟩) (L.drop n) :=
 oR ⟨b,f+n,rfl,k,fun j u i hi=>by
  have g:n+j<L.length:=by rw[List.length_drop] at u;omega
  rw[List.getElem_drop,<-r (n+j) g i hi]
  congr 2
  omega⟩
structure WrdP (w:U) (A:Option ka) (r:List (List UInt8)):Prop where
 row:cw w A r
 len:r.length<=70000
 each:∀y∈r,y.length<=70000
theorem WrdP.join {w:U} {A:Option ka} {r:List (List UInt8)} (h:WrdP w A r):(Lib.join r [32]).length<=5000000000:=by
 have f:=jn [32] 70000 r h.each
 have g:=Nat.mul_le_mul_right (70000+1) h.len
 simp only[List.length_cons,List.length_nil] at f
 omega
theorem xX (A:Option ka) (c:Nat) (f:ByteArray) (w:U):Y I 36 #[K A 0 c,J f] w fun e w'=>e= O (J ⟨(Lib.join [] [32]).toArray⟩)/\ib w.heap.size w w':=by
 go_enter Tryz.func36,Tryz.ntmps36
 go_wp2
 go_ret
 exact ⟨rfl,bR _ _⟩
theorem rH {X:Nat->Prop} {w0 w:U} {D B:Nat} {d:Dsk} (h:DkP X w0 w D B d) (r:List (List UInt8)) (A:Option ka) (c:Nat) (F:WrdP w A r) (hc:r.length<=c) :
  Y I 26 #[ic (some ⟨D,0,none⟩),K A r.length c] w fun e w'=>∃E,e= O (H Z E)/\Small E/\aO E=(je d r).2/\DkP X w0 w' D B (je d r).1/\Sav D B w w':=by
 obtain ⟨an,R⟩:∃an,Lib.join r [32]=an:=⟨_,rfl⟩
 have ad:an.length<=5000000000:=by rw[<-R];exact F.join
 obtain ⟨j0,g⟩:∃s:ByteArray,s=⟨an.toArray⟩:=⟨_,rfl⟩
 obtain ⟨j1,f⟩:∃s:ByteArray,s=⟨(an++[10]).toArray⟩:=⟨_,rfl⟩
 obtain ⟨j2,n⟩:∃s:ByteArray,s=⟨(d.x++(an++[10])).toArray⟩:=⟨_,rfl⟩
 have a1:∀w,(Op.stringOp .add j0 ⟨#[10]⟩).run I w= .ok (J j1) w:=l6 (y:=[10]) f g rfl (by simp;omega)
 have a2:∀w,(Op.stringOp .add ⟨d.x.toArray⟩ j1).run I w= .ok (J j2) w:=l6 n rfl f (by have:=h.txt;simp;omega)
 have hC:T (Y I 36 #[K A r.length c,J ⟨#[32]⟩] w fun e w'=>e= O (J j0)/\ib w.heap.size w w'):=by
  rw[g,<-R]
  by_cases e:r=[]
  ·subst e;exact xX A c _ w
  ·exact lK r [32] A c w e F.row hc (by have:=F.len;omega) (by have:=F.join;omega)
 have z0:j1.size=an.length+1:=by rw[f];simp[ByteArray.size]
 have hW:T (je d r=if 1024<d.x.length+an.length+1 then (d,aO 2) else (⟨d.m,d.q,d.x++(an++[10])⟩,aO 0)):=by show _=_;unfold je;rw[R]
 have hH:T (DkP X w0 w D B d):=h
 have ah:=h.txt
 have hS:T (j2=⟨(d.x++(an++[10])).toArray⟩):=n
 clear R F h g f n
 go_enter Tryz.func26,Tryz.ntmps26
 go_wp2_with fail
 refine ja0 hC ?_
 rintro e w1 ⟨rfl,f1⟩
 have u:T (DkP X w0 w1 D B d/\Sav D B w w1):=⟨hH.out.below f1,Sav.of f1⟩
 clear f1 hC
 have c1:=u.out.1.box.cell (j:=1) rfl
 have e1:=u.out.1.box.fz 1
 by_cases k:1024<d.x.length+an.length+1
 ·have kz:(1024:Int)<(d.x.length:Int)+((an.length:Int)+1):=by omega
  have C:T (je d r=(d,aO 2)):=by show _=_;rw[hW.out,if_pos k]
  go_wp2
  go_ret
  refine ⟨2,rfl,s2,?_,?_,u.out.2⟩
  ·rw[C.out]
  ·rw[C.out];exact u.out.1
 ·have kz:¬(1024:Int)<(d.x.length:Int)+((an.length:Int)+1):=by omega
  have C:T (je d r=(⟨d.m,d.q,d.x++(an++[10])⟩,aO 0)):=by show _=_;rw[hW.out,if_neg k]
  have hw:=u.out.1.wrote (x:=d.x++(an++[10])) (by simp;omega)
  rw[<-hS.out] at hw
  have L:T _:=hw
  clear hw
  go_wp2
  go_ret
  refine ⟨0,rfl,s0,?_,?_,u.out.2.trans L.out.2⟩
  ·rw[C.out]
  ·rw[C.out];exact L.out.1

theorem DkP.node {X:Nat->Prop} {w0 w:U} {D B:Nat} {d:Dsk} (h:DkP X w0 w D B d):∃P Q,NetP w B P d.m Q/\mG Q=d.q:=by
 obtain ⟨P,Q,f,_,g⟩:=h.net
 exact ⟨P,Q,f,g⟩
theorem F1 {x y:List UInt8} (h:x.length+y.length<=9000000000000000000) (w:U):(Op.stringOp .add ⟨x.toArray⟩ ⟨y.toArray⟩).run I w= .ok (J ⟨(x++y).toArray⟩) w:=l6 rfl rfl rfl h w
theorem tG {X:Nat->Prop} {w0 w:U} {D B:Nat} {d:Dsk} (h:DkP X w0 w D B d) (hr:Reads w) :
  Y I 38 #[ic (some ⟨D,0,none⟩)] w fun e w'=>e= O (J ⟨(jM d.x).toArray⟩)/\ib w.heap.size w w':=by
 have c1:=h.box.cell (j:=1) rfl
 have hP:T _:=ke d.x w hr (by have:=h.txt;unfold maxLen;omega)
 obtain ⟨x,hx⟩:∃x,d.x=x:=⟨_,rfl⟩
 rw[hx] at c1 hP ⊢
 obtain ⟨E,hE⟩:∃E,rdE x=E:=⟨_,rfl⟩
 have r:=ja2 hr hE
 clear hr hx h hE
 go_enter Tryz.func38,Tryz.ntmps38
 go_wp2_with fail
 refine ja0 hP ?_
 rintro e w1 ⟨⟨A,cap,q,k,er,rfl,_,f2,f3,f4⟩,f5⟩
 obtain ⟨g1,g2,g3⟩:=nV f4
 rw[r.out.2] at g1
 subst g1
 have g:=ja5 f2 f3 g2 g3 f5
 have ht:=ja1 ((r.out.1.below f5).tens)
 clear f2 f3 f4 f5 g2 g3 hP c1
 by_cases h0:er=0
 ·subst h0
  have L:bu q=0:=by
   rw[<-eN,g.out.2.2.2.1 rfl]
   have:=r.out.2
   unfold rdE at this
   by_cases k1:1024<x.length
   ·rw[if_pos k1] at this;exact absurd this (by decide)
   rw[if_neg k1] at this
   by_cases k2:gH (ac 10 x) 1=0
   ·rw[if_pos k2] at this
    unfold rdQ
    rw[eN];exact this
   ·rw[if_neg k2] at this;exact absurd this (by decide)
  have C:iW q=cT (rdQ x):=by
   unfold iW
   rw[if_pos L,<-g.out.2.2.2.1 rfl]
   exact (uK q).symm
  have F:T (Y I 57 #[K A q.length cap] w1 fun e w'=>e= O (ix #[J ⟨(cT (rdQ x)).toArray⟩,H Z 0])/\ib w1.heap.size w1 w'):=by
   have:=xO q A cap w1 (by have:=g.out.2.1;unfold maxLen;omega) g.out.1 ht.out
   rw[C,L] at this
   exact this
  have hS:T (∀W,ib w1.heap.size w1 W->Y I 10 #[H Z 0] W fun e w'=>e= O (J ⟨(aO 0).toArray⟩)/\Gr W w'):=fun W hW=>ci s0 (ht.out.below hW)
  have hl:(cT (rdQ x)).length<=90000:=by
   rw[<-C]
   unfold iW
   rw[if_pos L]
   have h1:=jw q fun s hs=>(jl L s hs).1
   have h8:q.length<=8:=(jz L).2
   omega
  have hT:T (jM x=cT (rdQ x)++aO 0):=by show _=_;unfold jM;rw[if_pos r.out.2]
  obtain ⟨ah,R⟩:∃ah,cT (rdQ x)=ah:=⟨_,rfl⟩
  obtain ⟨S,u⟩:∃S,aO 0=S:=⟨_,rfl⟩
  have ad:S.length<=3:=by rw[<-u];simp[aO]
  rw[R] at F hl hT
  rw[u] at hS hT
  have a1:=F1 (x:=ah) (y:=S) (by omega)
  clear C L hl R u ad
  go_wp2_with fail
  refine ja0 F ?_
  rintro e w2 ⟨rfl,n⟩
  have hG:=ja1 n
  clear n F
  go_wp2_with fail
  refine cM (hS.out _ hG.out) ?_
  rintro e w3 ⟨rfl,n⟩
  have f:=ja1 (g.out.2.2.2.2.trans ((hG.out.trans (n.below.mono hG.out.size)).mono g.out.2.2.2.2.size))
  clear n hS
  go_wp2
  go_ret
  exact ⟨by rw[hT.out];rfl,f.out⟩
 ·have hb:(er != 0)=true:=by simpa using h0
  have F:T (Y I 56 #[H Z er,H Z k] w1 fun e w'=>e= O (J ⟨(jM x).toArray⟩)/\Gr w1 w'):=by
   have hE:jM x=atD er k:=by unfold jM;rw[if_neg (by rw[r.out.2];exact h0),r.out.2,g.out.2.2.1]
   rw[hE]
   exact uW (by rw[<-r.out.2];exact sM x) (by rw[g.out.2.2.1];exact vJ x) ht.out
  clear h0
  go_wp2_with fail
  refine ja0 F ?_
  rintro e w2 ⟨rfl,n⟩
  have f:=ja1 (g.out.2.2.2.2.trans (n.below.mono g.out.2.2.2.2.size))
  clear n F
  go_wp2
  go_ret
  exact ⟨rfl,f.out⟩
theorem Ap (w:U) (A:Option ka):al w A []:=oL rfl
def AL (N:NetM) (i j:Int):Tab:=if j=0 then N.s i.toNat else N.t i.toNat
theorem uI {w:U} {B:Nat} {P:Nat->Prop} {M:NetM} {Q:Nat->List (List Stp)} (h:NetP w B P M Q) {i j:Int} (hi:isN i) (g:j=0\/j=1) :
  Y I 58 #[ic (some ⟨B,0,none⟩),H Z i,H Z j] w fun e w'=>∃v,e= O (ix #[v,H Z 0])/\TbV w.heap.size w' v (AL M i j)/\ib w.heap.size w w':=by
 have e:((i.toNat:Nat):Int)=i:=by have:=hi.1;omega
 have f:i.toNat<4:=gJ hi
 rcases g with rfl|rfl
 ·have:=Ck h i.toNat f
  rw[e] at this
  exact this
 ·have:=Cl h i.toNat f
  rw[e] at this
  exact this
theorem Cj {w:U} {B:Nat} {P:Nat->Prop} {M:NetM} {Q:Nat->List (List Stp)} (h:NetP w B P M Q) {i:Int} (hi:isN i) (j:Int):aw (AL M i j)=0:=by
 have f:=h.nd i.toNat (gJ hi)
 unfold AL
 split
 ·exact f.ts.ok
 ·exact f.tt.ok
theorem tF {X:Nat->Prop} {w0 w:U} {D B:Nat} {d:Dsk} (h:DkP X w0 w D B d) (ah:dK w) (i j:Int) :
  Y I 40 #[ic (some ⟨D,0,none⟩),H Z i,H Z j] w fun e w'=>e= O (J ⟨(jL d i j).toArray⟩)/\ib w.heap.size w w':=by
 have c0:=h.box.cell (j:=0) rfl
 obtain ⟨P,Q,hN,_⟩:=h.node
 have ao:=ja1 ah
 by_cases n:isN i/\(j=0\/j=1)
 ·have hT:T _:=uI hN n.1 n.2
  obtain ⟨t,r⟩:∃t,AL d.m i j=t:=⟨_,rfl⟩
  have an:aw t=0:=by rw[<-r];exact Cj hN n.1 j
  have R:T (jL d i j=gd (ofR t) []/\aw t=0):=by
   refine ⟨?_,an⟩
   rw[<-r]
   unfold jL AL
   rcases n.2 with rfl|rfl
   ·rw[if_pos ⟨n.1,rfl⟩,if_pos rfl]
   ·rw[if_neg (fun k=>absurd k.2 (by decide)),if_pos ⟨n.1,rfl⟩,if_neg (by decide)]
  rw[r] at hT
  rw[R.out.1]
  clear hN h ah n r an
  go_enter Tryz.func40,Tryz.ntmps40
  go_wp2_with fail
  refine ja0 hT ?_
  rintro e w1 ⟨v,rfl,⟨A,ca,C,cc,rfl,f⟩,f2⟩
  obtain ⟨w2,ap⟩:∃W,w1.alloc (.cells #[H Z t.c.c0,H Z t.c.c1,H Z t.c.c2,H Z t.c.c3,K A t.c.l.length ca,K C t.e.length cc] 56)=W:=⟨_,rfl⟩
  have ad:Gr w1 w2:=by rw[<-ap];exact (gR w1).alloc _
  have u:=ja3 (f.row.gr ad) (f.cel.below ad.below) (f2.trans (ad.below.mono f2.size))
  have a0:Cls w2 w1.heap.size (T6 t A ca C cc):=by rw[<-ap];exact Cls.new w1 _ _
  obtain ⟨p0,p1,p2,p3,p4,p5⟩:=iJ a0
  have hO:T (∀W,Gr w2 W->Y I 59 #[kc (T6 t A ca C cc).toArray] W fun e w'=>∃(L:List Itm) (E:Option ka) (c:Nat),e= O (ix #[K E L.length c,H Z 0])/\L.map Itm.z=ofR t/\Lv w' E c L/\ib W.heap.size W w'):=fun W hW=>by
   have F:=aj R.out.2
   have h1:=(bx F.1).2.1
   have:=Dv t A ca C cc W (by unfold maxLen;omega) (by have:=F.2.1;unfold maxLen;omega) (u.out.1.gr hW) (u.out.2.1.below hW.below)
   rw[R.out.2] at this
   refine this.mono ?_
   rintro e w' ⟨L,E,c,h2,h3,h4,h5,h6⟩
   exact ⟨L,E,c,h2,h3,⟨h4,h5,oo h3 R.out.2⟩,h6⟩
  clear f f2 hT
  go_wp2_with fail
  refine cM (hO.out _ (by first|exact gR _|exact (gR _).drew)) ?_
  rintro e w3 ⟨L,E,c,rfl,f,f2,f3⟩
  have hG:=ja3 f f2 (u.out.2.2.trans (f3.mono u.out.2.2.size))
  have hI:T (∀W,Gr w3 W->Y I 60 #[K E L.length c,K none 0 0] W fun e w'=>e= O (J ⟨(gd (ofR t) []).toArray⟩)/\ib W.heap.size W w'):=fun W hW=>by
   rw[<-hG.out.1]
   exact sk L E c [] none 0 W (hG.out.2.1.gr hW) (Ap _ _) (nZ _) ((ao.out.below hG.out.2.2).gr hW)
  clear f f2 f3 hO
  go_wp2_with fail
  refine cM (hI.out _ (by first|exact gR _|exact (gR _).drew)) ?_
  rintro e w4 ⟨rfl,f⟩
  have g:=ja1 (hG.out.2.2.trans (f.mono hG.out.2.2.size))
  clear f hI
  go_wp2
  go_ret
  exact ⟨rfl,g.out⟩
 ·have hT:T _:=AN (w:=w) (B:=B) i j n
  have R:jL d i j=aO 4:=by
   unfold jL
   rw[if_neg fun k=>n ⟨k.1,Or.inl k.2⟩,if_neg fun k=>n ⟨k.1,Or.inr k.2⟩]
  rw[R]
  have hS:T (∀W,ib w.heap.size w W->Y I 10 #[H Z 4] W fun e w'=>e= O (J ⟨(aO 4).toArray⟩)/\Gr W w'):=fun W hW=>ci s4 (ao.out.below hW)
  clear hN h ah n R
  go_enter Tryz.func40,Tryz.ntmps40
  go_wp2_with fail
  refine ja0 hT ?_
  rintro e w1 ⟨rfl,f⟩
  have u:T (∀o,ib w.heap.size w (w1.alloc o)):=fun o=>(f.alloc o).below
  clear f hT
  go_wp2_with fail
  refine cM (hS.out _ (u.out _)) ?_
  rintro e w3 ⟨rfl,f⟩
  have g:T (ib w.heap.size w w3):=(u.out _).trans (f.below.mono (u.out _).size)
  clear f hS
  go_wp2
  go_ret
  exact ⟨rfl,g.out⟩
theorem yl {w:U} {B:Nat} {P:Nat->Prop} {M:NetM} {Q:Nat->List (List Stp)} (h:NetP w B P M Q) {i j:Int} (hi:isN i) :
  Y I 61 #[ic (some ⟨B,0,none⟩),H Z i,H Z j] w fun e w'=>∃(L:List Itm) (C:Option ka) (k:Nat) (E:Int),e= O (ix #[K C L.length k,H Z E])/\Lv w' C k L/\ib w.heap.size w w' /\
   ((E=4/\(j<0\/((Q i.toNat).length:Int)<=j))\/∃q,0<=j/\(Q i.toNat)[j.toNat]? = some q/\E=bM q (ofR (M.s i.toNat)) (ofR (M.t i.toNat))/\L.map Itm.z=ei q (ofR (M.s i.toNat)) (ofR (M.t i.toNat))):=by
 have e:((i.toNat:Nat):Int)=i:=by have:=hi.1;omega
 have R:i.toNat<4:=gJ hi
 have hn:=h.nd i.toNat R
 by_cases hj:j<0\/((Q i.toNat).length:Int)<=j
 ·have n:=ti (B:=B) i.toNat R j (E:=4) (F:=[]) ((ym hn (i:=j) hj).mono (by
   rintro e w' ⟨rfl,rfl⟩
   exact ⟨[],none,0,rfl,rfl,⟨⟨oL rfl,fun x hx=>by cases hx⟩,cV.mk (fun _=>rfl) (nZ _),nZ _⟩,bR _ _⟩))
  rw[e] at n
  refine n.mono ?_
  rintro e w' ⟨L,C,k,rfl,_,f,g⟩
  exact ⟨L,C,k,4,rfl,f,g,oL ⟨rfl,hj⟩⟩
 ·have r:j.toNat<(Q i.toNat).length:=by omega
  have n:=ti (B:=B) i.toNat R (j.toNat:Nat) ((B0 hn r).mono fun _ _ ⟨L,C,k,h1,u,f,g,_⟩=>⟨L,C,k,h1,u,f,g⟩)
  rw[e,show ((j.toNat:Nat):Int)=j by omega] at n
  refine n.mono ?_
  rintro e w' ⟨L,C,k,rfl,u,f,g⟩
  exact ⟨L,C,k,_,rfl,f,g,oR ⟨_,by omega,List.getElem?_eq_getElem r,rfl,u⟩⟩
theorem wL {X:Nat->Prop} {w0 w:U} {D B:Nat} {d:Dsk} (h:DkP X w0 w D B d) (ah:dK w) (i j:Int) (f:List Int) (CA:Option ka) (cc:Nat) (ad:al w CA f) (R:f.length<=maxLen) :
  Y I 41 #[ic (some ⟨D,0,none⟩),H Z i,H Z j,K CA f.length cc] w fun e w'=>e= O (J ⟨(lI d i j f).toArray⟩)/\ib w.heap.size w w':=by
 have c0:=h.box.cell (j:=0) rfl
 obtain ⟨P,Q,hN,hQ⟩:=h.node
 have hH:=ja3 ah ad R
 -- what View answers, and what of it is told
 have hV:T (Y I 61 #[ic (some ⟨B,0,none⟩),H Z i,H Z j] w fun e w'=>∃(L:List Itm) (C:Option ka) (k:Nat) (E:Int),e= O (ix #[K C L.length k,H Z E])/\Lv w' C k L/\ib w.heap.size w w'/\Small E/\lI d i j f=if E=0 then gd (L.map Itm.z) f else aO E):=by
  by_cases hi:isN i
  ·refine (yl hN hi (j:=j)).mono ?_
   rintro e w' ⟨L,C,k,E,rfl,g,u,⟨rfl,F⟩|⟨q,F,f4,rfl,f5⟩⟩
   ·refine ⟨L,C,k,4,rfl,g,u,s4,?_⟩
    rw[if_neg (by decide)]
    unfold lI
    by_cases hj:isN i/\0<=j
    ·rw[if_pos hj]
     have:(d.q i.toNat)[j.toNat]? = none:=by
      rw[<-hQ]
      show ((Q i.toNat).map _)[j.toNat]? = none
      rw[List.getElem?_eq_none_iff,List.length_map]
      omega
     rw[this]
    ·rw[if_neg hj]
   ·refine ⟨L,C,k,_,rfl,g,u,Ak _ _ _,?_⟩
    unfold lI
    have hq:(d.q i.toNat)[j.toNat]? = some (q.map bare):=by
     rw[<-hQ]
     show ((Q i.toNat).map _)[j.toNat]? = _
     rw[List.getElem?_map,f4];rfl
    rw[if_pos ⟨hi,F⟩,hq]
    show (if bM (q.map bare) _ _=0 then gd (ei (q.map bare) _ _) f else aO (bM (q.map bare) _ _))=_
    rw[jt,lq,f5]
  ·refine (AZ i j hi).mono ?_
   rintro e w' ⟨rfl,rfl⟩
   refine ⟨[],none,0,4,rfl,⟨⟨oL rfl,fun x hx=>by cases hx⟩,cV.mk (fun _=>rfl) (nZ _),nZ _⟩,bR _ _,s4,?_⟩
   rw[if_neg (by decide)]
   unfold lI
   rw[if_neg fun k=>hi k.1]
 clear hN hQ h ah ad R
 go_enter Tryz.func41,Tryz.ntmps41
 go_wp2_with fail
 refine ja0 hV ?_
 rintro e w1 ⟨L,C,k,E,rfl,g,u,F,f4⟩
 have r:=ja3 g u F
 have hD:=ja1 f4
 clear g u F f4 hV
 by_cases h0:E=0
 ·subst h0
  have hI:=ja1 (sk L C k f CA cc w1 r.out.1 (hH.out.2.1.below r.out.2.1) hH.out.2.2 (hH.out.1.below r.out.2.1))
  have hE:T (lI d i j f=gd (L.map Itm.z) f):=by show _=_;rw[hD.out,if_pos rfl]
  go_wp2_with fail
  refine ja0 hI ?_
  rintro e w2 ⟨rfl,g⟩
  have n:=ja1 (r.out.2.1.trans (g.mono r.out.2.1.size))
  clear g hI
  go_wp2
  go_ret
  exact ⟨by rw[hE.out];rfl,n.out⟩
 ·have hb:(E != 0)=true:=by simpa using h0
  have hS:=ja1 (ci r.out.2.2 (hH.out.1.below r.out.2.1))
  have hE:T (lI d i j f=aO E):=by show _=_;rw[hD.out,if_neg h0]
  clear h0
  go_wp2_with fail
  refine ja0 hS ?_
  rintro e w2 ⟨rfl,g⟩
  have n:=ja1 (r.out.2.1.trans (g.below.mono r.out.2.1.size))
  clear g hS
  go_wp2
  go_ret
  exact ⟨by rw[hE.out];rfl,n.out⟩

theorem DkP.gr {X:Nat->Prop} {w0 w w':U} {D B:Nat} {d:Dsk} (h:DkP X w0 w D B d) (k:Gr w w'):DkP X w0 w' D B d:=h.below k.below
theorem wM {X:Nat->Prop} {w0 w:U} {D B:Nat} {d:Dsk} (h:DkP X w0 w D B d) (hr:Reads w) (i:Int) :
  Y I 43 #[ic (some ⟨B,0,none⟩),kc #[H Z 5,H Z i,H Z 0,H Z 0,H Z 0,H Z 0,H Z 0,H Z 0,H Z 0,J ⟨d.x.toArray⟩]] w fun e w'=>∃E,e= O (H Z E)/\Small E/\(dB d i).2=(if E≠0/\E≠4/\rdE d.x≠0 then atD (rdE d.x) (rdK d.x) else aO E)/\DkP X w0 w' D B (dB d i).1/\Sav D B w w':=by
 obtain ⟨P,Q,h1,h2,F⟩:=h.net
 refine (ve h1 hr d.x (by have:=h.txt;unfold maxLen;omega) ⟨5,i,0,0,0,0,0,0,0⟩).mono ?_
 rintro e w' ⟨er,Q',rfl,j,R⟩
 have hM:bW d.m ⟨5,i,0,0,0,0,0,0,0⟩=d.m:=by
  show (if (5:Int)=1 then _ else if (5:Int)=2 then _ else if (5:Int)=3 then _ else if (5:Int)=4 then _ else d.m)=d.m
  rw[if_neg (by decide),if_neg (by decide),if_neg (by decide),if_neg (by decide)]
 rw[hM] at R
 obtain ⟨f,L⟩:=h.step h2 R
 rcases j with ⟨j,_⟩|⟨_,j⟩
 ·exact absurd rfl j
 rcases j with ⟨C,rfl,rfl⟩|⟨C,q,ep,⟨k,f4⟩,n⟩
 ·have u:dB d i=(d,aO 4):=by unfold dB;rw[if_neg C]
  rw[u]
  rw[F] at f
  exact ⟨4,rfl,s4,by rw[if_neg fun e=>e.2.1 rfl],f,L⟩
 ·obtain ⟨g,_,g3⟩:=nV f4
  rcases n with ⟨n,rfl,rfl⟩|⟨rfl,rfl,rfl⟩
  ·have u:dB d i=(d,atD (rdE d.x) (rdK d.x)):=by unfold dB;rw[if_pos C,if_neg (by rw[<-g];exact n)]
   rw[u]
   rw[F] at f
   refine ⟨er,rfl,by rw[g];exact sM _,?_,f,L⟩
   rw[if_pos ⟨n,by rw[g];exact El _,by rw[<-g];exact n⟩]
  ·have hq:=g3 rfl
   have u:dB d i=(⟨d.m,iH d.q i.toNat (wtQ (rdQ d.x) (d.q i.toNat)),d.x⟩,aO (wtE (rdQ d.x) (d.q i.toNat))):=by unfold dB;rw[if_pos C,if_pos g.symm]
   have r:(Q i.toNat).map (·.map bare)=d.q i.toNat:=by rw[<-F];rfl
   rw[u]
   have e1:wtE q (Q i.toNat)=wtE (rdQ d.x) (d.q i.toNat):=by rw[tp hq,r]
   refine ⟨_,rfl,CE _ _,?_,?_,L⟩
   ·rw[if_neg fun e=>e.2.2 g.symm]
    show aO _=aO _
    rw[<-e1]
   ·rw[wj,B2 hq] at f
    have e2:mG Q=d.q:=F
    rw[e2] at f
    show DkP X w0 w' D B ⟨d.m,iH d.q i.toNat (wtQ (rdQ d.x) (d.q i.toNat)),d.x⟩
    rw[<-r]
    exact f
theorem rF {X:Nat->Prop} {w0 w:U} {D B:Nat} {d:Dsk} (h:DkP X w0 w D B d) (hr:Reads w0) (i:Int) :
  Y I 39 #[ic (some ⟨D,0,none⟩),H Z i] w fun e w'=>e= O (J ⟨(dB d i).2.toArray⟩)/\DkP X w0 w' D B (dB d i).1/\Sav D B w w':=by
 have ap:Tryz.prog.follows .mixedOrders=true:=by kernel_rfl
 have c0:=h.box.cell (j:=0) rfl
 have c1:=h.box.cell (j:=1) rfl
 have ao:T (d.x.length<=maxLen):=by have:=h.txt;show _<=_;unfold maxLen;omega
 have hx:=ja1 ((vS d i).2)
 have an:=ja1 hr
 have ad:T (∀W,Gr w W->Y I 43 #[ic (some ⟨B,0,none⟩),kc #[H Z 5,H Z i,H Z 0,H Z 0,H Z 0,H Z 0,H Z 0,H Z 0,H Z 0,J ⟨d.x.toArray⟩]] W fun e w'=>∃E,e= O (H Z E)/\Small E/\(dB d i).2=(if E≠0/\E≠4/\rdE d.x≠0 then atD (rdE d.x) (rdK d.x) else aO E)/\DkP X w0 w' D B (dB d i).1/\Sav D B w w'):=fun W hW=>by
  refine (wM (h.gr hW) (hr.below (h.gr hW).ahead) i).mono ?_
  rintro e w' ⟨E,rfl,g,f2,f3,C⟩
  exact ⟨E,rfl,g,f2,f3,(Sav.of hW.below).trans C⟩
 obtain ⟨V,hV⟩:∃V,dB d i=V:=⟨_,rfl⟩
 obtain ⟨x,L⟩:∃x,d.x=x:=⟨_,rfl⟩
 rw[hV,L] at ad hx
 rw[L] at c1 ao
 rw[hV]
 clear h hr hV L
 go_enter Tryz.func39,Tryz.ntmps39
 go_wp2_with fail
 go_region_with (go_at_call 43;(with_reducible refine cM (ad.out _ (by first|exact gR _|exact (gR _).drew)) ?_);rintro e w1 ⟨E,rfl,g,f2,f3,C⟩;have n:T (Small E/\V.2=(if E≠0/\E≠4/\rdE x≠0 then atD (rdE x) (rdK x) else aO E)/\DkP X w0 w1 D B V.1/\Sav D B w w1):=⟨g,f2,f3,C⟩;clear g f2 f3 C)
 all_goals
  have ht:=ja1 ((an.out.below n.out.2.2.1.ahead).tens)
  by_cases e0:E=0
  ·subst e0
   have F:T (V.2=aO 0):=by show _=_;rw[n.out.2.1,if_neg fun e=>e.1 rfl]
   have u:T (Y I 10 #[H Z 0] w1 fun e w'=>e= O (J ⟨V.2.toArray⟩)/\Gr w1 w'):=by rw[F.out];exact ci s0 ht.out
   go_wp2_with fail
   refine ja0 u ?_
   rintro e R ⟨rfl,g⟩
   have f:=ja2 (n.out.2.2.1.gr g) (n.out.2.2.2.trans (Sav.of g.below))
   clear g u
   go_wp2
   go_ret
   exact ⟨rfl,f.out⟩
  have b0:(E != 0)=true:=by simpa using e0
  by_cases e4:E=4
  ·subst e4
   have F:T (V.2=aO 4):=by show _=_;rw[n.out.2.1,if_neg fun e=>e.2.1 rfl]
   have u:T (Y I 10 #[H Z 4] w1 fun e w'=>e= O (J ⟨V.2.toArray⟩)/\Gr w1 w'):=by rw[F.out];exact ci s4 ht.out
   go_wp2_with fail
   refine ja0 u ?_
   rintro e R ⟨rfl,g⟩
   have f:=ja2 (n.out.2.2.1.gr g) (n.out.2.2.2.trans (Sav.of g.below))
   clear g u
   go_wp2
   go_ret
   exact ⟨rfl,f.out⟩
  have b4:(E != 4)=true:=by simpa using e4
  have ah:=ja2 e0 e4
  have d1:w1.cell? ⟨D,1,none⟩=some (J ⟨x.toArray⟩):=by
   have:=n.out.2.2.1.box.cell (j:=1) rfl
   rw[hx.out] at this
   exact this
  have hP:T _:=ke x w1 (an.out.below n.out.2.2.1.ahead) ao.out
  clear e0 e4
  go_wp2_with fail
  refine ja0 hP ?_
  rintro e R ⟨⟨A,cap,q,k,er,rfl,_,_,_,C⟩,f5⟩
  obtain ⟨g1,g2,_⟩:=nV C
  have r:=ja3 g1 g2 f5
  clear g1 g2 C f5 hP d1
  by_cases e5:er=0
  ·subst e5
   have F:T (V.2=aO E):=by show _=_;rw[n.out.2.1,if_neg fun e=>e.2.2 r.out.1.symm]
   have u:T (Y I 10 #[H Z E] R fun e w'=>e= O (J ⟨V.2.toArray⟩)/\Gr R w'):=by rw[F.out];exact ci n.out.1 (ht.out.below r.out.2.2)
   go_wp2_with fail
   refine ja0 u ?_
   rintro e w3 ⟨rfl,g⟩
   have f:=ja2 ((n.out.2.2.1.below r.out.2.2).gr g) (n.out.2.2.2.trans ((Sav.of r.out.2.2).trans (Sav.of g.below)))
   clear g u
   go_wp2
   go_ret
   exact ⟨rfl,f.out⟩
  ·have b5:(er != 0)=true:=by simpa using e5
   have F:T (V.2=atD er k):=by show _=_;rw[n.out.2.1,if_pos ⟨ah.out.1,ah.out.2,by rw[<-r.out.1];exact e5⟩,r.out.1,r.out.2.1]
   have u:T (Y I 56 #[H Z er,H Z k] R fun e w'=>e= O (J ⟨V.2.toArray⟩)/\Gr R w'):=by
    rw[F.out]
    exact uW (by rw[r.out.1];exact sM x) (by rw[r.out.2.1];exact vJ x) (ht.out.below r.out.2.2)
   clear e5
   go_wp2_with fail
   refine ja0 u ?_
   rintro e w3 ⟨rfl,g⟩
   have f:=ja2 ((n.out.2.2.1.below r.out.2.2).gr g) (n.out.2.2.2.trans ((Sav.of r.out.2.2).trans (Sav.of g.below)))
   clear g u
   go_wp2
   go_ret
   exact ⟨rfl,f.out⟩
end Go.Proofs.YtjmmpnmgpgaagaaGreatDoor
