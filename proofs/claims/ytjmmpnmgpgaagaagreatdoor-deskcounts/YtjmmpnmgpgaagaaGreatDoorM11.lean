import Derived.Test.YtjmmpnmgpgaagaaGreatDoorM10
import Derived.Shelf.Strconv.AtoiErr
import Derived.Lib.AtoiBound
set_option maxRecDepth 100000
set_option maxHeartbeats 8000000
open Go renaming World → I, Calls → ia, Addr → ic, Value → ik
open Go.Ending renaming returned → D
open Go.IntKind renaming i64 → J
open Go.Obj renaming cells → ib
open Go.Proofs.Tryz renaming prog → H
open Go.RowKit renaming Below → Z, Hid → K
open Go.Value renaming int → O, string → Y, slice → U, tuple → ix, bool → ka, pointer → kb, agg → kc
namespace Go.Proofs.YtjmmpnmgpgaagaaGreatDoor
open Go.RowKit Go.Sort

structure Reads (w:I):Prop where
 len:∃m,w.cell? ⟨Tryz.lays145_ren.g 1,0,none⟩=some (O J m)
 syn:∃ev,w.cell? ⟨Tryz.lays172_ren.g 15,0,none⟩=some ev/\(ev= .nilIface\/∃te pe,ev= .iface te pe)
 tens:dK w
theorem Reads.below {w w':I} (h:Reads w) (k:Z w.heap.size w w'):Reads w':=by
 obtain ⟨m,g⟩:=h.len
 obtain ⟨j,f,n⟩:=h.syn
 exact ⟨⟨m,(k.cell (World.block_lt_of_cell? w _ g)).trans g⟩,⟨j,(k.cell (World.block_lt_of_cell? w _ f)).trans f,n⟩,h.tens.below k⟩
theorem Reads.gr {w w':I} (h:Reads w) (k:Gr w w'):Reads w':=h.below k.below
theorem AV (x y:List UInt8) (w:I):ia H 53 #[Y ⟨x.toArray⟩,Y ⟨y.toArray⟩] w fun e w'=>e= D (Y ⟨(Lib.trimPrefix x y).toArray⟩)/\w'=w:=by
 have f:=Any.strings_TrimPrefix Tryz.lays101 ⟨x.toArray⟩ ⟨y.toArray⟩ w
 change ia H 53 _ _ _ at f
 exact f
theorem Ba {x:List UInt8} {n:Int} (g:x.length<=18) (h:Lib.atoi x=some n) (w:I):ia H 54 #[Y ⟨x.toArray⟩] w fun e w'=>e= D (ix #[O J n,.nilIface])/\Z w.heap.size w w':=by
 have f:=Any.strconv_Atoi Tryz.lays172.toM.1 ⟨x.toArray⟩ n g h w
 change ia H 54 _ _ _ at f
 refine f.mono ?_
 rintro e w' ⟨rfl,t,rfl⟩
 exact ⟨rfl,Go.Joins.below_bytesWorld _ _ _ _ (nR _)⟩
theorem pK {n:Int} (g: -9223372036854775808<=n) (h:n<=9223372036854775807) {w:I} (j:dK w):ia H 22 #[O J n] w fun e w'=>e= D (Y ⟨(Lib.itoa n).toArray⟩)/\Gr w w':=by
 have f:=Any.strconv_Itoa Tryz.lays171 n g h w j
 change ia H 22 _ _ _ at f
 exact f
theorem B8 {x:List UInt8} (n:x.length<=18) (h:Lib.atoi x=none) (w:I) (r:Reads w):ia H 54 #[Y ⟨x.toArray⟩] w fun e w'=>(∃N,e= D (ix #[O J 0,.iface (Tryz.lays172_ren.t 168) (kb (some ⟨N,0,none⟩))]))/\Z w.heap.size w w':=by
 obtain ⟨g,k,u⟩:=r.syn
 have f:=Any.strconv_Atoi_err Tryz.lays172 ⟨x.toArray⟩ n h g w k u
 change ia H 54 _ _ _ at f
 refine f.mono ?_
 rintro e w' ⟨N,rfl,_,_,j⟩
 exact ⟨⟨N,rfl⟩,j⟩
def eD (d:Int) (x:List UInt8):Option Int:=if d<((Lib.trimPrefix x [45]).length:Int) then none else match Lib.atoi x with
 | none=>none
 | some n=>if Lib.itoa n=x then some n else none
theorem Ac (x:List UInt8):eD 10 x=eu x:=by
 unfold eD eu
 by_cases h:10<(Lib.trimPrefix x [45]).length
 ·rw[if_pos (by omega),if_pos h]
 ·rw[if_neg (by omega),if_neg h]
  cases Lib.atoi x<;>rfl
theorem nJ (d:Int) (hd:d<=17) (x:List UInt8) (w:I) (hr:Reads w):ia H 37 #[Y ⟨x.toArray⟩,O J d] w fun e w'=>e= D (ix #[O J ((eD d x).getD 0),ka (eD d x).isSome])/\Z w.heap.size w w':=by
 have R:=AV x [45] w
 have f:K _:=R
 clear R
 obtain ⟨an,k⟩:∃an,Lib.trimPrefix x [45]=an:=⟨_,rfl⟩
 have ad:an.length<=x.length:=by
  rw[<-k]
  unfold Lib.trimPrefix
  split
  ·simp
  ·exact nR _
 by_cases j:d<(an.length:Int)
 ·have F:eD d x=none:=by unfold eD;rw[k,if_pos j]
  rw[F]
  have hc:decide (d<(an.length:Int))=true:=decide_eq_true (by omega)
  rw[k] at f
  go_enter Tryz.func37,Tryz.ntmps37
  go_wp2_with fail
  refine ja0 f ?_
  rintro e w1 ⟨rfl,rfl⟩
  go_wp2
  go_ret2
  exact ⟨rfl,bR _ _⟩
 have hc:decide (d<(an.length:Int))=false:=decide_eq_false (by omega)
 have hx:x.length<=18:=by
  have:x.length<=an.length+1:=by
   rw[<-k]
   unfold Lib.trimPrefix
   split<;>simp<;>omega
  omega
 cases L:Lib.atoi x with
 | none =>
  have F:eD d x=none:=by unfold eD;rw[k,if_neg j,L]
  rw[F]
  rw[k] at f
  have h:=B8 hx L w hr
  have r:K _:=h
  clear h
  go_enter Tryz.func37,Tryz.ntmps37
  go_wp2_with fail
  refine ja0 f ?_
  rintro e w1 ⟨rfl,rfl⟩
  go_wp2_with fail
  refine ja0 r ?_
  rintro e w2 ⟨⟨N,rfl⟩,u⟩
  go_wp2
  go_ret2
  exact ⟨rfl,u⟩
 | some n =>
  have C: -9223372036854775808<=n/\n<=9223372036854775807:=by have:=Lib.atoi_bound L hx;omega
  rw[k] at f
  have h:=Ba hx L w
  have r:K _:=h
  clear h
  by_cases hi:Lib.itoa n=x
  ·have F:eD d x=some n:=by unfold eD;rw[k,if_neg j,L];simp[hi]
   rw[F]
   go_enter Tryz.func37,Tryz.ntmps37
   go_wp2_with fail
   refine ja0 f ?_
   rintro e w1 ⟨rfl,rfl⟩
   go_wp2_with fail
   refine ja0 r ?_
   rintro e w2 ⟨rfl,u⟩
   have g:=pK C.1 C.2 (hr.below u).tens
   rw[hi] at g
   have E:K _:=g
   clear g
   go_wp2_with fail
   refine ja0 E ?_
   rintro e w3 ⟨rfl,hg⟩
   go_wp2
   go_ret2
   exact ⟨rfl,u.trans (hg.below.mono u.size)⟩
  ·have F:eD d x=none:=by unfold eD;rw[k,if_neg j,L];simp[hi]
   rw[F]
   have ah:(Lib.itoa n==x)=false:=by simpa using hi
   go_enter Tryz.func37,Tryz.ntmps37
   go_wp2_with fail
   refine ja0 f ?_
   rintro e w1 ⟨rfl,rfl⟩
   go_wp2_with fail
   refine ja0 r ?_
   rintro e w2 ⟨rfl,u⟩
   have g:=pK C.1 C.2 (hr.below u).tens
   have E:K _:=g
   clear g
   go_wp2_with fail
   refine ja0 E ?_
   rintro e w3 ⟨rfl,hg⟩
   go_wp2
   go_ret2
   exact ⟨rfl,u.trans (hg.below.mono u.size)⟩
theorem iA (x:List UInt8) (w:I) (f:Reads w):ia H 37 #[Y ⟨x.toArray⟩,O J 10] w fun e w'=>e= D (ix #[O J ((eu x).getD 0),ka (eu x).isSome])/\Z w.heap.size w w':=by
 rw[<-Ac];exact nJ 10 (by decide) x w f


theorem sT (x:List UInt8):0<=dm x/\dm x<=3:=by
 unfold dm
 repeat' split
 all_goals decide
theorem Ae (x:List UInt8) (w:I):ia H 142 #[Y ⟨x.toArray⟩] w fun e w'=>e= D (O J (dm x))/\w'=w:=by
 go_enter Tryz.func142,Tryz.ntmps142
 go_wp2
 go_loopw [3] (fun i wr=>∃j:Nat,j<=3/\i= O J ((j:Int)+1)/\K (∀m:Nat,m<j->j5 ((m:Int)+1)≠x)/\wr=w) (fun i _=>4-(intOf i).toNat)
 case atStart=>exact ⟨0,nZ _,rfl,fun m h=>by omega,rfl⟩
 case round =>
  obtain ⟨j,hj,rfl,k,rfl⟩:=hrel
  by_cases F:j<3
  ·have u:decide ((j:Int)+1<=3)=true:=decide_eq_true (by omega)
   have r:=o7 ((j:Int)+1) wr
   have g:K _:=r
   clear r
   by_cases n:j5 ((j:Int)+1)=x
   ·have f:K (dm x=(j:Int)+1):=by
     show _=_
     rw[<-n]
     exact uE (by omega)
    rw[n] at g
    clear n
    go_wp2_with (go_at_call 146;(refine ja0 g ?_);rintro e w' ⟨rfl,rfl⟩)
    go_ret
    exact ⟨by rw[f.out];rfl,rfl⟩
   ·have R:(j5 ((j:Int)+1)==x)=false:=by simpa using n
    have C:=ja1 n
    clear n
    go_wp2_with (go_at_call 146;(refine ja0 g ?_);rintro e w' ⟨rfl,rfl⟩)
    go_roundw
    case rel =>
     refine ⟨j+1,by omega,by go_num,?_,by trivial⟩
     intro m hm
     by_cases e:m=j
     ·subst e;exact C.out
     ·exact k m (by omega)
    case measure=>simp[intOf];omega
  ·have u:decide ((j:Int)+1<=3)=false:=decide_eq_false (by omega)
   have f:K (dm x=0):=by
    show _=_
    by_cases E:dm x=0
    ·exact E
    ·have hr:=sT x
     have L:=uF E
     exact absurd (by rw[show (((dm x).toNat-1:Nat):Int)+1=dm x by omega];exact L) (k ((dm x).toNat-1) (by omega))
   go_wp2
   go_ret
   exact ⟨by rw[f.out];rfl,rfl⟩

theorem ua (x:List UInt8) (w:I):ia H 110 #[Y ⟨x.toArray⟩] w fun e w'=>e= D (O J (dI x))/\w'=w:=by
 go_enter Tryz.func110,Tryz.ntmps110
 go_wp2
 go_loopw [3] (fun i wr=>∃j:Nat,j<=9/\i= O J ((j:Int)+1)/\K (∀m:Nat,m<j->ct ((m:Int)+1)≠x)/\wr=w) (fun i _=>10-(intOf i).toNat)
 case atStart=>exact ⟨0,nZ _,rfl,fun m h=>by omega,rfl⟩
 case round =>
  obtain ⟨j,hj,rfl,k,rfl⟩:=hrel
  by_cases L:j<9
  ·have u:decide ((j:Int)+1<=9)=true:=decide_eq_true (by omega)
   have n:=gV ((j:Int)+1) wr
   obtain ⟨P,F⟩:∃P,aV ((j:Int)+1)=P:=⟨_,rfl⟩
   rw[F] at n
   have g:K _:=n
   clear n F
   by_cases r:ct ((j:Int)+1)=x
   ·have f:K (dI x=(j:Int)+1):=by
     show _=_
     rw[<-r]
     exact ub (by omega)
    rw[r] at g
    clear r
    go_wp2_with (go_at_call 111;(refine ja0 g ?_);rintro e w' ⟨rfl,rfl⟩)
    go_ret
    exact ⟨by rw[f.out];rfl,rfl⟩
   ·have hb:(ct ((j:Int)+1)==x)=false:=by simpa using r
    have C:=ja1 r
    clear r
    go_wp2_with (go_at_call 111;(refine ja0 g ?_);rintro e w' ⟨rfl,rfl⟩)
    go_roundw
    case rel =>
     refine ⟨j+1,by omega,by go_num,?_,by trivial⟩
     intro m hm
     by_cases e:m=j
     ·subst e;exact C.out
     ·exact k m (by omega)
    case measure=>simp[intOf];omega
  ·have u:decide ((j:Int)+1<=9)=false:=decide_eq_false (by omega)
   have f:K (dI x=0):=by
    show _=_
    by_cases E:dI x=0
    ·exact E
    ·have R:=uc E
     exact absurd (by rw[show (((dI x).toNat-1:Nat):Int)+1=dI x by omega];exact R.1) (k ((dI x).toNat-1) (by omega))
   go_wp2
   go_ret
   exact ⟨by rw[f.out];rfl,rfl⟩

theorem Ej (c b:UInt8) (l:List UInt8):[c].isPrefixOf (b::l)=(c==b):=by simp[List.isPrefixOf]
theorem qG (c:UInt8):∀x:List UInt8,(c ∉ x/\Lib.index x [c]= -1)\/(∃a r,x=a++c::r/\c ∉ a/\Lib.index x [c]=(a.length:Int))
 | []=>oL ⟨by simp,rfl⟩
 | b::l=>by
  rw[Lib.index,Ej]
  by_cases h:c=b
  ·subst h
   exact oR ⟨[],l,rfl,by simp,by simp⟩
  ·have j:¬(c==b)=true:=by simpa using h
   rw[if_neg j]
   rcases qG c l with ⟨f,g⟩|⟨a,r,f,g,h3⟩
   ·refine oL ⟨by simp[h,f],by rw[g];rfl⟩
   ·refine oR ⟨b::a,r,by rw[f];rfl,by simp[h,g],?_⟩
    have k:¬(Lib.index l [c] == -1)=true:=by rw[h3];simp
    rw[if_neg k,h3]
    simp
theorem vM (c:UInt8):∀(n:Nat) (x:List UInt8),x.length<=n->Lib.split x [c]=ac c x
 | n,x,hn=>by
  rcases qG c x with ⟨f,g⟩|⟨a,r,f,g,h3⟩
  ·unfold Lib.split
   rw[Lib.count_miss g,Lib.splitK,kl x f]
  ·cases n with
   | zero=>rw[f] at hn;simp at hn
   | succ n =>
    have k:r.length<=n:=by rw[f] at hn;simp at hn;omega
    have ih:=vM c n r k
    have h:x.drop (a.length+[c].length)=r:=by rw[f];simp
    have u:x.take a.length=a:=by rw[f];simp
    unfold Lib.split at ih ⊢
    rw[Lib.count_hit (by simp) h3,h,Nat.add_comm,Lib.splitK]
    have j:¬(Lib.index x [c] == -1)=true:=by rw[h3];simp
    rw[if_neg j,h3,show ((a.length:Int)).toNat+0=a.length by simp,show ((a.length:Int)).toNat+[c].length=a.length+[c].length by simp,h,u,ih,f,fG a r g]
theorem o8 (c:UInt8) (x:List UInt8):Lib.splitB ⟨#[c]⟩ 0 (Lib.countB ⟨x.toArray⟩ ⟨#[c]⟩) ⟨x.toArray⟩=(ac c x).map fun y=>(⟨y.toArray⟩:ByteArray):=by
 have h:=Lib.splitB_data ⟨#[c]⟩ 0 (Lib.countB ⟨x.toArray⟩ ⟨#[c]⟩) ⟨x.toArray⟩
 have h2:Lib.splitK [c] 0 (Lib.count x [c]) x=ac c x:=vM c x.length x (nR _)
 have h3:(Lib.splitB ⟨#[c]⟩ 0 (Lib.countB ⟨x.toArray⟩ ⟨#[c]⟩) ⟨x.toArray⟩).map (·.data.toList)=ac c x:=h.trans h2
 rw[<-h3,List.map_map]
 have:((fun y:List UInt8=>(⟨y.toArray⟩:ByteArray)) ∘ fun b:ByteArray=>b.data.toList)=id:=by
  funext b
  rfl
 rw[this,List.map_id]
theorem ju (c:UInt8):∀x,(ac c x).length<=x.length+1
 | []=>by simp[ac]
 | b::r=>by
  have ih:=ju c r
  rw[ac]
  split
  ·simp;omega
  ·split
   ·simp
   ·next e=>rw[e] at ih;simp at ih ⊢;omega
theorem va (c:UInt8) (x:List UInt8):Lib.countB ⟨x.toArray⟩ ⟨#[c]⟩+1=(ac c x).length:=by
 have h:=Lib.splitB_all ⟨#[c]⟩ (nR 1) 0 _ (⟨x.toArray⟩:ByteArray) rfl
 rw[o8,List.length_map] at h
 exact h.symm
theorem Aq {W:I} (f:List (List UInt8)) (T:TypeId):cw (W.alloc (ib ((f.map fun y=>(⟨y.toArray⟩:ByteArray)).map Value.string).toArray T)) (some ⟨W.heap.size,0,none⟩) f:=by
 refine oR ⟨W.heap.size,0,rfl,by simp,fun j g i hi=> ?_⟩
 obtain rfl:i=0:=by omega
 simp[g9,List.getElem?_eq_getElem g]
theorem lL (x:List UInt8) (c:UInt8) (w:I) (hr:Reads w) (hx:x.length<4294967281):ia H 23 #[Y ⟨x.toArray⟩,Y ⟨#[c]⟩] w fun e w'=>e= D (U (some ⟨w.heap.size,0,none⟩) (ac c x).length (ac c x).length)/\cw w' (some ⟨w.heap.size,0,none⟩) (ac c x)/\Z w.heap.size w w':=by
 obtain ⟨m,hm⟩:=hr.len
 have hc:=Any.strings_Split Tryz.lays146.1 Tryz.lays146.i9 ⟨x.toArray⟩ ⟨#[c]⟩ m w hx hm (nR 1)
 change ia H 23 _ _ _ at hc
 rw[o8] at hc
 refine hc.mono ?_
 rintro e w' ⟨rfl,rfl⟩
 have:=va c x
 refine ⟨?_,Aq _ _,Below.alloc (bR _ _) (nR _) _⟩
 rw[<-this]
theorem vt (w:I) (n:Nat):Gr w (w.drewN n):=Gr.of ⟨rfl,rfl,rfl,nR _,fun _ _=>rfl⟩ (by simp[World.drewN])
theorem Bh (x:List UInt8) (c:UInt8) (w:I) (u:Reads w) (E:x.length<4294967281):ia H 78 #[Y ⟨x.toArray⟩,Y ⟨#[c]⟩] w fun e w'=>(∃a r b,e= D (ix #[Y ⟨a.toArray⟩,Y ⟨r.toArray⟩,ka b])/\((b=true/\x=a++c::r/\c ∉ a)\/(b=false/\c ∉ x/\a=x/\r=[])))/\Gr w w':=by
 obtain ⟨m,k⟩:=u.len
 have h:=Any.strings_Cut Tryz.lays145.1 ⟨x.toArray⟩ ⟨#[c]⟩ m w E k
 change ia H 78 _ _ _ at h
 refine h.mono ?_
 rintro e w' ⟨rfl,n,rfl⟩
 refine ⟨⟨_,_,_,rfl,?_⟩,vt _ _⟩
 show ((Lib.cut x [c]).2.2=true/\x=(Lib.cut x [c]).1++c::(Lib.cut x [c]).2.1/\c ∉ (Lib.cut x [c]).1)\/((Lib.cut x [c]).2.2=false/\c ∉ x/\(Lib.cut x [c]).1=x/\(Lib.cut x [c]).2.1=[])
 unfold Lib.cut
 rcases qG c x with ⟨f,g⟩|⟨a,r,f,g,h3⟩
 ·rw[if_neg (by omega)]
  exact oR ⟨rfl,f,rfl,rfl⟩
 ·have j:x.drop (a.length+[c].length)=r:=by rw[f];simp
  have C:x.take a.length=a:=by rw[f];simp
  rw[if_pos (by omega),h3]
  simp only[Int.toNat_natCast,j,C]
  exact oL ⟨trivial,f,g⟩

theorem nM:∀ {g:List (List UInt8)} {M:List Int} {y:List UInt8} {n:Int},ew g=some M->eu y=some n->ew (g++[y])=some (M++[n])
 | [],M,y,n,h,k=>by
  obtain rfl:=sI h
  simp[ew,k]
 | x::r,M,y,n,h,k=>by
  rw[ew] at h
  cases e:eu x with
  | none=>rw[e] at h;simp at h
  | some a =>
   cases f:ew r with
   | none=>rw[e,f] at h;simp at h
   | some m =>
    rw[e,f] at h
    obtain rfl:=sI h
    rw[List.cons_append,ew,e,nM f k]
    rfl
theorem nK:∀ {f:List (List UInt8)} {y:List UInt8},y∈f->eu y=none->ew f=none
 | [],y,h,_=>by simp at h
 | x::r,y,h,k=>by
  rw[ew]
  rcases List.mem_cons.1 h with rfl|h
  ·rw[k]
  ·rw[nK h k]
   cases eu x<;>rfl
theorem oP (x:List UInt8) (w:I) (hr:Reads w) (hx:x.length<=100000):ia H 143 #[Y ⟨x.toArray⟩] w fun e w'=>(∃v,e= D (ix #[v,ka (jK x).isSome])/\dr w' w.heap.size v ((jK x).getD []))/\Z w.heap.size w w':=by
 have a0:=lL x 44 w hr (by omega)
 have a8:=ju 44 x
 unfold jK
 obtain ⟨ls,a3⟩:∃ls,ac 44 x=ls:=⟨_,rfl⟩
 rw[a3] at a0 a8 ⊢
 have ao:K _:=a0
 clear a0 a3
 go_enter Tryz.func143,Tryz.ntmps143
 go_wp2_with fail
 refine ja0 ao ?_
 rintro e w1 ⟨rfl,an,hb⟩
 have hH:=ja3 an hb (hr.below hb)
 clear ao an hb hr
 go_wp2
 go_loopw [4,12] (fun v i wr=>∃j:Nat,j<=ls.length/\i= O J j/\K (∃M,ew (ls.take j)=some M/\M.length=j/\dr wr w1.heap.size v M/\Z w1.heap.size w1 wr)) (fun _ i _=>ls.length-(intOf i).toNat)
 case atStart=>exact ⟨0,nZ _,rfl,[],rfl,rfl,ae.nil _ _ _ _ _,bR _ _⟩
 case round =>
  obtain ⟨j,hj,rfl,a5⟩:=hrel
  obtain ⟨M,hM,a7,r,k⟩:=a5.out
  clear a5
  by_cases ah:j<ls.length
  ·have a4:(j:Int)<(ls.length:Int):=by omega
   obtain ⟨b,a9,hA,_,a1⟩:=(hH.out.1.below k).at ah
   obtain ⟨y,hy⟩:∃y,ls[j]=y:=⟨_,rfl⟩
   have e0:=a1 j ah 0 (by omega)
   rw[hy] at e0
   simp only[Option.some.injEq,Addr.mk.injEq,and_true] at hA
   obtain ⟨rfl,rfl⟩:=hA
   have e1:wr.cell? ⟨w.heap.size,j,none⟩=some (Y ⟨y.toArray⟩):=by simpa[g9] using e0
   have L:=iA y wr (hH.out.2.2.below k)
   clear a1 e0
   cases hq:eu y with
   | none =>
    rw[hq] at L
    have u:K _:=L
    have f:K (ew ls=none/\Z w.heap.size w wr):=⟨nK (by rw[<-hy];exact gM ah) hq,hH.out.2.1.trans (k.mono hH.out.2.1.size)⟩
    clear L hM r k hq hy
    go_wp2_with fail
    refine ja0 u ?_
    rintro e w2 ⟨rfl,C⟩
    have E:=ja2 f.out.1 (f.out.2.trans (C.mono f.out.2.size))
    clear u f C
    go_wp2
    go_ret2
    refine ⟨⟨U none 0 0,?_,?_⟩,E.out.2⟩
    ·rw[E.out.1];rfl
    ·rw[E.out.1];exact ae.nil _ _ _ _ _
   | some n =>
    rw[hq] at L
    have u:K _:=L
    have a6:K (ew (ls.take (j+1))=some (M++[n])/\(M++[n]).length=j+1):=⟨by rw[List.take_succ_eq_append_getElem ah,hy];exact nM hM hq,by simp[a7]⟩
    have F:=ja2 r k
    clear L hM r k hq hy
    go_wp2_with fail
    refine ja0 u ?_
    rintro e w2 ⟨rfl,C⟩
    clear u
    have ap:Gr w2 (w2.alloc (ib #[O J n] 3)):=(gR _).alloc _
    have g:K (dr (w2.alloc (ib #[O J n] 3)) w1.heap.size u4 M/\al (w2.alloc (ib #[O J n] 3)) (some ⟨w2.heap.size,0,none⟩) [n]/\M.length+1<=maxLen/\(M.length+1)*8<=140737488355328/\Z w1.heap.size w1 (w2.alloc (ib #[O J n] 3))):=⟨(F.out.1.below C).gr ap,ii rfl n 3,by unfold maxLen;omega,by omega,(F.out.2.trans (C.mono F.out.2.size)).trans (ap.below.mono (F.out.2.trans (C.mono F.out.2.size)).size)⟩
    clear ap C F
    go_wp2_with (at_builtin;refine aJ _ rfl _ _ rfl w1.heap.size u4 M [n] (some ⟨w2.heap.size,0,none⟩) 1 rfl rfl g.out.1 g.out.2.1 (fun h=>by cases h) g.out.2.2.1 g.out.2.2.2.1 g.out.2.2.2.2.size ?_;intro v7 w7 ad a2)
    have R:=ja2 ad (g.out.2.2.2.2.trans (ae.grown_below g.out.1 a2 g.out.2.2.2.2.size))
    clear ad a2 g
    go_roundw
    case rel=>exact ⟨j+1,by omega,by go_num,_,a6.out.1,a6.out.2,R.out.1,R.out.2⟩
    case measure=>simp[intOf];omega
  ·have a4:¬(j:Int)<(ls.length:Int):=by omega
   rw[List.take_of_length_le (by omega)] at hM
   have f:=ja3 hM (r.mono hH.out.2.1.size) (hH.out.2.1.trans (k.mono hH.out.2.1.size))
   clear hM r k
   go_wp2
   go_ret2
   refine ⟨⟨u4,?_,?_⟩,f.out.2.2⟩
   ·rw[f.out.1];rfl
   ·rw[f.out.1];exact f.out.2.1

structure Box (w:I) (b:Nat) (s:Stp):Prop where
 c0:w.cell? ⟨b,0,none⟩=some (O J s.k)
 c1:w.cell? ⟨b,1,none⟩=some (O J s.a)
 c2:w.cell? ⟨b,2,none⟩=some (O J s.b)
 c3:w.cell? ⟨b,3,none⟩=some (O J s.c)
 c4:w.cell? ⟨b,4,none⟩=some (O J s.o)
 c5:w.cell? ⟨b,5,none⟩=some (O J s.v)
 c6:w.cell? ⟨b,6,none⟩=some (U s.p s.l.length s.n)
 fz:∀j,w.frozen? ⟨b,j,none⟩=false
 lt:b<w.heap.size
theorem Box.below {w w':I} {b:Nat} {s:Stp} (h:Box w b s) (k:Z w.heap.size w w'):Box w' b s :=
 ⟨(k.cell (p:=⟨b,0,none⟩) h.lt).trans h.c0,(k.cell (p:=⟨b,1,none⟩) h.lt).trans h.c1,(k.cell (p:=⟨b,2,none⟩) h.lt).trans h.c2,(k.cell (p:=⟨b,3,none⟩) h.lt).trans h.c3,(k.cell (p:=⟨b,4,none⟩) h.lt).trans h.c4,(k.cell (p:=⟨b,5,none⟩) h.lt).trans h.c5,(k.cell (p:=⟨b,6,none⟩) h.lt).trans h.c6,fun j=>(k.frozen (p:=⟨b,j,none⟩) h.lt).trans (h.fz j),nL h.lt k.size⟩
theorem eL {w:I} {B j f:Nat} {u x:ik} (g:w.cell? ⟨B,f,none⟩=some x):(w.setCell ⟨B,j,none⟩ u).cell? ⟨B,f,none⟩=some (if f=j then u else x):=by
 by_cases h:f=j
 ·subst h;rw[if_pos rfl];exact World.cell?_setCell_same _ _ _ g
 ·rw[if_neg h,World.cell?_setCell_other _ _ _ _ (by intro e;injection e with e1 e2;exact h e2.symm)];exact g
theorem Box.set {w:I} {b:Nat} {s t:Stp} (h:Box w b s) (j:Nat) (u:ik)
  (f:some (if 0=j then u else O J s.k)=some (O J t.k)) (g:some (if 1=j then u else O J s.a)=some (O J t.a)) (r:some (if 2=j then u else O J s.b)=some (O J t.b)) (C:some (if 3=j then u else O J s.c)=some (O J t.c)) (E:some (if 4=j then u else O J s.o)=some (O J t.o)) (F:some (if 5=j then u else O J s.v)=some (O J t.v)) (L:some (if 6=j then u else U s.p s.l.length s.n)=some (U t.p t.l.length t.n)):Box (w.setCell ⟨b,j,none⟩ u) b t :=
 ⟨(eL h.c0).trans f,(eL h.c1).trans g,(eL h.c2).trans r,(eL h.c3).trans C,(eL h.c4).trans E,(eL h.c5).trans F,(eL h.c6).trans L,fun i=>by simp only[World.frozen?_setCell];exact h.fz i,by simpa[World.setCell] using h.lt⟩
structure Kept (b:Nat) (w w':I):Prop where
 os:w'.os=w.os
 tape:w'.tape=w.tape
 output:w'.output=w.output
 size:w.heap.size<=w'.heap.size
 block:∀k,k<w.heap.size->k≠b->w'.heap[k]? = w.heap[k]?
theorem Kept.of {b:Nat} {w w':I} (h:Z w.heap.size w w'):Kept b w w':=⟨h.os,h.tape,h.output,h.size,fun k f _=>h.block k f⟩
theorem Kept.set {b:Nat} {w w':I} (h:Kept b w w') (j:Nat) (u:ik):Kept b w (w'.setCell ⟨b,j,none⟩ u) :=
 ⟨h.os,h.tape,h.output,by simpa[World.setCell] using h.size,fun k g f=>(Below.heap_setCell w' ⟨b,j,none⟩ u k f).trans (h.block k g f)⟩
theorem Kept.trans {b:Nat} {w w' f:I} (h:Kept b w w') (k:Kept b w' f):Kept b w f :=
 ⟨k.os.trans h.os,k.tape.trans h.tape,k.output.trans h.output,nT h.size k.size,fun i hi g=>(k.block i (nL hi h.size) g).trans (h.block i hi g)⟩
theorem Kept.below {b B:Nat} {w w':I} (h:Kept b w w') (f:B<=b) (j:B<=w.heap.size):Z B w w' :=
 ⟨h.os,h.tape,h.output,h.size,fun k g=>h.block k (by omega) (by omega)⟩
structure Good (lo:Nat) (w:I) (s:Stp):Prop where
 row:al w s.p s.l
 len:s.l.length<=maxLen
 nil:s.p=none->s.n=0
 far:∀a,s.p=some a->lo<=a.block/\a.block<w.heap.size
theorem qU {b:Nat} {w w':I} {A:Option ic} {l:List Int} (h:al w A l) (k:Kept b w w') (f:∀a,A=some a->a.block≠b):al w' A l:=by
 rcases h with h|⟨c,off,rfl,hc,hcs⟩
 ·exact oL h
 ·have n:c≠b:=f _ rfl
  exact oR ⟨c,off,rfl,nL hc k.size,fun j g i hi=>(World.cell?_of_block (w:=w) (k.block c hc n)).trans (hcs j g i hi)⟩
theorem Good.kept {b lo:Nat} {w w':I} {s:Stp} (h:Good lo w s) (g:b<lo) (k:Kept b w w'):Good lo w' s:=⟨qU h.row k (fun a f=>by have:=h.far a f;omega),h.len,h.nil,fun a f=>⟨(h.far a f).1,nL (h.far a f).2 k.size⟩⟩
theorem Good.as {b:Nat} {w:I} {s t:Stp} (h:Good b w s) (g:t.l=s.l) (f:t.p=s.p) (j:t.n=s.n):Good b w t:=⟨by rw[g,f];exact h.row,by rw[g];exact h.len,by rw[f,j];exact h.nil,by rw[f];exact h.far⟩

theorem qS (s:Stp) (x:List UInt8) (b:Nat) (w:I) (g:Box w b s):ia H 112 #[kb (some ⟨b,0,none⟩),O .u8 79,Y ⟨x.toArray⟩] w fun e w'=>e= D (ka (dm x != 0))/\w'=w.setCell ⟨b,4,none⟩ (O J (dm x)):=by
 have j:=Ae x w
 have f:K _:=j
 have k:=g.c4
 have r:=g.fz 4
 clear j g
 obtain ⟨n,h⟩:∃n,dm x=n:=⟨_,rfl⟩
 rw[h] at f ⊢
 clear h
 go_enter Tryz.func112,Tryz.ntmps112
 go_wp2_with fail
 refine ja0 f ?_
 rintro e w1 ⟨rfl,rfl⟩
 go_wp2
 go_ret
 exact ⟨rfl,rfl⟩

theorem nQ (s:Stp) (x:List UInt8) (b:Nat) (w:I) (r:Box w b s) (C:Reads w) (E:x.length<=100000):ia H 112 #[kb (some ⟨b,0,none⟩),O .u8 76,Y ⟨x.toArray⟩] w fun e w'=>e= D (ka (jK x).isSome)/\∃v w1,dr w1 w.heap.size v ((jK x).getD [])/\Z w.heap.size w w1/\w'=w1.setCell ⟨b,6,none⟩ v:=by
 have u:=oP x w C E
 have g:K _:=u
 have f:=ja1 r
 clear u r C
 go_enter Tryz.func112,Tryz.ntmps112
 go_wp2_with fail
 refine ja0 g ?_
 rintro e w1 ⟨⟨v,rfl,k⟩,j⟩
 have F:=(f.out.below j).c6
 have L:=(f.out.below j).fz 6
 have h:=ja2 k j
 obtain ⟨A,cap,n,-,-,-⟩:=ae.row bS k
 subst n
 clear k j g f
 go_wp2
 go_ret
 exact ⟨rfl,_,w1,h.out.1,h.out.2,rfl⟩

theorem eY (x:List UInt8) (b:Nat) (p:Int) (f:Nat) (w:I) (R:Reads w) (L:xe p=f) (h1:(p==79)=false) (h2:(p==76)=false) (u:ik) (E:w.cell? ⟨b,f,none⟩=some u) (hz:w.frozen? ⟨b,f,none⟩=false):ia H 112 #[kb (some ⟨b,0,none⟩),O .u8 p,Y ⟨x.toArray⟩] w fun e w'=>e= D (ka (eu x).isSome)/\∃w1,Z w.heap.size w w1/\w'=w1.setCell ⟨b,f,none⟩ (O J ((eu x).getD 0)):=by
 have j:=lr b p w
 rw[L] at j
 have g:K _:=j
 have n:=iA x w R
 have h:K _:=n
 clear j n L R
 go_enter Tryz.func112,Tryz.ntmps112
 go_wp2_with fail
 refine ja0 g ?_
 rintro e w1 ⟨rfl,rfl⟩
 clear g
 go_wp2_with fail
 refine ja0 h ?_
 rintro e F ⟨rfl,r⟩
 have k:=World.block_lt_of_cell? w1 _ E
 have ad:F.cell? ⟨b,f,none⟩=some u:=(r.cell (p:=⟨b,f,none⟩) k).trans E
 have ah:F.frozen? ⟨b,f,none⟩=false:=(r.frozen (p:=⟨b,f,none⟩) k).trans hz
 have C:K _:=r
 clear r h E hz k
 go_wp2
 go_ret
 exact ⟨rfl,F,C.out,rfl⟩
theorem oQ (s:Stp) (p:UInt8) (hp:p∈([65,66,67,79,86,76]:List UInt8)) (x:List UInt8) (b:Nat) (w:I) (j:Box w b s) {lo:Nat} (C:b<lo) (ad:lo<=w.heap.size) (E:Good lo w s) (L:Reads w) (hx:x.length<=100000) :
  ia H 112 #[kb (some ⟨b,0,none⟩),O .u8 (p.toNat:Int),Y ⟨x.toArray⟩] w fun e w'=>e= D (ka (di s p x).isSome)/\Kept b w w'/\∀t,di s p x=some t->∃t',clr t'=clr t/\Box w' b t'/\Good lo w' t':=by
 simp only[List.mem_cons,List.not_mem_nil,or_false] at hp
 rcases hp with rfl|rfl|rfl|rfl|rfl|rfl
 ·refine cM (eY x b 65 1 w L rfl rfl rfl _ j.c1 (j.fz 1)) ?_
  rintro e w' ⟨rfl,w1,k,rfl⟩
  have g:di s 65 x=match eu x with
   | none=>none
   | some n=>some { s with a:=n }:=by unfold di;rw[if_neg (by decide),if_neg (by decide)];rfl
  rw[g]
  have f:Kept b w (w1.setCell ⟨b,1,none⟩ (O J ((eu x).getD 0))):=(Kept.of k).set 1 _
  cases r:eu x with
  | none=>exact ⟨rfl,by rw[r] at f;exact f,fun t h=>by cases h⟩
  | some n =>
   rw[r] at f
   refine ⟨rfl,f,fun t h=> ?_⟩
   obtain rfl:=sI h
   exact ⟨_,rfl,(j.below k).set 1 _ rfl rfl rfl rfl rfl rfl rfl,(E.kept C f).as rfl rfl rfl⟩
 ·refine cM (eY x b 66 2 w L rfl rfl rfl _ j.c2 (j.fz 2)) ?_
  rintro e w' ⟨rfl,w1,k,rfl⟩
  have g:di s 66 x=match eu x with
   | none=>none
   | some n=>some { s with b:=n }:=by unfold di;rw[if_neg (by decide),if_neg (by decide)];rfl
  rw[g]
  have f:Kept b w (w1.setCell ⟨b,2,none⟩ (O J ((eu x).getD 0))):=(Kept.of k).set 2 _
  cases r:eu x with
  | none=>exact ⟨rfl,by rw[r] at f;exact f,fun t h=>by cases h⟩
  | some n =>
   rw[r] at f
   refine ⟨rfl,f,fun t h=> ?_⟩
   obtain rfl:=sI h
   exact ⟨_,rfl,(j.below k).set 2 _ rfl rfl rfl rfl rfl rfl rfl,(E.kept C f).as rfl rfl rfl⟩
 ·refine cM (eY x b 67 3 w L rfl rfl rfl _ j.c3 (j.fz 3)) ?_
  rintro e w' ⟨rfl,w1,k,rfl⟩
  have g:di s 67 x=match eu x with
   | none=>none
   | some n=>some { s with c:=n }:=by unfold di;rw[if_neg (by decide),if_neg (by decide)];rfl
  rw[g]
  have f:Kept b w (w1.setCell ⟨b,3,none⟩ (O J ((eu x).getD 0))):=(Kept.of k).set 3 _
  cases r:eu x with
  | none=>exact ⟨rfl,by rw[r] at f;exact f,fun t h=>by cases h⟩
  | some n =>
   rw[r] at f
   refine ⟨rfl,f,fun t h=> ?_⟩
   obtain rfl:=sI h
   exact ⟨_,rfl,(j.below k).set 3 _ rfl rfl rfl rfl rfl rfl rfl,(E.kept C f).as rfl rfl rfl⟩
 ·refine cM (qS s x b w j) ?_
  rintro e w' ⟨rfl,rfl⟩
  have f:Kept b w (w.setCell ⟨b,4,none⟩ (O J (dm x))):=(Kept.of (bR _ _)).set 4 _
  have g:di s 79 x=if dm x=0 then none else some { s with o:=dm x }:=by unfold di;rw[if_pos rfl]
  rw[g]
  by_cases h0:dm x=0
  ·rw[if_pos h0]
   exact ⟨by rw[h0];rfl,f,fun t h=>by cases h⟩
  ·rw[if_neg h0]
   refine ⟨by rw[show (dm x != 0)=true by simpa using h0];rfl,f,fun t h=> ?_⟩
   obtain rfl:=sI h
   exact ⟨_,rfl,j.set 4 _ rfl rfl rfl rfl rfl rfl rfl,(E.kept C f).as rfl rfl rfl⟩
 ·refine cM (eY x b 86 5 w L rfl rfl rfl _ j.c5 (j.fz 5)) ?_
  rintro e w' ⟨rfl,w1,k,rfl⟩
  have g:di s 86 x=match eu x with
   | none=>none
   | some n=>some { s with v:=n }:=by unfold di;rw[if_neg (by decide),if_neg (by decide)];rfl
  rw[g]
  have f:Kept b w (w1.setCell ⟨b,5,none⟩ (O J ((eu x).getD 0))):=(Kept.of k).set 5 _
  cases r:eu x with
  | none=>exact ⟨rfl,by rw[r] at f;exact f,fun t h=>by cases h⟩
  | some n =>
   rw[r] at f
   refine ⟨rfl,f,fun t h=> ?_⟩
   obtain rfl:=sI h
   exact ⟨_,rfl,(j.below k).set 5 _ rfl rfl rfl rfl rfl rfl rfl,(E.kept C f).as rfl rfl rfl⟩
 ·refine cM (nQ s x b w j L hx) ?_
  rintro e w' ⟨rfl,v,w1,hv,k,rfl⟩
  have f:Kept b w (w1.setCell ⟨b,6,none⟩ v):=(Kept.of k).set 6 _
  have g:di s 76 x=match jK x with
   | none=>none
   | some l=>some { s with l:=l }:=by unfold di;rw[if_neg (by decide),if_pos rfl];rfl
  rw[g]
  cases r:jK x with
  | none=>exact ⟨rfl,f,fun t h=>by cases h⟩
  | some l =>
   refine ⟨rfl,f,fun t h=> ?_⟩
   obtain rfl:=sI h
   rw[r] at hv
   obtain ⟨A,cap,rfl,F,R,u⟩:=ae.row bS hv
   have hf:∀a,A=some a->a.block≠b:=fun a ha=>by have:=(u a ha).1;have:=j.lt;omega
   refine ⟨{ s with l:=l,p:=A,n:=cap },rfl,(j.below k).set 6 _ rfl rfl rfl rfl rfl rfl rfl,⟨?_,?_,F,fun a ha=>⟨nT ad (u a ha).1,by have:=(u a ha).2;simpa[World.setCell] using this⟩⟩⟩
   ·exact qU R ((Kept.of (bR _ _)).set 6 _) hf
   ·have h1:=congrArg List.length (pS r)
    have h2:=ju 44 x
    rw[List.length_map] at h1
    show l.length<=maxLen
    unfold maxLen
    omega

def l0:Stp:=gi 0
theorem Bc (w:I):Box (w.alloc (ib #[O J 0,O J 0,O J 0,O J 0,O J 0,O J 0,U none 0 0] 136)) w.heap.size l0 :=
 ⟨aa (gR _) rfl,aa (gR _) rfl,aa (gR _) rfl,aa (gR _) rfl,aa (gR _) rfl,aa (gR _) rfl,aa (gR _) rfl,fun j=>f9 (gR _) j,by simp⟩
theorem qc {w:I} {B:Nat} {g:List (List UInt8)} (h:cw w (some ⟨B,0,none⟩) g) {j:Nat} (n:j<g.length):w.cell? ⟨B,j,none⟩=some (Y ⟨g[j].toArray⟩):=by
 obtain ⟨b,u,k,_,f⟩:=h.at n
 have r:=f j n 0 (by omega)
 simp only[Option.some.injEq,Addr.mk.injEq,and_true] at k
 obtain ⟨rfl,rfl⟩:=k
 simpa[g9] using r

theorem kg:∀(ps qs:List UInt8) (f g:List (List UInt8)) (s:Stp),ps.length=f.length->dY s (ps++qs) (f++g)=match dY s ps f with
  | none=>none
  | some t=>dY t qs g
 | [],qs,[],g,s,_=>rfl
 | p::ps,qs,x::f,g,s,h=>by
  rw[List.cons_append,List.cons_append,dY,dY]
  cases di s p x with
  | none=>rfl
  | some t=>exact kg ps qs f g t (by simpa using h)
 | [],_,_::_,_,_,h=>by simp at h
 | _::_,_,[],_,_,h=>by simp at h
theorem xK {s t:Stp} (h:clr s=clr t) (p:UInt8) (x:List UInt8):(di s p x).map clr=(di t p x).map clr:=by
 obtain ⟨k,a,b,c,o,v,L,n,l⟩:=s
 obtain ⟨u,g,j,r,F,R,f,E,C⟩:=t
 simp only[clr,Stp.mk.injEq,true_and] at h
 obtain ⟨rfl,rfl,rfl,rfl,rfl,rfl,rfl⟩:=h
 unfold di
 split
 ·split<;>rfl
 ·split
  ·cases jK x<;>rfl
  ·cases eu x with
   | none=>rfl
   | some n =>
    simp only[Option.map]
    repeat' split
    all_goals rfl
def ph (k:Int) (ps:List UInt8) (r:List (List UInt8)) (b:Nat) (w w':I) (j:Nat):Prop:=∃t t',dY (gi k) (ps.take j) (r.take j)=some t/\clr t'=clr t/\Box w' b t'/\Good (b+1) w' t'/\Kept b w w'
theorem ph.next {k:Int} {ps:List UInt8} {r:List (List UInt8)} {j:Nat} {t:Stp} (n:r.length=ps.length) (g:j<ps.length) (f:j<r.length) (h:dY (gi k) (ps.take j) (r.take j)=some t):dY (gi k) (ps.take (j+1)) (r.take (j+1))=di t ps[j] r[j]:=by
 rw[List.take_succ_eq_append_getElem g,List.take_succ_eq_append_getElem f,kg _ _ _ _ _ (by simp;omega),h]
 show dY t [ps[j]] [r[j]]=_
 rw[dY]
 cases di t ps[j] r[j]<;>rfl
theorem ph.fail {k:Int} {ps:List UInt8} {r:List (List UInt8)} {j:Nat} (f:r.length=ps.length) (h:dY (gi k) (ps.take j) (r.take j)=none):dY (gi k) ps r=none:=by
 have:=kg (ps.take j) (ps.drop j) (r.take j) (r.drop j) (gi k) (by simp;omega)
 rw[List.take_append_drop,List.take_append_drop,h] at this
 exact this

theorem mf (c:UInt8):∀x,∀z∈ac c x,z.length<=x.length
 | [],z,h=>by simp[ac] at h;simp[h]
 | b::r,z,h=>by
  have ih:=mf c r
  rw[ac] at h
  split at h
  ·rcases List.mem_cons.1 h with rfl|h
   ·simp
   ·have:=ih z h;simp;omega
  ·cases e:ac c r with
   | nil=>exact absurd e (cF c r)
   | cons y t =>
    rw[e] at h ih
    simp only[List.mem_cons] at h
    rcases h with rfl|h
    ·have:=ih y (by simp);simp;omega
    ·have:=ih z (by simp[h]);simp;omega
theorem Box.under {w w':I} {b B:Nat} {s:Stp} (h:Box w b s) (f:b<B) (k:Z B w w'):Box w' b s :=
 ⟨(k.cell (p:=⟨b,0,none⟩) f).trans h.c0,(k.cell (p:=⟨b,1,none⟩) f).trans h.c1,(k.cell (p:=⟨b,2,none⟩) f).trans h.c2,(k.cell (p:=⟨b,3,none⟩) f).trans h.c3,(k.cell (p:=⟨b,4,none⟩) f).trans h.c4,(k.cell (p:=⟨b,5,none⟩) f).trans h.c5,(k.cell (p:=⟨b,6,none⟩) f).trans h.c6,fun j=>(k.frozen (p:=⟨b,j,none⟩) f).trans (h.fz j),nL h.lt k.size⟩
def EP (w:I) (t:Stp):Prop:=al w t.p t.l/\t.l.length<=maxLen/\(t.p=none->t.n=0)
theorem gN {B b:Nat} {a w:I} (h:Z B a w) (f:B<=b) (u0 u1 u2 u3 u4 u5 u6:ik) :
  Z B a (((((((w.setCell ⟨b,0,none⟩ u0).setCell ⟨b,1,none⟩ u1).setCell ⟨b,2,none⟩ u2).setCell ⟨b,3,none⟩ u3).setCell ⟨b,4,none⟩ u4).setCell ⟨b,5,none⟩ u5).setCell ⟨b,6,none⟩ u6) :=
 ((((((h.setCell (p:=⟨b,0,none⟩) f _).setCell (p:=⟨b,1,none⟩) f _).setCell (p:=⟨b,2,none⟩) f _).setCell (p:=⟨b,3,none⟩) f _).setCell (p:=⟨b,4,none⟩) f _).setCell (p:=⟨b,5,none⟩) f _).setCell (p:=⟨b,6,none⟩) f _
theorem oO (x:List UInt8) (w:I) (hr:Reads w) (hx:x.length<=100000):ia H 79 #[Y ⟨x.toArray⟩] w fun e w'=>∃t',e= D (ix #[kc (ja8 t'),ka (gw x).isSome])/\Z w.heap.size w w'/\∀t,gw x=some t->clr t'=clr t/\EP w' t'/\∀a,t'.p=some a->w.heap.size<=a.block/\a.block<w'.heap.size:=by
 obtain ⟨w0,bn⟩:∃w0,w.alloc (ib #[O J 0,O J 0,O J 0,O J 0,O J 0,O J 0,U none 0 0] 136)=w0:=⟨_,rfl⟩
 have b5:Box w0 w.heap.size l0:=bn▸Bc w
 have bh:Z w.heap.size w w0:=bn▸((gR w).alloc _).below
 have cv:w0.heap.size=w.heap.size+1:=by rw[<-bn];simp
 have b3:=lL x 32 w0 (hr.below bh) (by omega)
 have cp:=ju 32 x
 obtain ⟨ls,ba⟩:∃ls,ac 32 x=ls:=⟨_,rfl⟩
 rw[ba] at b3 cp
 obtain ⟨y,r,rfl⟩:∃y r,ls=y::r:=List.exists_cons_of_ne_nil (by rw[<-ba];exact cF _ _)
 have R:gw x=if dI y=0\/r.length≠(aV (dI y)).length then none else dY (gi (dI y)) (aV (dI y)) r:=by unfold gw;rw[ba]
 obtain ⟨LP,be⟩:∃LP,gw x=LP:=⟨_,rfl⟩
 rw[be] at R ⊢
 clear be
 have cf:∀z∈r,z.length<=100000:=fun z hz=>nT (mf 32 x z (by rw[ba];simp[hz])) hx
 have bt:K _:=b3
 have bd:=ja3 b5 bh (hr.below bh)
 have cu:=ja1 hr
 clear b3 ba b5 bh hr
 go_enter Tryz.func79,Tryz.ntmps79
 go_wp2_with fail
 refine ja0 bt ?_
 rintro e w1 ⟨rfl,a1,hb⟩
 clear bn
 rw[cv] at a1
 have E:K (cw w1 (some ⟨w.heap.size+1,0,none⟩) (y::r)/\Box w1 w.heap.size l0/\Z w.heap.size w w1/\Reads w1):=⟨a1,bd.out.1.below hb,bd.out.2.1.trans (hb.mono (by omega)),bd.out.2.2.below hb⟩
 have e1:w1.cell? ⟨w.heap.size+1,0,none⟩=some (Y ⟨y.toArray⟩):=qc a1 (j:=0) (by simp)
 have b1:(y::r).length=r.length+1:=rfl
 rw[b1]
 have b0:=ua y w1
 obtain ⟨k,hk⟩:∃k,dI y=k:=⟨_,rfl⟩
 rw[hk] at b0
 have bp:K _:=b0
 have bG:=gV k w1
 obtain ⟨ps,a3⟩:∃ps,aV k=ps:=⟨_,rfl⟩
 obtain ⟨wo,ck⟩:∃wo,ct k=wo:=⟨_,rfl⟩
 rw[a3,ck] at bG
 have bo:K _:=bG
 clear a1 hb bt bd b0 bG ck
 go_wp2_with fail
 refine ja0 bp ?_
 rintro e w2 ⟨rfl,cj⟩
 subst w2
 go_wp2_with fail
 refine ja0 bo ?_
 rintro e w2 ⟨rfl,cj⟩
 subst w2
 clear bp bo
 have cB:ps.length<=4:=by rw[<-a3];exact js k
 by_cases a7:k=0\/r.length≠ps.length
 ·rw[hk,a3,if_pos a7] at R
  subst R
  have c0:=E.out.2.1.c0
  have c1:=E.out.2.1.c1
  have c2:=E.out.2.1.c2
  have c3:=E.out.2.1.c3
  have c4:=E.out.2.1.c4
  have c5:=E.out.2.1.c5
  have c6:=E.out.2.1.c6
  have fz:=E.out.2.1.fz
  by_cases bN:k=0
  ·subst bN
   go_wp2
   exact bodyPost_ret (v:= ix #[kc #[O J 0,O J 0,O J 0,O J 0,O J 0,O J 0,U none 0 0],ka false]) (by simp[results,Tryz.results79,go_sem,c0,c1,c2,c3,c4,c5,c6]) rfl ⟨l0,rfl,gN E.out.2.2.1 (nR _) _ _ _ _ _ _ _,fun t ht=>by cases ht⟩
  ·have cA:(k==0)=false:=by simpa using bN
   have cm:((r.length:Int)+1 != 1+(ps.length:Int))=true:=by simp;omega
   go_wp2
   exact bodyPost_ret (v:= ix #[kc #[O J 0,O J 0,O J 0,O J 0,O J 0,O J 0,U none 0 0],ka false]) (by simp[results,Tryz.results79,go_sem,c0,c1,c2,c3,c4,c5,c6]) rfl ⟨l0,rfl,gN E.out.2.2.1 (nR _) _ _ _ _ _ _ _,fun t ht=>by cases ht⟩
 have bN:(k==0)=false:=by simp;omega
 have cm:((r.length:Int)+1 != 1+(ps.length:Int))=false:=by simp;omega
 go_wp2
 obtain ⟨W,hW⟩:∃W,w1.alloc (ib #[O J k,O J 0,O J 0,O J 0,O J 0,O J 0,U none 0 0] 136)=W:=⟨_,rfl⟩
 rw[hW]
 have b9:W.heap.size=w1.heap.size+1:=by rw[<-hW];simp
 have a6:Z w1.heap.size w1 W:=by rw[<-hW];exact ((gR w1).alloc _).below
 have b6:Box W w1.heap.size (gi k):=by
  rw[<-hW]
  exact ⟨aa (gR _) rfl,aa (gR _) rfl,aa (gR _) rfl,aa (gR _) rfl,aa (gR _) rfl,aa (gR _) rfl,aa (gR _) rfl,fun j=>f9 (gR _) j,by simp⟩
 have f:K (cw W (some ⟨w.heap.size+1,0,none⟩) (y::r)/\Box W w.heap.size l0/\Z w.heap.size w W/\Reads W/\W.heap.size=w1.heap.size+1/\w.heap.size<w1.heap.size/\Box W w1.heap.size (gi k)/\w.heap.size+1<w1.heap.size):=⟨E.out.1.below a6,E.out.2.1.below a6,E.out.2.2.1.trans (a6.mono E.out.2.2.1.size),E.out.2.2.2.below a6,b9,E.out.2.1.lt,b6,World.block_lt_of_cell? w1 _ e1⟩
 have cs:=ja1 cf
 clear E b9 a6 b6 hW e1
 go_loopw [36] (fun i wr=>∃j:Nat,j<=ps.length/\i= O J j/\K (ph k ps r w1.heap.size W wr j)) (fun i _=>ps.length-(intOf i).toNat)
 case atStart=>exact ⟨0,nZ _,rfl,gi k,gi k,rfl,rfl,f.out.2.2.2.2.2.2.1,⟨oL rfl,nZ _,fun _=>rfl,fun a ha=>by cases ha⟩,Kept.of (bR _ _)⟩
 case round =>
  obtain ⟨j,hj,rfl,ce⟩:=hrel
  obtain ⟨t,t',a4,bl,h,F,u⟩:=ce.out
  clear ce
  by_cases cc:j<ps.length
  ·have cd:(j:Int)<(ps.length:Int):=by omega
   have bs:j<r.length:=by omega
   obtain ⟨X,hX⟩:∃X,r[j]=X:=⟨_,rfl⟩
   have L:Kept w1.heap.size W wr.drew:=⟨u.os,u.tape,u.output,u.size,u.block⟩
   have an:Z w1.heap.size W wr.drew:=L.below (nR _) (by have:=f.out.2.2.2.2.1;omega)
   have b4:W.cell? ⟨w.heap.size+1,1+j,none⟩=some (Y ⟨X.toArray⟩):=by
    have:=qc f.out.1 (j:=1+j) (by simp;omega)
    rw[this]
    congr 3
    rw[<-hX]
    simp[Nat.add_comm 1 j]
   have a5:wr.drew.cell? ⟨w.heap.size+1,1+j,none⟩=some (Y ⟨X.toArray⟩):=(an.cell (p:=⟨w.heap.size+1,1+j,none⟩) f.out.2.2.2.2.2.2.2).trans b4
   have b8:K (∀C,Kept w1.heap.size wr.drew C->C.cell? ⟨w.heap.size+1,1+j,none⟩=some (Y ⟨X.toArray⟩)):=fun C h1=>((h1.below (B:=w1.heap.size) (nR _) (nT (by have:=f.out.2.2.2.2.1;omega) L.size)).cell (p:=⟨w.heap.size+1,1+j,none⟩) f.out.2.2.2.2.2.2.2).trans a5
   have a8:Box wr.drew w1.heap.size t':=⟨h.c0,h.c1,h.c2,h.c3,h.c4,h.c5,h.c6,h.fz,h.lt⟩
   have a9:Good (w1.heap.size+1) wr.drew t':=⟨F.row.below ((gR wr).drew).below,F.len,F.nil,F.far⟩
   have c7:IntKind.i64.wrap (1+(j:Int))=1+(j:Int):=by rw[IntKind.wrap_i64];omega
   have cj:(0:Int)<=1+(j:Int):=by omega
   have c8:1+(j:Int)<(r.length:Int)+1:=by omega
   have c9:(1+(j:Int)).toNat=1+j:=by omega
   have ao:Z w.heap.size w wr.drew:=f.out.2.2.1.trans (L.below (Nat.le_of_lt f.out.2.2.2.2.2.1) f.out.2.2.1.size)
   have a2:=oQ t' ps[j] (by have:=(Ai (k:=k)).1;rw[a3] at this;exact this _ (gM cc)) X w1.heap.size wr.drew a8 (Nat.lt_succ_self _) (nT (by have:=f.out.2.2.2.2.1;omega) L.size) a9 (cu.out.below ao) (by rw[<-hX];exact cs.out _ (gM bs))
   have ad:=ph.next (by omega) cc bs a4
   rw[hX] at ad
   have n:=xK bl ps[j] X
   clear bl
   cases hq:di t' ps[j] X with
   | none =>
    rw[hq] at a2 n
    have bb:K _:=a2
    have b7:LP=none:=by
     rw[R,hk,a3,if_neg a7]
     refine ph.fail (j:=j+1) (by omega) ?_
     rw[ad]
     cases hz:di t ps[j] X with
     | none=>rfl
     | some z=>rw[hz] at n;cases n
    subst b7
    have hZ:K (∀C,Kept w1.heap.size wr.drew C->Box C w.heap.size l0/\Z w.heap.size w C):=fun C h1=>⟨f.out.2.1.under f.out.2.2.2.2.2.1 (an.trans (h1.below (nR _) (nT (by have:=f.out.2.2.2.2.1;omega) L.size))),ao.trans (h1.below (Nat.le_of_lt f.out.2.2.2.2.2.1) ao.size)⟩
    clear a2 n hq ad a4 h F u L an b4 a8 a9 ao R
    go_upto_region 10 with fail
    refine wp_region_noPanic ?_
    refine wp_region_held_drew (S:=fun w'=>w'.cell? ⟨w.heap.size+1,1+j,none⟩=some (Y ⟨X.toArray⟩)) (by kernel_rfl) (a5) (fun hHeld=> ?_)
    refine tks [0,1,2,3,4,5,6,7] (by assumption) ?_
    iterate 8 (refine tk (v:= ?_) (by rfl) (by kernel_rfl) ?_ ?_;rotate_left;· (refine oL ⟨by rfl,?_⟩;intro w ah;(try dsimp only at ah);go_simp<;>with_reducible rfl);try simp only[Act.put,yA,aB,yS])
    refine tk0 ?_
    refine wpAnyH_ready (rs:=[8]) (by kernel_rfl) (by simp) ?_
    refine AllReadyH.cons (o:= ?oia9) ?hopa9 (fun dk hK=> ?stepa9) ?morea9
    case hopa9=>(simp only[zA,z0',zS];rfl)
    case morea9=>exact AllReadyH.nil
    go_simp
    (go_at_call 112;(refine ja0 bb ?_);rintro e C ⟨rfl,ap,a0⟩;have bC:C.cell? ⟨w.heap.size+1,1+j,none⟩=some (Y ⟨X.toArray⟩):=b8.out C ap;have bc:=hZ.out C ap;obtain ⟨c0,c1,c2,c3,c4,c5,c6,fz,_⟩:=bc.1;have cl:K _:=bc.2;clear ap a0 bc)
    first|(go_wp2_with fail)|skip
    refine hK.out _ _ ?_ (fun hHeld=> ?_)
    ·(try dsimp only);(first|with_reducible exact a5|with_reducible exact bC)
    clear hK dk
    try simp only[Act.put,yA,aB,yS]
    refine tks [9] (by assumption) ?_
    iterate 1 (refine tk (v:= ?_) (by rfl) (by kernel_rfl) ?_ ?_;rotate_left;· (refine oL ⟨by rfl,?_⟩;intro w ah;(try dsimp only at ah);go_simp<;>with_reducible rfl);try simp only[Act.put,yA,aB,yS])
    refine tk0 ?_
    refine wpAnyH_done (by kernel_rfl) ?_ _
    refine NoPanic.normal ?_
    go_wp2
    exact bodyPost_ret (v:= ix #[kc #[O J 0,O J 0,O J 0,O J 0,O J 0,O J 0,U none 0 0],ka false]) (by simp[results,Tryz.results79,go_sem,c0,c1,c2,c3,c4,c5,c6]) rfl ⟨l0,rfl,gN cl.out (nR _) _ _ _ _ _ _ _,fun t ht=>by cases ht⟩
   | some z =>
    rw[hq] at a2 n
    have bb:K _:=a2
    have cr:K (∀C,Kept w1.heap.size wr.drew C->(∀t,some z=some t->∃t',clr t'=clr t/\Box C w1.heap.size t'/\Good (w1.heap.size+1) C t')->K (ph k ps r w1.heap.size W C (j+1))):=by
     intro C h1 h2
     obtain ⟨t2,h3,h4,h5⟩:=h2 z rfl
     cases hz:di t ps[j] X with
     | none=>rw[hz] at n;cases n
     | some z2 =>
      rw[hz] at n
      exact ⟨z2,t2,ad.trans hz,h3.trans (sI n),h4,h5,L.trans h1⟩
    clear a2 n hq ad a4 h F u L an b4 a8 a9 ao R
    go_upto_region 10 with fail
    refine wp_region_noPanic ?_
    refine wp_region_held_drew (S:=fun w'=>w'.cell? ⟨w.heap.size+1,1+j,none⟩=some (Y ⟨X.toArray⟩)) (by kernel_rfl) (a5) (fun hHeld=> ?_)
    refine tks [0,1,2,3,4,5,6,7] (by assumption) ?_
    iterate 8 (refine tk (v:= ?_) (by rfl) (by kernel_rfl) ?_ ?_;rotate_left;· (refine oL ⟨by rfl,?_⟩;intro w ah;(try dsimp only at ah);go_simp<;>with_reducible rfl);try simp only[Act.put,yA,aB,yS])
    refine tk0 ?_
    refine wpAnyH_ready (rs:=[8]) (by kernel_rfl) (by simp) ?_
    refine AllReadyH.cons (o:= ?oib9) ?hopb9 (fun dk hK=> ?stepb9) ?moreb9
    case hopb9=>(simp only[zA,z0',zS];rfl)
    case moreb9=>exact AllReadyH.nil
    go_simp
    (go_at_call 112;(refine ja0 bb ?_);rintro e C ⟨rfl,ap,a0⟩;have bC:C.cell? ⟨w.heap.size+1,1+j,none⟩=some (Y ⟨X.toArray⟩):=b8.out C ap;have cn:K _:=ap;have b2:K _:=a0;clear ap a0)
    first|(go_wp2_with fail)|skip
    refine hK.out _ _ ?_ (fun hHeld=> ?_)
    ·(try dsimp only);(first|with_reducible exact a5|with_reducible exact bC)
    clear hK dk
    try simp only[Act.put,yA,aB,yS]
    refine tks [9] (by assumption) ?_
    iterate 1 (refine tk (v:= ?_) (by rfl) (by kernel_rfl) ?_ ?_;rotate_left;· (refine oL ⟨by rfl,?_⟩;intro w ah;(try dsimp only at ah);go_simp<;>with_reducible rfl);try simp only[Act.put,yA,aB,yS])
    refine tk0 ?_
    refine wpAnyH_done (by kernel_rfl) ?_ _
    refine NoPanic.normal ?_
    go_wp2
    go_roundw
    case rel=>exact ⟨j+1,by omega,by go_num,cr.out _ cn.out b2.out⟩
    case measure=>simp[intOf];omega
  ·have cd:¬(j:Int)<(ps.length:Int):=by omega
   rw[List.take_of_length_le (by omega),List.take_of_length_le (by omega)] at a4
   have be:LP=some t:=by rw[R,hk,a3,if_neg a7];exact a4
   subst be
   have an:Z w1.heap.size W wr:=u.below (nR _) (by have:=f.out.2.2.2.2.1;omega)
   have bc:=f.out.2.1.under f.out.2.2.2.2.2.1 an
   have ao:=ja1 (f.out.2.2.1.trans (u.below (Nat.le_of_lt f.out.2.2.2.2.2.1) f.out.2.2.1.size))
   obtain ⟨c0,c1,c2,c3,c4,c5,c6,fz,_⟩:=bc
   obtain ⟨d0,d1,d2,d3,d4,d5,d6,dz,_⟩:=h
   have g:=ja3 bl F f.out.2.2.2.2.2.1
   clear a4 R bl F u an
   go_wp2
   refine bodyPost_ret (v:= ix #[kc (ja8 t'),ka true]) (by simp[results,Tryz.results79,go_sem,c0,c1,c2,c3,c4,c5,c6]) rfl ⟨t',rfl,gN ao.out (nR _) _ _ _ _ _ _ _,g.out.1,⟨?_,g.out.2.1.len,g.out.2.1.nil⟩,fun a ha=>⟨by have:=(g.out.2.1.far a ha).1;have:=g.out.2.2;omega,by have:=(g.out.2.1.far a ha).2;simpa[World.setCell] using this⟩⟩
   exact qU g.out.2.1.row ((((((((Kept.of (bR _ _)).set 0 _).set 1 _).set 2 _).set 3 _).set 4 _).set 5 _).set 6 _) (fun a ha=>by have:=g.out.2.1.far a ha;have:=g.out.2.2;omega)

theorem Tryz.infoQ2:(Tryz.prog.info? 136).map (fun i=>(i.zero,i.size,i.bytes))=some (some (kc #[O J 0,O J 0,O J 0,O J 0,O J 0,O J 0,U none 0 0]),7,72):=by kernel_rfl

structure ApartS (w:I) (base:Nat) (ob:Option Nat) (x:Stp):Prop where
 row:al w x.p x.l
 len:x.l.length<=maxLen
 nil:x.p=none->x.n=0
 own:∀a,x.p=some a->base<=a.block/\a.block<w.heap.size/\ob≠some a.block
structure OwnS (w:I) (base:Nat) (v:ik) (l:List Stp):Prop where
 own:ae jT 7 136 w base v l
 each:∀x∈l,ApartS w base v.ownBlock x
theorem OwnS.nil (w:I) (base:Nat):OwnS w base (U none 0 0) []:=⟨ae.nil _ _ _ _ _,fun x f=>by cases f⟩
theorem ApartS.below {w w':I} {base:Nat} {g:Option Nat} {x:Stp} (h:ApartS w base g x) (q:Z w.heap.size w w'):ApartS w' base g x :=
 ⟨h.row.below q,h.len,h.nil,fun a f=>⟨(h.own a f).1,nL (h.own a f).2.1 q.size,(h.own a f).2.2⟩⟩
theorem OwnS.below {w w':I} {base:Nat} {v:ik} {l:List Stp} (h:OwnS w base v l) (q:Z w.heap.size w w'):OwnS w' base v l:=⟨h.own.below q,fun x f=>(h.each x f).below q⟩
theorem OwnS.gr {w w':I} {base:Nat} {v:ik} {l:List Stp} (h:OwnS w base v l) (q:Gr w w'):OwnS w' base v l:=h.below q.below
theorem OwnS.stps {w:I} {base:Nat} {v:ik} {l:List Stp} (h:OwnS w base v l):∃A cap,v= U A l.length cap/\(A=none->cap=0)/\Stps w A l:=by
 obtain ⟨A,cap,k,g,j,n⟩:=h.own.row kA
 exact ⟨A,cap,k,g,⟨j,fun x f=>⟨(h.each x f).row,(h.each x f).len,(h.each x f).nil⟩⟩⟩
def NwQ (n:Nat) (A:Option ic) (q:List Stp):Prop:=(∀a,A=some a->n<=a.block)/\∀s∈q,∀a,s.p=some a->n<=a.block
theorem OwnS.nw {w:I} {base c:Nat} {A:Option ic} {l:List Stp} (h:OwnS w base (U A l.length c) l):NwQ base A l:=⟨fun a f=>(World.ownsRow.lt h.own a.block (by rw[f];rfl)).1,fun s g a f=>((h.each s g).own a f).1⟩
theorem ApartS.grown {w w':I} {base:Nat} {u f:Option Nat} {x:Stp} (h:ApartS w base u x) (q:w.grownBy w' u) (r:f=u\/f=some w.heap.size):ApartS w' base f x:=by
 refine ⟨?_,h.len,h.nil,fun a g=>⟨(h.own a g).1,nL (h.own a g).2.1 q.size,?_⟩⟩
 ·rcases h.row with k|⟨b,off,hp,hb,hc⟩
  ·exact oL k
  ·refine oR ⟨b,off,hp,nL hb q.size,fun j C i hi=> ?_⟩
   have n:=(h.own _ hp).2.2
   rw[World.cell?_of_block (a:=⟨b,off+j*1+i,none⟩) (q.block b hb fun e=>n e.symm)]
   exact hc j C i hi
 ·rcases r with e|e
  ·rw[e];exact (h.own a g).2.2
  ·rw[e]
   intro k
   injection k with k
   have:=(h.own a g).2.1
   omega
theorem oW (w:I) (L:TypeId) (base:Nat) (v:ik) (l:List Stp) (x:Stp) (A:ic) (cap:Nat) (g:OwnS w base v l) (hr:az jT 7 w (some A) [x]) (hx:ApartS w base v.ownBlock x)
  (n:l.length+1<=maxLen) (hb:(l.length+1)*72<=140737488355328) (f:base<=w.heap.size) :
  ∃h w',(Builtin.append_ #[58,58] L #[v,U (some A) 1 cap]).run H w= .ok h w'/\OwnS w' base h (l++[x])/\Z base w w'/\w.grownBy w' v.ownBlock:=by
 obtain ⟨i0,hi,r,C,E⟩:=info_parts Tryz.infoQ2
 obtain ⟨h,w',R,g2,j,_,F⟩:=run_append_own_at (P:=H) w base 58 L 136 i0 (kc #[O J 0,O J 0,O J 0,O J 0,O J 0,O J 0,U none 0 0]) 7 72 Tryz.underlying58 hi r C E rfl (by omega) v l.length (aL jT l) g.own A 1 cap (aL jT [x]) (aW kA [x]) (hr.cells kA (by omega)) (fun u hu=>ec zn u [x] hu) n hb f
 refine ⟨h,w',R,⟨?_,fun y hy=> ?_⟩,ae.grown_below g.own j f,j⟩
 ·show w'.ownsRow base _ 7 h (l++[x]).length (aL jT (l++[x]))
  rw[List.length_append,cH]
  exact g2
 ·rcases List.mem_append.1 hy with k|k
  ·exact (g.each y k).grown j F
  ·have:y=x:=by simpa using k
   subst this
   exact hx.grown j F
theorem gK (w:I) {ops:Array Oper} {f:List Oper} {o:Oper} {a:Act} {Q:Exit->Act->I->Prop} (n:o.guard=none) (s z:Operand)
  (R:o.op= .call { callee:= .builtin .append,args:= #[s,z],argTypes:= #[58,58] })
  (base:Nat) (v:ik) (l:List Stp) (x:Stp) (A:ic) (cap:Nat) (hs:a.eval s=v) (hz:a.eval z= U (some A) 1 cap) (j:OwnS w base v l) (u:az jT 7 w (some A) [x]) (hx:ApartS w base v.ownBlock x)
  (r:l.length+1<=maxLen) (L:(l.length+1)*72<=140737488355328) (g:base<=w.heap.size)
  (h:∀k w',OwnS w' base k (l++[x])->Z base w w'->wpList H ops Q f (a.put o.dst k) w'):wpList H ops Q (o::f) a w :=
 wpList_plain n fun _ F=>by
  obtain ⟨k,w',u,C,E,_⟩:=oW w o.type base v l x A cap j u hx r L g
  unfold Oper.wp execOp
  simp only[R,resolve,invoke,builtin,Sem.run_bind,Sem.run_pure,Result.andThen_ok,List.map_toArray,List.map_cons,List.map_nil,hs,hz,u]
  exact F _ _ (h k w' C E)


theorem mj:∀(q:List Stp) (f:List Int),(∀x∈f,0<=x/\x<=8)->f.length+q.length<=8->(cK q f).isSome=true->∀s∈q,s.l.length<=8
 | [],_,_,_,_=>fun s j=>by cases j
 | s::t,f,h1,h2,h3=>by
  have g:(if aE s f=0 then none else cK t (f++[aE s f])).isSome=true:=h3
  by_cases e:aE s f=0
  ·rw[if_pos e] at g;cases g
  ·rw[if_neg e] at g
   have h:=uR s h1
   have ih:=mj t (f++[aE s f]) (fun x r=>by
    rcases List.mem_append.1 r with k|k
    ·exact h1 x k
    ·rw[List.mem_singleton.1 k];exact h) (by simp at h2 ⊢;omega) g
   intro u n
   rcases List.mem_cons.1 n with k|k
   ·subst k
    simp at h2
    exact (qo e (by omega) h1).l.1
   ·exact ih u k
theorem tM {q:List Stp} (h:bu q=0):q.length<=8/\∀s∈q,s.l.length<=8:=by
 obtain ⟨k,f,g⟩:=ft h
 exact ⟨f,mj q [] (fun x j=>by cases j) (by simpa using f) g⟩
def CH (n m:Nat) (C:Option ic) (q:List Stp):Prop:=(∀a,C=some a->n<=a.block/\a.block<m)/\∀s∈q,∀a,s.p=some a->n<=a.block/\a.block<m
theorem Ar {W:I} {s:Stp} {C:Option ic} {c:Nat}:az jT 7 (W.alloc (ib #[O J s.k,O J s.a,O J s.b,O J s.c,O J s.o,O J s.v,U C s.l.length c] 136)) (some ⟨W.heap.size,0,none⟩) [{ s with p:=C,n:=c }]:=by
 refine oR ⟨W.heap.size,0,rfl,by simp,fun j f i hi=> ?_⟩
 obtain rfl:j=0:=by simp at f;omega
 rw[show 0+0*7+i=i by omega]
 match i,hi with
 | 0,_=>exact aa (w:=W) (gR _) rfl
 | 1,_=>exact aa (w:=W) (gR _) rfl
 | 2,_=>exact aa (w:=W) (gR _) rfl
 | 3,_=>exact aa (w:=W) (gR _) rfl
 | 4,_=>exact aa (w:=W) (gR _) rfl
 | 5,_=>exact aa (w:=W) (gR _) rfl
 | 6,_=>exact aa (w:=W) (gR _) rfl
theorem wF {q:List Stp} {k:Nat} (h:k<q.length) {s f:Stp} (n:q[k]=s) {r:List Stp} (j:r.map bare=(q.take k).map bare) (g:bare f=bare s):(r++[f]).map bare=(q.take (k+1)).map bare:=by
 rw[List.take_succ_eq_append_getElem h,List.map_append,List.map_append,j,n]
 simp[g]

theorem wE (q:List Stp) (A:Option ic) (ca:Nat) (w:I) (hl:q.length<=8) (hs:∀s∈q,s.l.length<=8) (hq:Stps w A q) :
  ia H 169 #[U A q.length ca] w fun e w'=>∃(q':List Stp) (C:Option ic) (k:Nat),e= D (U C q'.length k)/\q'.map bare=q.map bare/\Stps w' C q'/\(C=none->k=0)/\CH w.heap.size w'.heap.size C q'/\Z w.heap.size w w':=by
 have hH:=ja2 hq hs
 clear hq hs
 go_enter Tryz.func169,Tryz.ntmps169
 go_wp2
 go_loopw [3,8] (fun u i wr=>∃(k:Nat) (r:List Stp),k<=q.length/\i= O J k/\K (r.map bare=(q.take k).map bare/\OwnS wr w.heap.size u r/\Z w.heap.size w wr)) (fun _ i _=>q.length-(intOf i).toNat)
 case atStart=>exact ⟨0,[],nZ _,rfl,rfl,OwnS.nil _ _,bR _ _⟩
 case round =>
  obtain ⟨k,r,hk,rfl,hR⟩:=hrel
  have bl:K (r.length=k):=by
   have:=congrArg List.length hR.out.1
   simp at this
   show _=_
   omega
  by_cases g:k<q.length
  ·have be:(k:Int)<(q.length:Int):=by omega
   have hI:=ja1 (hH.out.1.below hR.out.2.2)
   obtain ⟨bb,ah,rfl,hb,R⟩:=hI.out.at g
   obtain ⟨s,hs⟩:∃s,q[k]=s:=⟨_,rfl⟩
   have a6:s∈q:=by rw[<-hs];exact gM g
   have bN:s.l.length<=8:=hH.out.2 s a6
   have bn:=ja1 (hI.out.each s a6)
   have bC:K (∀s',bare s'=bare s->(r++[s']).map bare=(q.take (k+1)).map bare):=fun s' h=>wF g hs hR.out.1 h
   rw[hs] at R
   have m0:wr.cell? ⟨bb,ah+k*7,none⟩=some (O J s.k):=R 0 (by omega)
   have m1:wr.cell? ⟨bb,ah+k*7+1,none⟩=some (O J s.a):=R 1 (by omega)
   have m2:wr.cell? ⟨bb,ah+k*7+2,none⟩=some (O J s.b):=R 2 (by omega)
   have m3:wr.cell? ⟨bb,ah+k*7+3,none⟩=some (O J s.c):=R 3 (by omega)
   have m4:wr.cell? ⟨bb,ah+k*7+4,none⟩=some (O J s.o):=R 4 (by omega)
   have m5:wr.cell? ⟨bb,ah+k*7+5,none⟩=some (O J s.v):=R 5 (by omega)
   have m6:wr.cell? ⟨bb,ah+k*7+6,none⟩=some (U s.p s.l.length s.n):=R 6 (by omega)
   obtain ⟨F,L⟩:∃F,(wr.alloc (ib (ja8 s) 136))=F:=⟨_,rfl⟩
   have a4:K (Gr wr F):=by show Gr _ _;rw[<-L];exact (gR _).alloc _
   have ao:K (wr.heap.size<F.heap.size):=by show _<_;rw[<-L];simp
   have x0:F.cell? ⟨wr.heap.size,0,none⟩=some (O J s.k):=by rw[<-L];exact aa (w:=wr) (gR _) rfl
   have x1:F.cell? ⟨wr.heap.size,1,none⟩=some (O J s.a):=by rw[<-L];exact aa (w:=wr) (gR _) rfl
   have x2:F.cell? ⟨wr.heap.size,2,none⟩=some (O J s.b):=by rw[<-L];exact aa (w:=wr) (gR _) rfl
   have x3:F.cell? ⟨wr.heap.size,3,none⟩=some (O J s.c):=by rw[<-L];exact aa (w:=wr) (gR _) rfl
   have x4:F.cell? ⟨wr.heap.size,4,none⟩=some (O J s.o):=by rw[<-L];exact aa (w:=wr) (gR _) rfl
   have x5:F.cell? ⟨wr.heap.size,5,none⟩=some (O J s.v):=by rw[<-L];exact aa (w:=wr) (gR _) rfl
   have x6:F.cell? ⟨wr.heap.size,6,none⟩=some (U s.p s.l.length s.n):=by rw[<-L];exact aa (w:=wr) (gR _) rfl
   have f6:F.frozen? ⟨wr.heap.size,6,none⟩=false:=by rw[<-L];exact f9 (w:=wr) (gR _) 6
   have hap:K (al F s.p s.l/\(s.p=none->s.n=0)/\0+s.l.length<=maxLen/\(0+s.l.length)*8<=140737488355328):=⟨bn.out.1.gr a4.out,bn.out.2.2,by unfold maxLen;omega,by omega⟩
   clear R hs a6
   have bs:K (∀f,Z F.heap.size F f->∀v,(f.setCell ⟨wr.heap.size,6,none⟩ v).cell? ⟨wr.heap.size,0,none⟩=some (O J s.k)/\(f.setCell ⟨wr.heap.size,6,none⟩ v).cell? ⟨wr.heap.size,1,none⟩=some (O J s.a)/\(f.setCell ⟨wr.heap.size,6,none⟩ v).cell? ⟨wr.heap.size,2,none⟩=some (O J s.b)/\(f.setCell ⟨wr.heap.size,6,none⟩ v).cell? ⟨wr.heap.size,3,none⟩=some (O J s.c)/\(f.setCell ⟨wr.heap.size,6,none⟩ v).cell? ⟨wr.heap.size,4,none⟩=some (O J s.o)/\(f.setCell ⟨wr.heap.size,6,none⟩ v).cell? ⟨wr.heap.size,5,none⟩=some (O J s.v)/\(f.setCell ⟨wr.heap.size,6,none⟩ v).cell? ⟨wr.heap.size,6,none⟩=some v):=fun f h v=>by
    have hc:∀i u,F.cell? ⟨wr.heap.size,i,none⟩=some u->f.cell? ⟨wr.heap.size,i,none⟩=some u:=fun i u e=>(h.cell (p:=⟨wr.heap.size,i,none⟩) ao.out).trans e
    have ho:∀i:Nat,i<6->(f.setCell ⟨wr.heap.size,6,none⟩ v).cell? ⟨wr.heap.size,i,none⟩=f.cell? ⟨wr.heap.size,i,none⟩:=fun i hi=>World.cell?_setCell_other _ _ _ _ (by intro e;injection e with _ e;omega)
    exact ⟨(ho 0 (by omega)).trans (hc 0 _ x0),(ho 1 (by omega)).trans (hc 1 _ x1),(ho 2 (by omega)).trans (hc 2 _ x2),(ho 3 (by omega)).trans (hc 3 _ x3),(ho 4 (by omega)).trans (hc 4 _ x4),(ho 5 (by omega)).trans (hc 5 _ x5),World.cell?_setCell_same _ _ _ (hc 6 _ x6)⟩
   have bt:K (∀f C c,Z F.heap.size F f->al f C s.l->(C=none->c=0)->(∀a,C=some a->F.heap.size<=a.block/\a.block<f.heap.size)->∀w4,f.setCell ⟨wr.heap.size,6,none⟩ (U C s.l.length c)=w4 ->
     OwnS (w4.alloc (ib #[O J s.k,O J s.a,O J s.b,O J s.c,O J s.o,O J s.v,U C s.l.length c] 136)) w.heap.size u3 r/\az jT 7 (w4.alloc (ib #[O J s.k,O J s.a,O J s.b,O J s.c,O J s.o,O J s.v,U C s.l.length c] 136)) (some ⟨w4.heap.size,0,none⟩) [{ s with p:=C,n:=c }]/\ApartS (w4.alloc (ib #[O J s.k,O J s.a,O J s.b,O J s.c,O J s.o,O J s.v,U C s.l.length c] 136)) w.heap.size u3.ownBlock { s with p:=C,n:=c }/\(r.length+1<=maxLen/\(r.length+1)*72<=140737488355328)/\Z w.heap.size w (w4.alloc (ib #[O J s.k,O J s.a,O J s.b,O J s.c,O J s.o,O J s.v,U C s.l.length c] 136))):=fun f C c ad an hC g w4 a2=>by
    subst a2
    have a9:Z wr.heap.size wr (f.setCell ⟨wr.heap.size,6,none⟩ (U C s.l.length c)):=(a4.out.below.trans (ad.mono a4.out.size)).setCell (nR _) _
    have bc:=a9.alloc a9.size (ib #[O J s.k,O J s.a,O J s.b,O J s.c,O J s.o,O J s.v,U C s.l.length c] 136)
    have a5:al (f.setCell ⟨wr.heap.size,6,none⟩ (U C s.l.length c)) C s.l:=by
     rcases an with e|⟨b,o,hA,hb,hc⟩
     ·exact oL e
     ·refine oR ⟨b,o,hA,by simpa using hb,fun j hj i hi=> ?_⟩
      have h1:=(g _ hA).1
      have h2:=ao.out
      have h3:b≠wr.heap.size:=fun e=>by simp only at h1;omega
      rw[World.cell?_setCell_other _ _ _ _ (by intro e;injection e with e _;exact h3 e.symm)]
      exact hc j hj i hi
    have bl:=bl.out
    have b0:=hR.out.2.2.size
    have h2:=ao.out
    refine ⟨hR.out.2.1.below bc,Ar,⟨a5.gr ((gR _).alloc _),by show s.l.length<=_;unfold maxLen;omega,hC,fun a ha=>⟨?_,?_,?_⟩⟩,⟨by unfold maxLen;omega,by omega⟩,hR.out.2.2.trans (bc.mono hR.out.2.2.size)⟩
    ·have h1:=(g a ha).1;omega
    ·have h1:=(g a ha).2;simp;omega
    ·intro e
     have h1:=(g a ha).1
     have h3:=(World.ownsRow.lt hR.out.2.1.own a.block e).2
     omega
   go_wp2_with (first|(at_builtin;refine aJ _ rfl (.const (U none 0 0)) (.tmp 13) rfl F.heap.size (U none 0 0) [] s.l s.p s.n rfl rfl (ae.nil _ _ _ _ _) hap.out.1 hap.out.2.1 hap.out.2.2.1 hap.out.2.2.2 (nR _) ?_;intro v1 f a0 a3;obtain ⟨C,c,rfl,hC,an,g⟩:=ae.row bS a0;have ad:Z F.heap.size F f:=cW a3;have y6:f.cell? ⟨wr.heap.size,6,none⟩=some (U s.p s.l.length s.n):=(ad.cell (p:=⟨wr.heap.size,6,none⟩) ao.out).trans x6;have g6:f.frozen? ⟨wr.heap.size,6,none⟩=false:=(ad.frozen (p:=⟨wr.heap.size,6,none⟩) ao.out).trans f6;obtain ⟨w4,a2⟩:∃W,f.setCell ⟨wr.heap.size,6,none⟩ (U C s.l.length c)=W:=⟨_,rfl⟩;have bh:=bt.out f C c ad (by simpa using an) hC g w4 a2;have E:K _:=bh;obtain ⟨z0,z1,z2,z3,z4,z5,z6⟩:=bs.out f ad (U C s.l.length c);rw[a2] at z0 z1 z2 z3 z4 z5 z6;clear a0 a3 hC an g ad bh)|(at_builtin;refine gK _ rfl (.tmp 16) (.tmp 18) rfl w.heap.size u3 r { s with p:=C,n:=c } ⟨w4.heap.size,0,none⟩ 1 rfl rfl E.out.1 E.out.2.1 E.out.2.2.1 E.out.2.2.2.1.1 E.out.2.2.2.1.2 E.out.2.2.2.2.size ?_;intro v5 w5 a1 ba))
   have ap:K ((r++[{ s with p:=C,n:=c }]).map bare=(q.take (k+1)).map bare/\OwnS w5 w.heap.size v5 (r++[{ s with p:=C,n:=c }])/\Z w.heap.size w w5):=⟨bC.out _ rfl,a1,E.out.2.2.2.2.trans ba⟩
   clear a1 ba
   go_roundw
   case rel=>exact ⟨k+1,r++[{ s with p:=C,n:=c }],by omega,by go_num,ap⟩
   case measure=>simp[intOf];omega
  ·have be:¬(k:Int)<(q.length:Int):=by omega
   have bd:q.take k=q:=List.take_of_length_le (by omega)
   obtain ⟨C,cap,hv,hC,bo⟩:=hR.out.2.1.stps
   obtain ⟨C',bG,a7,_,_,a8⟩:=hR.out.2.1.own.row kA
   have ap:K (r.map bare=q.map bare/\Stps wr C r/\(C=none->cap=0)/\CH w.heap.size wr.heap.size C r/\Z w.heap.size w wr):=by
    have h1:=hR.out.1
    rw[bd] at h1
    have bp:C=C':=by rw[hv] at a7;injection a7
    exact ⟨h1,bo,hC,⟨fun a ha=>a8 a (by rw[<-bp];exact ha),fun x hx a ha=>⟨((hR.out.2.1.each x hx).own a ha).1,((hR.out.2.1.each x hx).own a ha).2.1⟩⟩,hR.out.2.2⟩
   subst hv
   clear bd hC bo a7 a8
   go_wp2
   go_ret
   exact ⟨r,C,cap,rfl,ap.out⟩

def PIn {α : Type} (P:Nat->Prop) (A:Option ic) (l:List α):Prop:=∀a,A=some a->l≠[]->P a.block
theorem PIn.mono {α : Type} {P Q:Nat->Prop} {A:Option ic} {l:List α} (h:PIn P A l) (k:∀b,P b->Q b):PIn Q A l:=fun a f g=>k _ (h a f g)
structure Agr (P:Nat->Prop) (w w':I):Prop where
 size:w.heap.size<=w'.heap.size
 block:∀b,P b->b<w.heap.size->w'.heap[b]? = w.heap[b]?
theorem Agr.refl (P:Nat->Prop) (w:I):Agr P w w:=⟨nR _,fun _ _ _=>rfl⟩
theorem Agr.trans {P:Nat->Prop} {a b c:I} (h:Agr P a b) (k:Agr P b c):Agr P a c:=⟨nT h.size k.size,fun g f j=>(k.block g f (nL j h.size)).trans (h.block g f j)⟩
theorem Agr.of {P:Nat->Prop} {w w':I} (h:Z w.heap.size w w'):Agr P w w':=⟨h.size,fun b _ f=>h.block b f⟩
theorem Agr.mono {P Q:Nat->Prop} {w w':I} (h:Agr Q w w') (k:∀b,P b->Q b):Agr P w w':=⟨h.size,fun b f=>h.block b (k b f)⟩
theorem az.agr {α : Type} {enc: α -> List ik} {k:Nat} {P:Nat->Prop} {w w':I} {A:Option ic} {l:List α} (h:az enc k w A l) (g:PIn P A l) (q:Agr P w w'):az enc k w' A l:=by
 rcases h with h|⟨b,off,hA,hb,hc⟩
 ·exact oL h
 ·by_cases f:l=[]
  ·exact oL f
  ·refine oR ⟨b,off,hA,nL hb q.size,fun j n i hi=> ?_⟩
   rw[World.cell?_of_block (a:=⟨b,off+j*k+i,none⟩) (q.block b (g _ hA f) hb)]
   exact hc j n i hi
theorem Row.agr {P:Nat->Prop} {w w':I} {A:Option ic} {l:List (Int×Int)} (h:Row w A l) (g:PIn P A l) (q:Agr P w w'):Row w' A l:=by
 rcases h with h|⟨b,off,hA,hb,hc⟩
 ·exact oL h
 ·by_cases f:l=[]
  ·exact oL f
  ·refine oR ⟨b,off,hA,nL hb q.size,fun j k=> ?_⟩
   rw[World.cell?_of_block (a:=⟨b,off+j*2,none⟩) (q.block b (g _ hA f) hb),World.cell?_of_block (a:=⟨b,off+j*2+1,none⟩) (q.block b (g _ hA f) hb)]
   exact hc j k
structure LvP (P:Nat->Prop) (w:I) (A:Option ic) (c:Nat) (l:List Itm):Prop where
 lv:Lv w A c l
 arr:PIn P A l
 rows:∀x∈l,PIn P x.p x.r
theorem LvP.agr {P:Nat->Prop} {w w':I} {A:Option ic} {c:Nat} {l:List Itm} (h:LvP P w A c l) (q:Agr P w w'):LvP P w' A c l :=
 ⟨⟨⟨h.lv.items.row.agr h.arr q,fun x f=>⟨(h.lv.items.each x f).1.agr (h.rows x f) q,(h.lv.items.each x f).2⟩⟩,h.lv.nilc,h.lv.len⟩,h.arr,h.rows⟩
theorem LvP.below {P:Nat->Prop} {w w':I} {A:Option ic} {c:Nat} {l:List Itm} (h:LvP P w A c l) (q:Z w.heap.size w w'):LvP P w' A c l:=h.agr (Agr.of q)
theorem LvP.mono {P Q:Nat->Prop} {w:I} {A:Option ic} {c:Nat} {l:List Itm} (h:LvP P w A c l) (k:∀b,P b->Q b):LvP Q w A c l:=⟨h.lv,h.arr.mono k,fun x f=>(h.rows x f).mono k⟩
theorem LvP.none (P:Nat->Prop) (w:I):LvP P w none 0 []:=⟨⟨⟨oL rfl,fun x f=>(by cases f)⟩,cV.mk (fun _=>rfl) (nZ _),nZ _⟩,fun a g=>(by cases g),fun x f=>(by cases f)⟩
theorem LvP.new {w:I} {A:Option ic} {c n:Nat} {l:List Itm} (h:Lv w A c l) (k:jP n A l):LvP (fun b=>n<=b/\b<w.heap.size) w A c l :=
 ⟨h,fun a f g=>⟨k.1 a f,h.items.row.lt a f g⟩,fun x j a f g=>⟨k.2 x j a f,(h.items.each x j).1.lt a f g⟩⟩
theorem LvP.all {w:I} {A:Option ic} {c:Nat} {l:List Itm} (h:Lv w A c l):LvP (fun b=>b<w.heap.size) w A c l :=
 ⟨h,fun a f g=>h.items.row.lt a f g,fun x j a f g=>(h.items.each x j).1.lt a f g⟩
structure StP (P:Nat->Prop) (w:I) (A:Option ic) (q:List Stp):Prop where
 st:Stps w A q
 arr:PIn P A q
 rows:∀s∈q,PIn P s.p s.l
theorem StP.agr {P:Nat->Prop} {w w':I} {A:Option ic} {q:List Stp} (h:StP P w A q) (k:Agr P w w'):StP P w' A q :=
 ⟨⟨h.st.row.agr h.arr k,fun x f=>⟨(h.st.each x f).1.agr (h.rows x f) k,(h.st.each x f).2⟩⟩,h.arr,h.rows⟩
theorem StP.below {P:Nat->Prop} {w w':I} {A:Option ic} {q:List Stp} (h:StP P w A q) (k:Z w.heap.size w w'):StP P w' A q:=h.agr (Agr.of k)
theorem StP.mono {P Q:Nat->Prop} {w:I} {A:Option ic} {q:List Stp} (h:StP P w A q) (k:∀b,P b->Q b):StP Q w A q:=⟨h.st,h.arr.mono k,fun x f=>(h.rows x f).mono k⟩
theorem StP.new {w:I} {A:Option ic} {n m:Nat} {q:List Stp} (h:Stps w A q) (k:CH n m A q):StP (fun b=>n<=b/\b<m) w A q :=
 ⟨h,fun a f _=>k.1 a f,fun s g a f _=>k.2 s g a f⟩
def af (P:Nat->Prop) (m n:Nat):Nat->Prop:=fun b=>P b\/(m<=b/\b<n)
theorem af.old {P:Nat->Prop} {m n:Nat} (b:Nat) (h:P b):af P m n b:=oL h
theorem af.new {P:Nat->Prop} {m n f g:Nat} (j:m<=f) (k:g<=n) (b:Nat) (h:f<=b/\b<g):af P m n b:=oR ⟨nT j h.1,nL h.2 k⟩
theorem af.more {P:Nat->Prop} {m n f g:Nat} (j:f<=m) (r:n<=g) (b:Nat) (h:af P m n b):af P f g b:=h.elim oL fun k=>oR ⟨nT j k.1,nL k.2 r⟩
theorem af.two {P:Nat->Prop} {m n g f:Nat} (j:m<=g) (k:n<=f) (b:Nat) (h:af (af P m n) g f b):af P m f b:=by
 rcases h with (h|h)|h
 ·exact oL h
 ·exact oR ⟨h.1,by omega⟩
 ·exact oR ⟨by omega,h.2⟩

theorem lf {w:I} {V:Nat} {g:Array ik} {T:TypeId} {f:Nat×Nat} (h:w.heap[V]? = some (ib g T f)) (j:Nat):w.cell? ⟨V,j,none⟩=g[j]? := by simp[World.cell?,h]
theorem rV {w:I} {V:Nat} {f:Array ik} {T:TypeId} (h:w.heap[V]? = some (ib f T (0,0))) (j:Nat):w.frozen? ⟨V,j,none⟩=false:=by simp[World.frozen?,h]
def Blk (w:I) (V:Nat) (T:TypeId) (n:Nat):Prop:=∃cur,w.heap[V]? = some (ib cur T (0,0))/\cur.size=n
theorem Blk.lt {w:I} {V n:Nat} {T:TypeId} (h:Blk w V T n):V<w.heap.size:=by
 obtain ⟨f,g,_⟩:=h
 exact (Array.getElem?_eq_some_iff.1 g).1
theorem Blk.fz {w:I} {V n:Nat} {T:TypeId} (h:Blk w V T n) (j:Nat):w.frozen? ⟨V,j,none⟩=false:=by
 obtain ⟨f,g,_⟩:=h
 exact rV g j
theorem Blk.some {w:I} {V n:Nat} {T:TypeId} (h:Blk w V T n) {j:Nat} (k:j<n):∃v,w.cell? ⟨V,j,none⟩=some v:=by
 obtain ⟨f,g,r⟩:=h
 rw[lf g]
 exact ⟨f[j]'(by omega),Array.getElem?_eq_getElem (by omega)⟩
theorem Blk.below {w w':I} {V n:Nat} {T:TypeId} (h:Blk w V T n) (k:Z w.heap.size w w'):Blk w' V T n:=by
 obtain ⟨f,g,j⟩:=h
 exact ⟨f,(k.block V (Array.getElem?_eq_some_iff.1 g).1).trans g,j⟩
structure Wr (V lo hi:Nat) (w w':I):Prop where
 os:w'.os=w.os
 tape:w'.tape=w.tape
 output:w'.output=w.output
 size:w.heap.size<=w'.heap.size
 oth:∀g,g<w.heap.size->g≠V->w'.heap[g]? = w.heap[g]?
 blk:∀(cur:Array ik) (T:TypeId),w.heap[V]? = some (ib cur T (0,0))->∃cur':Array ik,w'.heap[V]? = some (ib cur' T (0,0))/\cur'.size=cur.size/\∀j,(j<lo\/hi<=j)->cur'[j]? = cur[j]?
theorem Wr.refl (V lo hi:Nat) (w:I):Wr V lo hi w w:=⟨rfl,rfl,rfl,nR _,fun _ _ _=>rfl,fun f _ h=>⟨f,h,rfl,fun _ _=>rfl⟩⟩
theorem Wr.trans {V lo hi:Nat} {a b c:I} (h:Wr V lo hi a b) (k:Wr V lo hi b c):Wr V lo hi a c :=
 ⟨k.os.trans h.os,k.tape.trans h.tape,k.output.trans h.output,nT h.size k.size,fun g n u=>(k.oth g (nL n h.size) u).trans (h.oth g n u),fun f ad hc=>by
  obtain ⟨C,F,L,R⟩:=h.blk f ad hc
  obtain ⟨E,k1,k2,k3⟩:=k.blk C ad F
  exact ⟨E,k1,k2.trans L,fun j r=>(k3 j r).trans (R j r)⟩⟩
theorem Wr.of {V lo hi:Nat} {w w':I} (h:Z w.heap.size w w') (_hV:V<w.heap.size):Wr V lo hi w w' :=
 ⟨h.os,h.tape,h.output,h.size,fun g hg _=>h.block g hg,fun cur _ hc=>⟨cur,(h.block V (Array.getElem?_eq_some_iff.1 hc).1).trans hc,rfl,fun _ _=>rfl⟩⟩
theorem Wr.mono {V lo hi g f:Nat} {w w':I} (h:Wr V lo hi w w') (F:g<=lo) (L:hi<=f):Wr V g f w w' :=
 ⟨h.os,h.tape,h.output,h.size,h.oth,fun k ad r=>by
  obtain ⟨n,u,C,E⟩:=h.blk k ad r
  exact ⟨n,u,C,fun j R=>E j (by omega)⟩⟩
theorem Wr.set {V lo hi j:Nat} (w:I) (v:ik) (r:lo<=j) (u:j<hi):Wr V lo hi w (w.setCell ⟨V,j,none⟩ v):=by
 refine ⟨rfl,rfl,rfl,by simp,fun g _ n=>Below.heap_setCell _ _ _ _ n,fun f C h=>⟨f.setIfInBounds j v,?_,by simp,fun i k=> ?_⟩⟩
 ·show (w.heap.modify V _)[V]? = _
  rw[Array.getElem?_modify,if_pos rfl,h]
  rfl
 ·rw[Array.getElem?_setIfInBounds,if_neg (by omega)]
theorem Wr.grown {V lo hi:Nat} {w w':I} (h:Wr V lo hi w w'):w.grownBy w' (some V):=⟨h.os,h.tape,h.output,h.size,fun g f j=>h.oth g f fun e=>j (by rw[e])⟩
theorem Wr.agr {V lo hi:Nat} {w w':I} {P:Nat->Prop} (h:Wr V lo hi w w') (f:¬P V):Agr P w w':=⟨h.size,fun b g j=>h.oth b j fun e=>f (e▸g)⟩
theorem Wr.cell {V lo hi n:Nat} {w w':I} {T:TypeId} (h:Wr V lo hi w w') (k:Blk w V T n) {j:Nat} (r:j<lo\/hi<=j):w'.cell? ⟨V,j,none⟩=w.cell? ⟨V,j,none⟩:=by
 obtain ⟨f,g,_⟩:=k
 obtain ⟨E,u,_,C⟩:=h.blk f T g
 rw[lf u,lf g]
 exact C j r
theorem Wr.block {V lo hi n:Nat} {w w':I} {T:TypeId} (h:Wr V lo hi w w') (j:Blk w V T n):Blk w' V T n:=by
 obtain ⟨f,k,r⟩:=j
 obtain ⟨g,u,C,_⟩:=h.blk f T k
 exact ⟨g,u,C.trans r⟩
theorem cG {w:I} {V i j:Nat} {v:ik} (h:i≠j):(w.setCell ⟨V,i,none⟩ v).cell? ⟨V,j,none⟩=w.cell? ⟨V,j,none⟩:=World.cell?_setCell_other _ _ _ _ (by intro e;injection e with _ e;exact h e)
end Go.Proofs.YtjmmpnmgpgaagaaGreatDoor
