import Derived.Test.YtjmmpnmgpgaagaaGreatDoorM31
set_option maxRecDepth 100000
set_option maxHeartbeats 8000000
open Go.Proofs.Tryz renaming prog → V
open Go.Value renaming string → I, int → S
namespace Go.Proofs.YtjmmpnmgpgaagaaGreatDoor
open Go.RowKit Go.Sort

theorem uD (x:List UInt8) (c:UInt8) (w:World):Calls V 9 #[I ⟨x.toArray⟩,I ⟨#[c]⟩] w fun e w'=>e= .returned (S .i64 (x.count c))/\w'=w:=by
 have f:=Any.strings_Count_one Tryz.lays138 ⟨x.toArray⟩ c w
 change Calls V 9 _ _ _ at f
 exact f
theorem Av (x:List UInt8):cP x=[]\/∃z,cP x=z++[10]:=by
 unfold cP
 by_cases f:65536<x.length
 ·rw[if_pos f];exact oR ⟨[101,114,114,111,114,32,50],by kernel_rfl⟩
 ·rw[if_neg f]
  by_cases g:200<(dy x).length
  ·rw[if_pos g];exact oR ⟨[101,114,114,111,114,32,50],by kernel_rfl⟩
  ·rw[if_neg g]
   have h:=kQ (l:=dy x) (by omega) _ (nR _)
   rw[List.take_length] at h
   exact h.2.2.1
def gP (L:List (List UInt8)) (k:Nat):Nat:=((L.take k).filter fun x=>l8 (bT x)).length
theorem wA {L:List (List UInt8)} {k:Nat} (h:k<L.length) {y:List UInt8} (f:L[k]=y):gP L (k+1)=if l8 (bT y)=true then gP L k+1 else gP L k:=by
 unfold gP
 rw[List.take_succ_eq_append_getElem h,f,List.filter_append,List.length_append]
 by_cases e:l8 (bT y)=true
 ·rw[if_pos e,List.filter_cons_of_pos (by exact e)];rfl
 ·rw[if_neg e,List.filter_cons_of_neg (by exact e)];rfl
theorem Bf (L:List (List UInt8)) (k:Nat):gP L k<=L.length:=by
 unfold gP
 have f:=List.length_filter_le (fun x=>l8 (bT x)) (L.take k)
 have g:=List.length_take_le' k L
 omega
theorem mP (x:List UInt8) (w:World) (hr:Reads w) (hx:x.length<=maxLen) :
  Calls V 4 #[I ⟨x.toArray⟩] w fun e w'=>e= .returned (.bool true)/\Below w.heap.size w w':=by
 have a4:=kP Df w hr (by unfold maxLen;decide)
 rw[Di] at a4
 have ad:=ja1 a4
 have bn:=ja1 hr
 have g:Hid (∀W,Below w.heap.size w W->Calls V 5 #[I ⟨x.toArray⟩] W fun e w'=>e= .returned (I ⟨(cP x).toArray⟩)/\Below W.heap.size W w'):=fun W hW=>kP x W (bn.out.below hW) hx
 have b5:x.length<=9223372036854775807:=by unfold maxLen at hx;exact hx
 clear a4 hr
 by_cases h1:65536<x.length
 ·have ba:(65536:Int)<(x.length:Int):=by omega
  have hO:cP x=[101,114,114,111,114,32,50,10]:=by unfold cP;rw[if_pos h1];kernel_rfl
  rw[hO] at g
  clear h1 hx hO
  go_enter Tryz.func4,Tryz.ntmps4
  go_wp2_with fail
  refine ja0 ad ?_
  rintro e w1 ⟨rfl,j⟩
  have hF:=ja1 j
  clear j ad
  go_wp2_with fail
  refine cM (g.out _ hF.out) ?_
  rintro e w2 ⟨rfl,f⟩
  have hG:=ja1 (hF.out.trans (f.mono hF.out.size))
  clear f g
  go_wp2
  go_ret
  exact ⟨rfl,hG.out⟩
 have ba:¬(65536:Int)<(x.length:Int):=by omega
 have ao:x.length<=65536:=by omega
 obtain ⟨L,hL⟩:∃L,dy x=L:=⟨_,rfl⟩
 have ah:Hid (∀W,Calls V 6 #[I ⟨x.toArray⟩] W fun e w'=>(∃A cap,e= .returned (.slice A L.length cap)/\cw w' A L)/\Below W.heap.size W w'):=fun W=>by rw[<-hL];exact nY x W ao
 by_cases h2:200<L.length
 ·have bc:(200:Int)<(L.length:Int):=by omega
  have hO:cP x=[101,114,114,111,114,32,50,10]:=by unfold cP;rw[if_neg h1,hL,if_pos h2];kernel_rfl
  rw[hO] at g
  clear h1 ao h2 hx hO hL
  go_enter Tryz.func4,Tryz.ntmps4
  go_wp2_with fail
  refine ja0 ad ?_
  rintro e w1 ⟨rfl,j⟩
  have hF:=ja1 j
  clear j ad
  go_wp2_with fail
  refine cM (g.out _ hF.out) ?_
  rintro e w2 ⟨rfl,f⟩
  have hG:=ja1 (hF.out.trans (f.mono hF.out.size))
  clear f g
  go_wp2_with fail
  refine cM (ah.out _) ?_
  rintro e w3 ⟨⟨A,cap,rfl,_⟩,f⟩
  have hI:=ja1 (hG.out.trans (f.mono hG.out.size))
  clear f ah
  go_wp2
  go_ret
  exact ⟨rfl,hI.out⟩
 have bc:¬(200:Int)<(L.length:Int):=by omega
 have a2:=ja1 (Av x)
 have a5:(cP x).length<=100000000:=by
  have h:=(kQ (l:=L) (by omega) _ (nR _)).2.1
  have e:cP x=(dZ L).2:=by unfold cP;rw[if_neg h1,hL,if_neg h2]
  rw[e]
  rw[List.take_length] at h
  omega
 have a1:Hid (gP L L.length<=(cP x).count 10):=by
  have h:=(kQ (l:=L) (by omega) _ (nR _)).2.2.2
  show _<=_
  have e:cP x=(dZ L).2:=by unfold cP;rw[if_neg h1,hL,if_neg h2]
  rw[e]
  rw[List.take_length] at h
  unfold gP
  rw[List.take_length]
  exact h
 have bd:Hid (∀y∈L,y.length<=65536):=fun y hy=>by
  rw[<-hL] at hy
  exact nT (pM hy) ao
 obtain ⟨O,hO⟩:∃O,cP x=O:=⟨_,rfl⟩
 rw[hO] at g a2 a1 a5
 clear h1 ao h2 hx hO hL
 go_enter Tryz.func4,Tryz.ntmps4
 go_wp2_with fail
 refine ja0 ad ?_
 rintro e w1 ⟨rfl,j⟩
 have hF:=ja1 j
 clear j ad
 go_wp2_with fail
 refine cM (g.out _ hF.out) ?_
 rintro e w2 ⟨rfl,f⟩
 have hG:=ja1 (hF.out.trans (f.mono hF.out.size))
 clear f g
 go_wp2_with fail
 refine cM (ah.out _) ?_
 rintro e w3 ⟨⟨A0,bp,rfl,_⟩,f⟩
 have hI:=ja1 (hG.out.trans (f.mono hG.out.size))
 clear f
 go_wp2_with fail
 refine cM (ah.out _) ?_
 rintro e w4 ⟨⟨A,cap,rfl,j⟩,f⟩
 have hJ:=ja2 j (hI.out.trans (f.mono hI.out.size))
 clear j f ah
 go_wp2
 go_loopw [4,26] (fun v4 v26 wr=>∃k:Nat,k<=L.length/\v4= S .i64 (gP L k:Nat)/\v26= S .i64 k/\Hid (cw wr A L/\Below w.heap.size w wr)) (fun _ v26 _=>L.length-(intOf v26).toNat)
 case atStart=>exact ⟨0,nZ _,rfl,rfl,hJ.out⟩
 case round =>
  obtain ⟨k,hk,rfl,rfl,hK⟩:=hrel
  by_cases ap:k<L.length
  rotate_left
  ·have hz:¬(k:Int)<(L.length:Int):=by omega
   obtain rfl:k=L.length:=by omega
   obtain ⟨N,hN⟩:∃N,gP L L.length=N:=⟨_,rfl⟩
   obtain ⟨C,hC⟩:∃C,O.count 10=C:=⟨_,rfl⟩
   have b3:(N:Int)<=(C:Int):=by have:=a1.out;rw[hN,hC] at this;omega
   have a6:Hid (∀W,Calls V 9 #[I ⟨O.toArray⟩,I ⟨#[10]⟩] W fun e w'=>e= .returned (S .i64 (C:Nat))/\w'=W):=fun W=>by rw[<-hC];exact uD O 10 W
   rw[hN]
   clear hN hC
   rcases a2.out with rfl|⟨z,hz2⟩
   ·go_wp2_with fail
    refine cM (a6.out _) ?_
    rintro e w5 ⟨rfl,rfl⟩
    go_wp2
    go_ret
    exact ⟨rfl,hK.out.2⟩
   ·obtain ⟨n,hn⟩:∃n,z.length=n:=⟨_,rfl⟩
    have bC:O.length=n+1:=by rw[hz2];simp[hn]
    have bs:(O==[])=false:=by rw[hz2];simp
    have bt:O.isEmpty=false:=by rw[hz2];simp
    have b4:n<=9223372036854775806:=by omega
    have R:(wrap64 (n:Int)).toNat=n:=by unfold wrap64;omega
    have be:∀h,((⟨O.toArray⟩:ByteArray)[(wrap64 (n:Int)).toNat]'h)=10:=fun h=>by
     have h2:O[n]'(by omega)=10:=by simp only[hz2];rw[List.getElem_append_right (by omega)];simp[hn]
     have h3:((⟨O.toArray⟩:ByteArray)[(wrap64 (n:Int)).toNat]'h)=((⟨O.toArray⟩:ByteArray)[n]'(by rw[<-R];exact h)):=by simp only[R]
     rw[h3,<-h2];rfl
    have bG:∀h,((⟨O.toArray⟩:ByteArray)[n]'h)=10:=fun h=>by
     have h2:O[n]'(by omega)=10:=by simp only[hz2];rw[List.getElem_append_right (by omega)];simp[hn]
     rw[<-h2];rfl
    clear hz2
    go_wp2_with fail
    refine cM (a6.out _) ?_
    rintro e w5 ⟨rfl,rfl⟩
    go_wp2
    go_ret
    exact ⟨by simp,hK.out.2⟩
  have b1:(k:Int)<(L.length:Int):=by omega
  obtain ⟨y,hy⟩:∃y,L[k]=y:=⟨_,rfl⟩
  obtain ⟨bb,bo,rfl,bN,a7⟩:=hK.out.1.at ap
  have c0:=a7 k ap 0 (by omega)
  rw[hy] at c0
  have c1:wr.cell? ⟨bb,bo+k,none⟩=some (I ⟨y.toArray⟩):=by simpa[g9] using c0
  have a9:y.length<=65536:=bd.out y (by rw[<-hy];exact gM ap)
  have b0:=Bf L k
  have u:=ja1 (wA ap hy)
  have hW:=ja1 (uC y wr a9)
  have R:∀a∈bT y,a≠[]:=fun a ha=>by
   have:=(List.mem_filter.1 ha).2
   simpa using this
  clear a7 c0 hy a9
  obtain ⟨ws,a8⟩:∃ws,bT y=ws:=⟨_,rfl⟩
  rw[a8] at u hW R
  clear a8
  cases ws with
  | nil =>
   have E:Hid (gP L (k+1)=gP L k):=by show _=_;rw[u.out,if_neg (by decide)]
   clear u R
   go_wp2_with fail
   refine ja0 hW ?_
   rintro e w5 ⟨⟨A2,a0,rfl,_⟩,f⟩
   have hM:=ja2 (hK.out.1.below f) (hK.out.2.trans (f.mono hK.out.2.size))
   clear f hW
   go_wp2
   go_roundw
   case rel=>exact ⟨k+1,by omega,by rw[E.out],by go_num,hM.out⟩
   case measure=>simp[intOf];omega
  | cons a r =>
   obtain ⟨c,t,rfl⟩:∃c t,a=c::t:=by
    cases a with
    | nil=>exact absurd rfl (R [] (mS ..))
    | cons c t=>exact ⟨c,t,rfl⟩
   have a3:l8 ((c::t)::r)= !(c==35):=by
    show (!fr (c::t) [35])=_
    unfold fr
    simp
   rw[a3] at u
   have be:((⟨(c::t).toArray⟩:ByteArray)[0]'(by simp[ByteArray.size]))=c:=rfl
   clear R a3
   obtain ⟨n,hn⟩:∃n,((c::t)::r).length=n:=⟨_,rfl⟩
   have n0:0<n:=by rw[<-hn];simp
   have n1:(0:Int)<(n:Int):=by omega
   rw[hn] at hW
   by_cases hc:c=35
   ·have E:Hid (gP L (k+1)=gP L k):=by show _=_;rw[u.out,hc];rfl
    have bl:((c.toNat:Int) != 35)=false:=by rw[hc];rfl
    clear u hc
    go_wp2_with fail
    refine ja0 hW ?_
    rintro e w5 ⟨⟨A2,a0,rfl,j⟩,f⟩
    obtain ⟨b2,an,rfl,bh,F⟩:=j.at (m:=0) (by simp)
    have d0:w5.cell? ⟨b2,an,none⟩=some (I ⟨(c::t).toArray⟩):=F 0 (by simp) 0 (by omega)
    have hM:=ja2 (hK.out.1.below f) (hK.out.2.trans (f.mono hK.out.2.size))
    clear j f hW F
    go_wp2
    go_roundw
    case rel=>exact ⟨k+1,by omega,by rw[E.out],by go_num,hM.out⟩
    case measure=>simp[intOf];omega
   ·have E:Hid (gP L (k+1)=gP L k+1):=by show _=_;rw[u.out,if_pos (by simp[hc])]
    have bl:((c.toNat:Int) != 35)=true:=by
     have:¬(c.toNat:Int)=35:=fun e=>hc (UInt8.toNat_inj.1 (by show c.toNat=35;omega))
     simpa using this
    clear u hc
    go_wp2_with fail
    refine ja0 hW ?_
    rintro e w5 ⟨⟨A2,a0,rfl,j⟩,f⟩
    obtain ⟨b2,an,rfl,bh,F⟩:=j.at (m:=0) (by simp)
    have d0:w5.cell? ⟨b2,an,none⟩=some (I ⟨(c::t).toArray⟩):=F 0 (by simp) 0 (by omega)
    have hM:=ja2 (hK.out.1.below f) (hK.out.2.trans (f.mono hK.out.2.size))
    clear j f hW F
    go_wp2
    go_roundw
    case rel=>exact ⟨k+1,by omega,by rw[E.out];go_num,by go_num,hM.out⟩
    case measure=>simp[intOf];omega
end Go.Proofs.YtjmmpnmgpgaagaaGreatDoor
