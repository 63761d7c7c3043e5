import Derived.Test.YtjmmpnmgpgaagaaGreatDoorM09
import Derived.Lib.Join
import Derived.Lib.JoinLaws
import Derived.Lib.Atoi
import Derived.Shelf.LaysC
import Derived.Shelf.Strings.Prefix
import Derived.Shelf.Strings.Shaped
import Derived.Shelf.Strings.SplitShaped
import Derived.Shelf.Strconv.Atoi
set_option maxRecDepth 100000
set_option maxHeartbeats 8000000
open Go renaming World → X, Calls → P, Value → N, Addr → d
open Go.Ending renaming returned → U
open Go.IntKind renaming i64 → H
open Go.Obj renaming cells → I
open Go.Proofs.Tryz renaming prog → V
open Go.RowKit renaming Hid → Z, Below → Y
open Go.Value renaming string → O, int → J, slice → D, pointer → ia
namespace Go.Proofs.YtjmmpnmgpgaagaaGreatDoor
open Go.RowKit Go.Sort

def j5 (o:Int):List UInt8:=if o=1 then [60] else if o=2 then [61] else if o=3 then [62] else []
theorem o7 (o:Int) (w:X):P V 146 #[J H o] w fun e w'=>e= U (O ⟨(j5 o).toArray⟩)/\w'=w:=by
 by_cases f:o=1
 ·subst f
  go_enter Tryz.func146,Tryz.ntmps146
  go_wp2
  go_ret
  exact ⟨rfl,rfl⟩
 by_cases g:o=2
 ·subst g
  go_enter Tryz.func146,Tryz.ntmps146
  go_wp2
  go_ret
  exact ⟨rfl,rfl⟩
 by_cases h:o=3
 ·subst h
  go_enter Tryz.func146,Tryz.ntmps146
  go_wp2
  go_ret
  exact ⟨rfl,rfl⟩
 have j:j5 o=[]:=by unfold j5;rw[if_neg f,if_neg g,if_neg h]
 have k:(o==1)=false:=beq_eq_false_iff_ne.2 f
 have n:(o==2)=false:=beq_eq_false_iff_ne.2 g
 have r:(o==3)=false:=beq_eq_false_iff_ne.2 h
 rw[j]
 clear f g h j
 go_enter Tryz.func146,Tryz.ntmps146
 go_wp2
 go_ret
 exact ⟨rfl,rfl⟩

def g9 (x:List UInt8):List N:=[O ⟨x.toArray⟩]
theorem du (x:List UInt8):(g9 x).length=1:=rfl
theorem rJ (x:List UInt8):∀u∈g9 x,u.oneCell'=true:=by
 intro u f
 simp[g9] at f
 subst f;rfl
abbrev cw (w:X) (A:Option d) (l:List (List UInt8)):Prop:=az g9 1 w A l
abbrev eJ (w:X) (base:Nat) (v:N) (l:List (List UInt8)):Prop:=ae g9 1 9 w base v l
theorem Tryz.infoX:(Tryz.prog.info? 9).map (fun i=>(i.zero,i.size,i.bytes))=some (some (O ⟨#[]⟩),1,16):=by kernel_rfl
theorem my {W:X} {n:Nat} (g:W.heap.size=n) (x:List UInt8) (T:TypeId):cw (W.alloc (I #[O ⟨x.toArray⟩] T)) (some ⟨n,0,none⟩) [x]:=by
 subst g
 refine oR ⟨W.heap.size,0,rfl,by simp,fun j f i hi=> ?_⟩
 obtain rfl:j=0:=by simp at f;omega
 obtain rfl:i=0:=by omega
 exact aa (w:=W) (gR _) (j:=0) rfl
theorem fj (w:X) {ops:Array Oper} {f:List Oper} {o:Oper} {a:Act} {Q:Exit->Act->X->Prop} (n:o.guard=none) (s x:Operand)
  (R:o.op= .call { callee:= .builtin .append,args:= #[s,x],argTypes:= #[23,23] })
  (base:Nat) (v:N) (l m:List (List UInt8)) (A:Option d) (cap:Nat) (hs:a.eval s=v) (hx:a.eval x= D A m.length cap) (j:eJ w base v l) (hr:cw w A m) (E:A=none->cap=0)
  (r:l.length+m.length<=maxLen) (L:(l.length+m.length)*16<=140737488355328) (g:base<=w.heap.size)
  (h:∀k w',eJ w' base k (l++m)->w.grownBy w' v.ownBlock->wpList V ops Q f (a.put o.dst k) w'):wpList V ops Q (o::f) a w :=
 wpList_plain n fun _ F=>cU du rJ (by omega) 23 Tryz.underlying23 (O ⟨#[]⟩) 16 Tryz.infoX rfl w s x R base v l m A cap hs hx j hr E r L g fun k w' u C=>F _ _ (h k w' u C)
theorem wl (l:List (List UInt8)):(l.map fun x=>(⟨x.toArray⟩:ByteArray)).map (·.data.toList)=l:=by
 induction l with
 | nil=>rfl
 | cons x t ih=>rw[List.map_cons,List.map_cons,ih]
theorem lK (l:List (List UInt8)) (f:List UInt8) (A:Option d) (c:Nat) (w:X) (E:l≠[]) (hr:cw w A l) (L:l.length<=c) (hl:l.length<=100000) (g:(Lib.join l f).length<=140737488355328) :
  P V 36 #[D A l.length c,O ⟨f.toArray⟩] w fun e w'=>e= U (O ⟨(Lib.join l f).toArray⟩)/\Y w.heap.size w w':=by
 have hp:0<l.length:=List.length_pos_iff.2 E
 obtain ⟨b,r,rfl,F,n⟩:=hr.at hp
 have u:=wl l
 have k:(l.map fun x=>(⟨x.toArray⟩:ByteArray)).length=l.length:=by simp
 have h:=Any.strings_Join Tryz.lays156 Tryz.extra156 b r c (l.map fun x=>(⟨x.toArray⟩:ByteArray)) ⟨f.toArray⟩ w (fun j x C=>by
  rw[List.getElem?_map] at C
  obtain ⟨y,hy,rfl⟩:=Option.map_eq_some_iff.1 C
  obtain ⟨R,rfl⟩:=List.getElem?_eq_some_iff.1 hy
  have:=n j R 0 (by omega)
  simpa[g9] using this) F (by rw[k];omega) (by rw[k];exact L) (by rw[u];exact g)
 rw[u,k] at h
 exact h

theorem jn (f:List UInt8) (m:Nat):∀l:List (List UInt8),(∀x∈l,x.length<=m)->(Lib.join l f).length<=l.length*(m+f.length)
 | [],_=>by simp[Lib.join,List.intercalate]
 | [x],h=>by
  have:=h x (by simp)
  rw[Lib.join_one];simp;omega
 | x::y::t,h=>by
  have k:=h x (by simp)
  have g:=jn f m (y::t) fun z j=>h z (mC _ j)
  have e:Lib.join (x::y::t) f=x++f++Lib.join (y::t) f:=by simp[Lib.join,List.intercalate,List.intersperse]
  rw[e,List.length_append,List.length_append]
  simp only[List.length_cons,Nat.succ_mul] at g ⊢
  omega
def zT (l:List Int):List UInt8:=Lib.join (l.map Lib.itoa) [44]

theorem oT (l:List Int) (A:Option d) (ca:Nat) (w:X) (h0:l≠[]) (hl:l.length<=8) (hs:∀x∈l,Small x) (hr:al w A l) (ht:dK w) :
  P V 147 #[D A l.length ca] w fun e w'=>e= U (O ⟨(zT l).toArray⟩)/\Y w.heap.size w w':=by
 have hH:=ja4 hr ht hs h0
 clear hr ht hs h0
 go_enter Tryz.func147,Tryz.ntmps147
 go_wp2
 go_loopw [3,8] (fun v i wr=>∃j:Nat,j<=l.length/\i= J H j/\Z (eJ wr w.heap.size v ((l.take j).map Lib.itoa)/\Y w.heap.size w wr)) (fun _ i _=>l.length-(intOf i).toNat)
 case atStart=>exact ⟨0,nZ _,rfl,ae.nil _ _ _ _ _,bR _ _⟩
 case round =>
  obtain ⟨j,hj,rfl,f⟩:=hrel
  by_cases r:j<l.length
  ·have a5:(j:Int)<(l.length:Int):=by omega
   have hr:al wr A l:=hH.out.1.below f.out.2
   obtain ⟨b,a8,rfl,hb,a0⟩:=hr.at r
   obtain ⟨x,hx⟩:∃x,l[j]=x:=⟨_,rfl⟩
   have e0:=a0 j r 0 (by omega)
   rw[hx] at e0
   have e1:wr.cell? ⟨b,a8+j,none⟩=some (J H x):=by simpa[df] using e0
   have a3:=gu (hH.out.2.2.1 x (by rw[<-hx];exact gM r)) (hH.out.2.1.below f.out.2)
   have E:Z _:=a3
   have ao:Z ((l.take (j+1)).map Lib.itoa=(l.take j).map Lib.itoa++[Lib.itoa x]):=by show _=_;rw[List.take_succ_eq_append_getElem r,hx];simp
   clear a0 e0 a3 hr hx
   go_wp2_with fail
   refine ja0 E ?_
   rintro e w1 ⟨rfl,a1⟩
   clear E
   obtain ⟨M,hM⟩:∃M,(l.take j).map Lib.itoa=M:=⟨_,rfl⟩
   have a6:M.length<=8:=by rw[<-hM];simp;omega
   rw[hM] at f ao
   obtain ⟨t,ht⟩:∃t,Lib.itoa x=t:=⟨_,rfl⟩
   rw[ht] at ao ⊢
   have ah:Gr wr (w1.alloc (I #[O ⟨t.toArray⟩] 9)):=a1.alloc _
   have g:Z (eJ (w1.alloc (I #[O ⟨t.toArray⟩] 9)) w.heap.size u3 M/\cw (w1.alloc (I #[O ⟨t.toArray⟩] 9)) (some ⟨w1.heap.size,0,none⟩) [t]/\M.length+1<=maxLen/\(M.length+1)*16<=140737488355328/\Y w.heap.size w (w1.alloc (I #[O ⟨t.toArray⟩] 9))):=⟨f.out.1.gr ah,my rfl t 9,by unfold maxLen;omega,by omega,f.out.2.trans (ah.below.mono f.out.2.size)⟩
   clear hM a6 ht a1 ah f
   go_wp2_with (at_builtin;refine fj _ rfl _ _ rfl w.heap.size u3 M [t] (some ⟨w1.heap.size,0,none⟩) 1 rfl rfl g.out.1 g.out.2.1 (fun h=>by cases h) g.out.2.2.1 g.out.2.2.2.1 g.out.2.2.2.2.size ?_;intro v7 w7 k a2)
   have ad:=ja2 k (g.out.2.2.2.2.trans (ae.grown_below g.out.1 a2 g.out.2.2.2.2.size))
   clear k a2 g
   go_roundw
   case rel=>exact ⟨j+1,by omega,by go_num,by rw[ao.out];exact ad⟩
   case measure=>simp[intOf];omega
  ·have a5:¬(j:Int)<(l.length:Int):=by omega
   have a4:l.take j=l:=List.take_of_length_le (by omega)
   rw[a4] at f
   obtain ⟨C,c,rfl,hC,L,u,-,-⟩:=ae.full du f.out.1
   have an:=lK (l.map Lib.itoa) [44] C c wr (by simpa using hH.out.2.2.2) L u (by simp;omega) (by
    have h1:=jn [44] 21 (l.map Lib.itoa) (fun x hx=>by
     obtain ⟨n,hn,rfl⟩:=List.mem_map.1 hx
     exact dw (hH.out.2.2.1 n hn))
    simp at h1;omega)
   rw[List.length_map] at an
   have F:Z _:=an
   have R:=ja1 f.out.2
   clear an L hC u f a4
   go_wp2_with fail
   refine ja0 F ?_
   rintro e w1 ⟨rfl,ap⟩
   have a7:=ja1 (R.out.trans (ap.mono R.out.size))
   clear F ap R
   go_wp2
   go_ret
   exact ⟨rfl,a7.out⟩


def eH (s:Stp) (p:Int):List UInt8:=if p=79 then j5 s.o else if p=76 then zT s.l else Lib.itoa (if p=65 then s.a else if p=66 then s.b else if p=67 then s.c else s.v)

theorem oU (s:Stp) (p:Int) (w:X) (hf:Fine s) (hr:al w s.p s.l) (hl:p=76->s.l≠[]) (ht:dK w) :
  P V 114 #[.agg (ja8 s),J .u8 p] w fun e w'=>e= U (O ⟨(eH s p).toArray⟩)/\Y w.heap.size w w':=by
 have g:Gr w (w.alloc (I (ja8 s) 136)):=(gR w).alloc _
 have c1:(w.alloc (I (ja8 s) 136)).cell? ⟨w.heap.size,1,none⟩=some (J H s.a):=aa (gR _) rfl
 have c2:(w.alloc (I (ja8 s) 136)).cell? ⟨w.heap.size,2,none⟩=some (J H s.b):=aa (gR _) rfl
 have c3:(w.alloc (I (ja8 s) 136)).cell? ⟨w.heap.size,3,none⟩=some (J H s.c):=aa (gR _) rfl
 have c4:(w.alloc (I (ja8 s) 136)).cell? ⟨w.heap.size,4,none⟩=some (J H s.o):=aa (gR _) rfl
 have c5:(w.alloc (I (ja8 s) 136)).cell? ⟨w.heap.size,5,none⟩=some (J H s.v):=aa (gR _) rfl
 have c6:(w.alloc (I (ja8 s) 136)).cell? ⟨w.heap.size,6,none⟩=some (D s.p s.l.length s.n):=aa (gR _) rfl
 have h:=ja3 hf (hr.gr g) (ht.gr g)
 clear hf hr ht
 by_cases R:p=79
 ·subst R
  have a0:=o7 s.o (w.alloc (I (ja8 s) 136))
  have a1:Z _:=a0
  clear a0 hl
  go_enter Tryz.func114,Tryz.ntmps114
  go_wp2_with fail
  refine ja0 a1 ?_
  rintro e w1 ⟨rfl,rfl⟩
  go_wp2
  go_ret
  exact ⟨rfl,g.below⟩
 by_cases h2:p=76
 ·have ap:=oT s.l s.p s.n (w.alloc (I (ja8 s) 136)) (hl h2) h.out.1.l.1 h.out.1.l.2 h.out.2.1 h.out.2.2
  have u:Z _:=ap
  subst h2
  clear ap hl R
  go_enter Tryz.func114,Tryz.ntmps114
  go_wp2_with fail
  refine ja0 u ?_
  rintro e w1 ⟨rfl,ad⟩
  have E:=ja1 (g.below.trans (ad.mono g.size))
  clear u ad
  go_wp2
  go_ret
  exact ⟨rfl,E.out⟩
 have q1:(p==79)=false:=beq_eq_false_iff_ne.2 R
 have q2:(p==76)=false:=beq_eq_false_iff_ne.2 h2
 have F:=lr w.heap.size p (w.alloc (I (ja8 s) 136))
 obtain ⟨f,x,ah,a3,a2,C⟩:∃(f:Nat) (x:Int),xe p=f/\(w.alloc (I (ja8 s) 136)).cell? ⟨w.heap.size,f,none⟩=some (J H x)/\Small x/\eH s p=Lib.itoa x:=by
  unfold xe eH
  rw[if_neg R,if_neg h2,if_neg R]
  by_cases j:p=65
  ·exact ⟨1,s.a,by rw[if_pos j],c1,h.out.1.a,by rw[if_pos j]⟩
  ·by_cases L:p=66
   ·exact ⟨2,s.b,by rw[if_neg j,if_pos L],c2,h.out.1.b,by rw[if_neg j,if_pos L]⟩
   ·by_cases e3:p=67
    ·exact ⟨3,s.c,by rw[if_neg j,if_neg L,if_pos e3],c3,h.out.1.c,by rw[if_neg j,if_neg L,if_pos e3]⟩
    ·exact ⟨5,s.v,by rw[if_neg j,if_neg L,if_neg e3],c5,h.out.1.v,by rw[if_neg j,if_neg L,if_neg e3]⟩
 rw[ah] at F
 have k:Z _:=F
 have ao:=gu a2 h.out.2.2
 have r:Z _:=ao
 rw[C]
 clear F ao ah R h2 hl C c1 c2 c3 c4 c5 c6 a2
 go_enter Tryz.func114,Tryz.ntmps114
 go_wp2_with fail
 refine ja0 k ?_
 rintro e w1 ⟨rfl,a4⟩
 subst w1
 clear k
 go_wp2_with fail
 refine ja0 r ?_
 rintro e w1 ⟨rfl,an⟩
 have E:=ja1 ((g.trans an).below)
 clear r an
 go_wp2
 go_ret
 exact ⟨rfl,E.out⟩


def gx (s:Stp):List UInt8:=Lib.join (ct s.k::(aV s.k).map (fun p=>eH s p.toNat)) [32]
theorem js (k:Int):(aV k).length<=4:=by
 unfold aV
 repeat' split
 all_goals simp
theorem qr (k:Int):(ct k).length<=8:=by
 unfold ct
 repeat' split
 all_goals simp
theorem pV {s:Stp} (h:Fine s) (p:Int):(eH s p).length<=1000:=by
 unfold eH
 by_cases f:p=79
 ·rw[if_pos f]
  unfold j5
  repeat' split
  all_goals simp
 ·rw[if_neg f]
  by_cases g:p=76
  ·rw[if_pos g]
   have j:=jn [44] 21 (s.l.map Lib.itoa) (fun x r=>by
    obtain ⟨n,k,rfl⟩:=List.mem_map.1 r
    exact dw (h.l.2 n k))
   have u:=h.l.1
   unfold zT
   simp at j
   omega
  ·rw[if_neg g]
   refine nT (dw ?_) (by omega)
   repeat' split
   all_goals first|exact h.a|exact h.b|exact h.c|exact h.v
theorem DC {k:Int} (h:(76:UInt8)∈aV k):k=3:=by
 unfold aV at h
 by_cases e:k=3
 ·exact e
 ·exfalso
  revert h
  repeat' split
  all_goals first|decide|(exfalso;omega)|skip

theorem oX (w:X) {ops:Array Oper} {o:Oper} {a:Act} {K:Act->X->Prop} {Q:Exit->Act->X->Prop} {E:Prop} (j:o.guard=none) (s x:Operand)
  (C:o.op= .call { callee:= .builtin .append,args:= #[s,x],argTypes:= #[23,23] })
  (base:Nat) (v:N) (l m:List (List UInt8)) (A:Option d) (cap:Nat) (L:a.eval s=v) (hx:a.eval x= D A m.length cap) (g:eJ w base v l) (F:cw w A m) (r:A=none->cap=0)
  (k:l.length+m.length<=maxLen) (u:(l.length+m.length)*16<=140737488355328) (f:base<=w.heap.size)
  (h:∀n w',eJ w' base n (l++m)->w.grownBy w' v.ownBlock->K (a.put o.dst n) w') :
  if Region.wanted o (yielded ops a.tmps)=true then Oper.wp V o a w K Q else E:=by
 have R:Region.wanted o (yielded ops a.tmps)=true:=by simp[Region.wanted,j]
 rw[if_pos R]
 exact cU du rJ (by omega) 23 Tryz.underlying23 (O ⟨#[]⟩) 16 Tryz.infoX rfl w s x C base v l m A cap L hx g F r k u f h
theorem BQ {k:Int} {j:Nat} (h:j<(aV k).length) (e:((aV k)[j].toNat:Int)=76):k=3 :=
 DC (by
  have:(aV k)[j]=76:=UInt8.toNat_inj.1 (by have:(76:UInt8).toNat=76:=rfl;omega)
  rw[<-this];exact gM h)

theorem oS (s:Stp) (w:X) (hf:Fine s) (hr:al w s.p s.l) (hl:s.k=3->s.l≠[]) (ht:dK w) :
  P V 81 #[.agg (ja8 s)] w fun e w'=>e= U (O ⟨(gx s).toArray⟩)/\Y w.heap.size w w':=by
 have ap:Gr w (w.alloc (I (ja8 s) 136)):=(gR w).alloc _
 have bb:=gV s.k (w.alloc (I (ja8 s) 136))
 have a0:Z _:=bb
 have c0:(w.alloc (I (ja8 s) 136)).cell? ⟨w.heap.size,0,none⟩=some (J H s.k):=aa (gR _) rfl
 have hH:=ja4 hf hr ht hl
 clear bb hf hr ht hl
 go_enter Tryz.func81,Tryz.ntmps81
 go_wp2_with fail
 refine ja0 a0 ?_
 rintro e w1 ⟨rfl,b0⟩
 subst w1
 clear a0 c0
 have bp:Z (eJ ((w.alloc (I (ja8 s) 136)).alloc (I #[O ⟨(ct s.k).toArray⟩] 9)) (w.alloc (I (ja8 s) 136)).heap.size (D (some ⟨w.heap.size+1,0,none⟩) 1 1) [ct s.k]):=by
  have h:=World.ownsRow_lit (base:=(w.alloc (I (ja8 s) 136)).heap.size) (e:=9) (size:=1) (w.alloc (I (ja8 s) 136)) #[O ⟨(ct s.k).toArray⟩] 1 (nR _) (by unfold maxLen;omega) rfl
  have e:(w.alloc (I (ja8 s) 136)).heap.size=w.heap.size+1:=by simp
  rw[e] at h
  show eJ _ _ _ _
  rw[e]
  exact h
 go_wp2
 go_loopw [5,17] (fun v i wr=>∃j:Nat,j<=(aV s.k).length/\i= J H j/\Z (eJ wr (w.alloc (I (ja8 s) 136)).heap.size v (ct s.k::((aV s.k).take j).map (fun p=>eH s p.toNat))/\Y (w.alloc (I (ja8 s) 136)).heap.size (w.alloc (I (ja8 s) 136)) wr)) (fun _ i _=>(aV s.k).length-(intOf i).toNat)
 case atStart=>exact ⟨0,nZ _,rfl,⟨bp.out,((gR _).alloc _).below⟩⟩
 case round =>
  obtain ⟨j,hj,rfl,u⟩:=hrel
  have bN:=js s.k
  by_cases bh:j<(aV s.k).length
  ·have bn:(j:Int)<((aV s.k).length:Int):=by omega
   obtain ⟨p,hp⟩:∃p,(aV s.k)[j]=p:=⟨_,rfl⟩
   have bo:Z (((aV s.k).take (j+1)).map (fun p=>eH s p.toNat)=((aV s.k).take j).map (fun p=>eH s p.toNat)++[eH s p.toNat]):=by show _=_;rw[List.take_succ_eq_append_getElem bh,hp];simp
   have f:Z (∀w':X,Y (w.alloc (I (ja8 s) 136)).heap.size (w.alloc (I (ja8 s) 136)) w'->(fun w'=>w'.cell? ⟨w.heap.size,0,none⟩=some (J H s.k)/\w'.cell? ⟨w.heap.size,1,none⟩=some (J H s.a)/\w'.cell? ⟨w.heap.size,2,none⟩=some (J H s.b)/\w'.cell? ⟨w.heap.size,3,none⟩=some (J H s.c)/\w'.cell? ⟨w.heap.size,4,none⟩=some (J H s.o)/\w'.cell? ⟨w.heap.size,5,none⟩=some (J H s.v)/\w'.cell? ⟨w.heap.size,6,none⟩=some (D s.p s.l.length s.n)) w'):=fun w' hb=>⟨(hb.cell (p:=⟨w.heap.size,0,none⟩) (by simp)).trans (aa (gR _) rfl),(hb.cell (p:=⟨w.heap.size,1,none⟩) (by simp)).trans (aa (gR _) rfl),(hb.cell (p:=⟨w.heap.size,2,none⟩) (by simp)).trans (aa (gR _) rfl),(hb.cell (p:=⟨w.heap.size,3,none⟩) (by simp)).trans (aa (gR _) rfl),(hb.cell (p:=⟨w.heap.size,4,none⟩) (by simp)).trans (aa (gR _) rfl),(hb.cell (p:=⟨w.heap.size,5,none⟩) (by simp)).trans (aa (gR _) rfl),(hb.cell (p:=⟨w.heap.size,6,none⟩) (by simp)).trans (aa (gR _) rfl)⟩
   have r:Y (w.alloc (I (ja8 s) 136)).heap.size (w.alloc (I (ja8 s) 136)) wr.drew:=u.out.2.drew
   have a3:=ja2 ((hH.out.2.1.gr ap).below r) ((hH.out.2.2.1.gr ap).below r)
   have be:Z (∀e:((aV s.k)[j].toNat:Int)=76,s.l≠[]):=fun e=>hH.out.2.2.2 (BQ bh e)
   obtain ⟨M,F⟩:∃M,ct s.k::((aV s.k).take j).map (fun p=>eH s p.toNat)=M:=⟨_,rfl⟩
   have ba:Z (M.length<=5):=by
    show _<=_
    have:=js s.k
    rw[<-F];simp;omega
   have bC:Z (ct s.k::((aV s.k).take (j+1)).map (fun p=>eH s p.toNat)=M++[eH s p.toNat]):=by show _=_;rw[bo.out,<-F];rfl
   rw[F] at u
   have bG:=ja1 hp
   clear F bo hp
   go_upto_region 6 with fail
   refine wp_region_noPanic ?_
   refine wp_region_held_drew (S:=fun w'=>w'.cell? ⟨w.heap.size,0,none⟩=some (J H s.k)/\w'.cell? ⟨w.heap.size,1,none⟩=some (J H s.a)/\w'.cell? ⟨w.heap.size,2,none⟩=some (J H s.b)/\w'.cell? ⟨w.heap.size,3,none⟩=some (J H s.c)/\w'.cell? ⟨w.heap.size,4,none⟩=some (J H s.o)/\w'.cell? ⟨w.heap.size,5,none⟩=some (J H s.v)/\w'.cell? ⟨w.heap.size,6,none⟩=some (D s.p s.l.length s.n)) (by kernel_rfl) (f.out _ r) (fun hHeld=> ?_)
   refine tks [0,1,2,3,4] (by assumption) ?_
   iterate 5 (refine tk (v:= ?_) (by rfl) (by kernel_rfl) ?_ ?_;rotate_left;· (refine oL ⟨by rfl,?_⟩;intro w a4;(try dsimp only at a4);go_simp<;>with_reducible rfl);try simp only[Act.put,yA,aB,yS])
   refine tk0 ?_
   refine wpAnyH_ready (rs:=[5]) (by kernel_rfl) (by simp) ?_
   refine AllReadyH.cons (o:= ?oi6) ?hop6 (fun b1 hK=> ?step6) ?more6
   case hop6=>(simp only[zA,z0',zS];rfl)
   case more6=>exact AllReadyH.nil
   go_simp
   (go_at_call 114;(refine cM (oU s _ _ hH.out.1 a3.out.1 be.out a3.out.2) ?_);rintro e y1 ⟨rfl,ao⟩;generalize hT:eH s _=T;have bs:Z (eH s ((aV s.k)[j].toNat:Int)=T):=hT;have g:Z (Y (w.alloc (I (ja8 s) 136)).heap.size (w.alloc (I (ja8 s) 136)) y1):=r.trans (ao.mono r.size);have E:Z (Y (w.alloc (I (ja8 s) 136)).heap.size (w.alloc (I (ja8 s) 136)) (y1.alloc (I #[O ⟨T.toArray⟩] 9))):=g.out.alloc g.out.size _;have R:Z (eJ (y1.alloc (I #[O ⟨T.toArray⟩] 9)) (w.alloc (I (ja8 s) 136)).heap.size u5 M/\cw (y1.alloc (I #[O ⟨T.toArray⟩] 9)) (some ⟨y1.heap.size,0,none⟩) [T]/\M.length+1<=maxLen/\(M.length+1)*16<=140737488355328):=⟨u.out.1.below (((bR _ _).drew.trans (ao.mono (nR _))).trans (((gR y1).alloc _).below.mono ao.size)),my rfl T 9,(by have:=ba.out;unfold maxLen;omega),(by have:=ba.out;omega)⟩;clear ao hT)
   first|(go_wp2_with fail)|skip
   refine hK.out _ _ ?_ (fun hHeld=> ?_)
   ·(try dsimp only);(first|with_reducible exact f.out _ r|with_reducible exact f.out _ g.out|with_reducible exact f.out _ E.out|with_reducible exact f.out _ an.out)
   clear hK b1
   try simp only[Act.put,yA,aB,yS]
   refine wpAnyH_ready (rs:=[6]) (by kernel_rfl) (by simp) ?_
   refine AllReadyH.cons (o:= ?oi7) ?hop7 (fun b1 hK=> ?step7) ?more7
   case hop7=>(simp only[zA,z0',zS];rfl)
   case more7=>exact AllReadyH.nil
   go_simp
   refine hK.out _ _ ?_ (fun hHeld=> ?_)
   ·(try dsimp only);(first|with_reducible exact f.out _ r|with_reducible exact f.out _ g.out|with_reducible exact f.out _ E.out|with_reducible exact f.out _ an.out)
   clear hK b1
   try simp only[Act.put,yA,aB,yS]
   refine wpAnyH_ready (rs:=[7]) (by kernel_rfl) (by simp) ?_
   refine AllReadyH.cons (o:= ?oi8) ?hop8 (fun b1 hK=> ?step8) ?more8
   case hop8=>(simp only[zA,z0',zS];rfl)
   case more8=>exact AllReadyH.nil
   (refine oX _ rfl (.tmp 20) (.tmp 26) rfl (w.alloc (I (ja8 s) 136)).heap.size u5 M [T] (some ⟨y1.heap.size,0,none⟩) 1 rfl rfl R.out.1 R.out.2.1 (fun h=>by cases h) R.out.2.2.1 R.out.2.2.2 E.out.size ?_;intro v2 w3 ad a1;have an:Z (Y (w.alloc (I (ja8 s) 136)).heap.size (w.alloc (I (ja8 s) 136)) w3):=E.out.trans (ae.grown_below R.out.1 a1 E.out.size);have a6:Z (eJ w3 (w.alloc (I (ja8 s) 136)).heap.size v2 (M++[T])/\Y (w.alloc (I (ja8 s) 136)).heap.size (w.alloc (I (ja8 s) 136)) w3):=⟨ad,an.out⟩;clear ad a1)
   refine hK.out _ _ ?_ (fun hHeld=> ?_)
   ·(try dsimp only);(first|with_reducible exact f.out _ r|with_reducible exact f.out _ g.out|with_reducible exact f.out _ E.out|with_reducible exact f.out _ an.out)
   clear hK b1
   try simp only[Act.put,yA,aB,yS]
   refine tks [8] (by assumption) ?_
   iterate 1 (refine tk (v:= ?_) (by rfl) (by kernel_rfl) ?_ ?_;rotate_left;· (refine oL ⟨by rfl,?_⟩;intro w a4;(try dsimp only at a4);go_simp<;>with_reducible rfl);try simp only[Act.put,yA,aB,yS])
   refine tk0 ?_
   refine wpAnyH_done (by kernel_rfl) ?_ _
   refine NoPanic.normal ?_
   go_wp2
   go_roundw
   case rel=>exact ⟨j+1,by omega,by go_num,by rw[bC.out,<-bG.out,bs.out];exact a6⟩
   case measure=>simp[intOf];omega
  ·have bn:¬(j:Int)<((aV s.k).length:Int):=by omega
   have bd:(aV s.k).take j=aV s.k:=List.take_of_length_le (by omega)
   rw[bd] at u
   obtain ⟨C,c,rfl,hC,ah,L,-,-⟩:=ae.full du u.out.1
   obtain ⟨M,F⟩:∃M,ct s.k::(aV s.k).map (fun p=>eH s p.toNat)=M:=⟨_,rfl⟩
   rw[F] at ah L u ⊢
   have bl:Z (gx s=Lib.join M [32]):=by show _=_;unfold gx;rw[F]
   have a8:M.length<=5:=by rw[<-F];simp;omega
   have a7:M≠[]:=by rw[<-F];simp
   have a9:∀x∈M,x.length<=1000:=by
    intro x hx
    rw[<-F] at hx
    rcases List.mem_cons.1 hx with e|e
    ·rw[e];exact nT (qr s.k) (by omega)
    ·obtain ⟨p,_,rfl⟩:=List.mem_map.1 e
     exact pV hH.out.1 _
   have bc:=lK M [32] C c wr a7 ah L (by omega) (by
    have h1:=jn [32] 1000 M a9
    have h2:M.length*(1000+[(32:UInt8)].length)<=5*1001:=Nat.mul_le_mul a8 (by simp)
    omega)
   have a2:Z _:=bc
   have a5:=ja1 (ap.below.trans (u.out.2.mono ap.size))
   clear bc ah hC L u bd F a8 a7 a9
   go_wp2_with fail
   refine ja0 a2 ?_
   rintro e w1 ⟨rfl,g⟩
   have bt:=ja1 (a5.out.trans (g.mono a5.out.size))
   clear a2 g a5
   go_wp2
   go_ret
   exact ⟨by rw[bl.out];rfl,bt.out⟩


theorem eX {T e:TypeId} {B b:Nat} {n:List N} {w w':X} (h:Lib.IsBuilder T e B b n w) (k:Y w.heap.size w w'):Lib.IsBuilder T e B b n w':=by
 have j:∀p,Lib.BuilderAt T e B b p n w->Lib.BuilderAt T e B b p n w':=by
  rintro p ⟨E,v,C,f,u⟩
  have r:b<w.heap.size:=(Array.getElem?_eq_some_iff.1 C).1
  refine ⟨E,v,(k.block b r).trans C,?_,u⟩
  refine ⟨f.1,?_⟩
  rcases f.2 with h1|⟨g,cap,cur,hv,hg,hh,rest⟩
  ·exact .inl h1
  ·exact .inr ⟨g,cap,cur,hv,hg,(k.block g (Array.getElem?_eq_some_iff.1 hh).1).trans hh,rest⟩
 rcases h with h|h
 ·exact oL (j _ h)
 ·exact oR (j _ h)

theorem fk (B b:Nat) (l x:List UInt8) (w:X) (h:Lib.IsBuilder 38 5 B b (Lib.byteCells l) w) (g:l.length+x.length<=140737488355328) (r:B<=w.heap.size) :
  P V 13 #[ia (some ⟨b,0,none⟩),O ⟨x.toArray⟩] w fun e w'=>e= U (.tuple #[J H x.length,.nilIface])/\Lib.IsBuilder 38 5 B b (Lib.byteCells (l++x)) w'/\Y B w w':=by
 have k:(⟨x.toArray⟩:ByteArray).size=x.length:=by simp[ByteArray.size]
 have j:=Any.Builder_WriteString Tryz.laysB166 Tryz.extraB B b (Lib.byteCells l) ⟨x.toArray⟩ w h (by rw[Lib.byteCells_length,k];exact g) r
 change P V 13 _ _ _ at j
 refine j.mono ?_
 rintro e w' ⟨C,u,f⟩
 refine ⟨by rw[C,k],oR ?_,f⟩
 have n:Lib.byteCells (l++x)=Lib.byteCells l++Lib.strCells ⟨x.toArray⟩:=by simp[Lib.byteCells,Lib.strCells]
 rw[n]
 exact u
theorem gf (B b:Nat) (l:List UInt8) (c:UInt8) (w:X) (h:Lib.IsBuilder 38 5 B b (Lib.byteCells l) w) (g:l.length+1<=140737488355328) (n:B<=w.heap.size) :
  P V 82 #[ia (some ⟨b,0,none⟩),J .u8 c.toNat] w fun e w'=>e= U .nilIface/\Lib.IsBuilder 38 5 B b (Lib.byteCells (l++[c])) w'/\Y B w w':=by
 have j:=Any.Builder_WriteByte Tryz.laysB167 Tryz.extraB B b (Lib.byteCells l) (c.toNat:Int) w h (by rw[Lib.byteCells_length];exact g) n
 change P V 82 _ _ _ at j
 refine j.mono ?_
 rintro e w' ⟨u,r,f⟩
 refine ⟨u,oR ?_,f⟩
 have k:Lib.byteCells (l++[c])=Lib.byteCells l++[J .u8 (c.toNat:Int)]:=by simp[Lib.byteCells]
 rw[k]
 exact r
theorem j8 (B b:Nat) (l:List UInt8) (w:X) (h:Lib.IsBuilder 38 5 B b (Lib.byteCells l) w) (g:B<=w.heap.size) :
  P V 16 #[ia (some ⟨b,0,none⟩)] w fun e w'=>e= U (O ⟨l.toArray⟩)/\Y B w w':=by
 have f:=Any.Builder_String_any Tryz.lays169 Tryz.extra169 B b l w h g
 change P V 16 _ _ _ at f
 exact f

def cT (q:List Stp):List UInt8:=q.flatMap fun s=>gx s++[10]
theorem pN {s:Stp} (h:Fine s):(gx s).length<=5005:=by
 unfold gx
 have f:=jn [32] 1000 (ct s.k::(aV s.k).map (fun p=>eH s p.toNat)) (fun x n=>by
  rcases List.mem_cons.1 n with e|e
  ·rw[e];exact nT (qr s.k) (by omega)
  ·obtain ⟨p,_,rfl⟩:=List.mem_map.1 e
   exact pV h _)
 have r:=js s.k
 have g:(ct s.k::(aV s.k).map (fun p=>eH s p.toNat)).length<=5:=by simp;omega
 have j:=Nat.mul_le_mul g (nR (1000+[(32:UInt8)].length))
 simp only[List.length_cons,List.length_nil] at f j ⊢
 omega

def iW (q:List Stp):List UInt8:=if bu q=0 then cT q else []
theorem BR {s:Stp} {f:List Int} (h:aE s f≠0) (g:s.k=3):s.l≠[]:=by
 intro e
 apply h
 rw[DH g,e]
 simp[inB]
theorem ow:∀(q:List Stp) (f:List Int),(∀x∈f,0<=x/\x<=8)->f.length+q.length<=8->(cK q f).isSome=true->∀s∈q,Fine s/\(s.k=3->s.l≠[])
 | [],_,_,_,_=>fun s j=>by cases j
 | s::t,f,h1,h2,h3=>by
  have g:(if aE s f=0 then none else cK t (f++[aE s f])).isSome=true:=h3
  by_cases e:aE s f=0
  ·rw[if_pos e] at g;cases g
  ·rw[if_neg e] at g
   have h:=uR s h1
   have ih:=ow t (f++[aE s f]) (fun x r=>by
    rcases List.mem_append.1 r with k|k
    ·exact h1 x k
    ·rw[List.mem_singleton.1 k];exact h) (by simp at h2 ⊢;omega) g
   intro u n
   rcases List.mem_cons.1 n with k|k
   ·subst k
    simp at h2
    exact ⟨qo e (by omega) h1,BR e⟩
   ·exact ih u k
theorem jl {q:List Stp} (h:bu q=0):∀s∈q,Fine s/\(s.k=3->s.l≠[]):=by
 have g:=(jz h).2
 refine ow q [] (fun x j=>by cases j) (by simpa using g) ?_
 unfold bu at h
 by_cases f:q.length=0
 ·rw[if_pos f] at h;cases h
 ·rw[if_neg f,if_neg (by omega)] at h
  by_cases k:(cK q []).isSome=true
  ·exact k
  ·rw[if_neg k] at h;cases h
theorem uL {q:List Stp} {j:Nat} (h:j<q.length):cT (q.take (j+1))=cT (q.take j)++gx q[j]++[10]:=by
 unfold cT
 rw[List.take_succ_eq_append_getElem h,List.flatMap_append,List.flatMap_cons,List.flatMap_nil,List.append_nil,List.append_assoc]
theorem jw:∀q:List Stp,(∀s∈q,Fine s)->(cT q).length<=q.length*5006
 | [],_=>by simp[cT]
 | s::t,h=>by
  have f:=jw t fun x g=>h x (mC _ g)
  have j:=pN (h s (mS ..))
  have e:cT (s::t)=gx s++[10]++cT t:=by simp[cT]
  rw[e]
  simp only[List.length_append,List.length_cons,List.length_nil,Nat.succ_mul] at f ⊢
  omega
theorem xO (q:List Stp) (A:Option d) (ca:Nat) (w:X) (hl:q.length<=maxLen) (hq:Stps w A q) (ht:dK w) :
  P V 57 #[D A q.length ca] w fun e w'=>e= U (.tuple #[O ⟨(iW q).toArray⟩,J H (bu q)])/\Y w.heap.size w w':=by
 have bd:=jS q A ca w hl hq
 have an:Z _:=bd
 have hH:=ja2 hq ht
 clear bd hq ht
 go_enter Tryz.func57,Tryz.ntmps57
 go_wp2_with fail
 refine ja0 an ?_
 rintro e w1 ⟨rfl,r⟩
 clear an
 cases a7:(bu q != 0)
 ·have L:bu q=0:=by simpa using a7
  have a2:=ja1 L
  have h8:q.length<=8:=(jz L).2
  have a6:Z (iW q=cT q):=by show _=_;unfold iW;rw[if_pos L]
  rw[L]
  clear L a7 hl
  go_wp2
  go_loopw [15] (fun i wr=>∃j:Nat,j<=q.length/\i= J H j/\Z (Lib.IsBuilder 38 5 w1.heap.size w1.heap.size (Lib.byteCells (cT (q.take j))) wr/\Y w1.heap.size w1 wr)) (fun i _=>q.length-(intOf i).toNat)
  case atStart=>exact ⟨0,nZ _,rfl,oL ⟨nR _,D none 0 0,heap_alloc_new w1 _,World.ownsRow_nil _ _ _ _,by simp[Value.ownBlock]⟩,((gR _).alloc _).below⟩
  case round =>
   obtain ⟨j,hj,rfl,f⟩:=hrel
   by_cases a5:j<q.length
   ·have bn:(j:Int)<(q.length:Int):=by omega
    have hI:=ja1 ((hH.out.1.below r).below f.out.2)
    obtain ⟨bb,C,rfl,hb,h⟩:=hI.out.at a5
    obtain ⟨s,hs⟩:∃s,q[j]=s:=⟨_,rfl⟩
    have a9:s∈q:=by rw[<-hs];exact gM a5
    have bC:=ja1 ((hI.out.each s a9).1)
    have a8:=ja1 (jl a2.out s a9)
    rw[hs] at h
    have m0:wr.cell? ⟨bb,C+j*7,none⟩=some (J H s.k):=h 0 (by omega)
    have m1:wr.cell? ⟨bb,C+j*7+1,none⟩=some (J H s.a):=h 1 (by omega)
    have m2:wr.cell? ⟨bb,C+j*7+2,none⟩=some (J H s.b):=h 2 (by omega)
    have m3:wr.cell? ⟨bb,C+j*7+3,none⟩=some (J H s.c):=h 3 (by omega)
    have m4:wr.cell? ⟨bb,C+j*7+4,none⟩=some (J H s.o):=h 4 (by omega)
    have m5:wr.cell? ⟨bb,C+j*7+5,none⟩=some (J H s.v):=h 5 (by omega)
    have m6:wr.cell? ⟨bb,C+j*7+6,none⟩=some (D s.p s.l.length s.n):=h 6 (by omega)
    have u:Z (cT (q.take (j+1))=cT (q.take j)++gx s++[10]):=by show _=_;rw[uL a5,hs]
    have F:Gr wr (wr.alloc (I (ja8 s) 136)):=(gR wr).alloc _
    have bl:=oS s (wr.alloc (I (ja8 s) 136)) a8.out.1 (bC.out.gr F) a8.out.2 ((((hH.out.2.below r).below f.out.2)).gr F)
    have ao:Z _:=bl
    have ba:Z ((cT (q.take j)).length<=8*5006):=by
     show _<=_
     have h1:=jw (q.take j) fun x hx=>(jl a2.out x (List.mem_of_mem_take hx)).1
     have h2:(q.take j).length<=8:=by rw[List.length_take];omega
     exact nT h1 (Nat.mul_le_mul h2 (nR _))
    have a4:=ja1 (pN a8.out.1)
    clear h hs a9 bl
    go_wp2_with fail
    refine ja0 ao ?_
    rintro e w2 ⟨rfl,E⟩
    clear ao m0 m1 m2 m3 m4 m5 m6
    have g:=ja2 (eX (eX f.out.1 F.below) E) (f.out.2.trans ((F.below.trans (E.mono F.size)).mono f.out.2.size))
    obtain ⟨bN,hT⟩:∃bN,cT (q.take j)=bN:=⟨_,rfl⟩
    obtain ⟨x,hx⟩:∃x,gx s=x:=⟨_,rfl⟩
    rw[hT] at g u ba
    rw[hx] at u a4 ⊢
    have bs:=fk w1.heap.size w1.heap.size bN x w2 g.out.1 (by have h1:=ba.out;have h2:=a4.out;omega) g.out.2.size
    have a1:Z _:=bs
    clear bs f hT hx E
    go_wp2_with fail
    refine ja0 a1 ?_
    rintro e w3 ⟨rfl,ad,a3⟩
    have bp:=gf w1.heap.size w1.heap.size (bN++x) 10 w3 ad (by have h1:=ba.out;have h2:=a4.out;rw[List.length_append];omega) (nT g.out.2.size a3.size)
    have a0:Z _:=bp
    have R:=ja1 (g.out.2.trans a3)
    clear a1 bp ad a3 g
    go_wp2_with fail
    refine ja0 a0 ?_
    rintro e w4 ⟨rfl,ah,bc⟩
    have be:=ja2 ah (R.out.trans bc)
    clear a0 ah bc R
    go_wp2
    go_roundw
    case rel=>exact ⟨j+1,by omega,by go_num,by rw[u.out];exact be⟩
    case measure=>simp[intOf];omega
   ·have bn:¬(j:Int)<(q.length:Int):=by omega
    have bh:q.take j=q:=List.take_of_length_le (by omega)
    rw[bh] at f
    have bo:=j8 w1.heap.size w1.heap.size (cT q) wr f.out.1 f.out.2.size
    have ap:Z _:=bo
    have bG:=ja1 (r.trans (f.out.2.mono r.size))
    have g:=ja2 f.out.2.size f.out.2
    clear bo bh f
    go_wp2_with fail
    refine ja0 ap ?_
    rintro e w2 ⟨rfl,E⟩
    have bt:=ja1 (r.trans ((g.out.2.trans E).mono r.size))
    clear ap E
    go_wp2
    go_ret2
    exact ⟨by rw[a6.out,a2.out];rfl,bt.out⟩
 ·have L:bu q≠0:=by simpa using a7
  have a6:Z (iW q=[]):=by show _=_;unfold iW;rw[if_neg L]
  clear L
  go_wp2
  go_ret2
  exact ⟨by rw[a6.out];rfl,r⟩


def ac (c:UInt8):List UInt8->List (List UInt8)
 | []=>[[]]
 | b::r=>if b=c then []::ac c r else match ac c r with
  | []=>[[b]]
  | x::t=>(b::x)::t
theorem cF (c:UInt8):∀l,ac c l≠[]
 | []=>by simp[ac]
 | b::r=>by
  unfold ac
  split
  ·simp
  ·split<;>simp
theorem oJ (f x:List UInt8) (r:List (List UInt8)):Lib.joinTail f (x::r)=f++x++Lib.joinTail f r:=by simp[Lib.joinTail]
theorem lZ (c:UInt8):∀l,Lib.join (ac c l) [c]=l
 | []=>by simp[ac,Lib.join_one]
 | b::r=>by
  have ih:=lZ c r
  unfold ac
  cases e:ac c r with
  | nil=>exact absurd e (cF c r)
  | cons y t =>
   rw[e,Lib.join_cons] at ih
   by_cases f:b=c
   ·rw[if_pos f,Lib.join_cons,oJ,f]
    simp[ih]
   ·rw[if_neg f]
    show Lib.join ((b::y)::t) [c]=b::r
    rw[Lib.join_cons]
    simp[ih]
theorem fG {c:UInt8}:∀(x l:List UInt8),c ∉ x->ac c (x++c::l)=x::ac c l
 | [],l,_=>by simp[ac]
 | b::x,l,h=>by
  have f:¬b=c:=fun e=>h (by simp[e])
  have ih:=fG x l (fun e=>h (mC _ e))
  rw[List.cons_append,ac,if_neg f,ih]
theorem kl {c:UInt8}:∀(x:List UInt8),c ∉ x->ac c x=[x]
 | [],_=>by simp[ac]
 | b::x,h=>by
  have f:¬b=c:=fun e=>h (by simp[e])
  have ih:=kl x (fun e=>h (mC _ e))
  rw[ac,if_neg f,ih]
def eu (x:List UInt8):Option Int:=if 10<(Lib.trimPrefix x [45]).length then none else match Lib.atoi x with
 | none=>none
 | some n=>if Lib.itoa n=x then some n else none
theorem xB {x:List UInt8} {n:Int} (h:eu x=some n):Lib.itoa n=x:=by
 unfold eu at h
 split at h
 ·simp at h
 ·split at h
  ·simp at h
  ·split at h
   ·simp at h;subst h;assumption
   ·simp at h

def ew:List (List UInt8)->Option (List Int)
 | []=>some []
 | x::r=>match eu x with
  | none=>none
  | some n=>match ew r with
   | none=>none
   | some l=>some (n::l)
theorem pS:∀ {g:List (List UInt8)} {l:List Int},ew g=some l->l.map Lib.itoa=g
 | [],l,h=>by simp[ew] at h;subst h;rfl
 | x::r,l,h=>by
  unfold ew at h
  cases e:eu x with
  | none=>rw[e] at h;simp at h
  | some n =>
   cases f:ew r with
   | none=>rw[e,f] at h;simp at h
   | some m =>
    rw[e,f] at h
    simp at h
    subst h
    rw[List.map_cons,xB e,pS f]
def jK (x:List UInt8):Option (List Int):=ew (ac 44 x)
def dm (x:List UInt8):Int:=if x=[60] then 1 else if x=[61] then 2 else if x=[62] then 3 else 0
theorem uF {x:List UInt8} (h:dm x≠0):j5 (dm x)=x:=by
 unfold dm at h ⊢
 split
 ·next e=>rw[e];rfl
 ·split
  ·next e=>rw[e];rfl
  ·split
   ·next e=>rw[e];rfl
   ·next a b c=>simp[a,b,c] at h
theorem uE {o:Int} (h:o=1\/o=2\/o=3):dm (j5 o)=o:=by
 rcases h with rfl|rfl|rfl<;>rfl
def dI (x:List UInt8):Int:=if x=ct 1 then 1 else if x=ct 2 then 2 else if x=ct 3 then 3 else if x=ct 4 then 4 else if x=ct 5 then 5 else if x=ct 6 then 6 else if x=ct 7 then 7 else if x=ct 8 then 8 else if x=ct 9 then 9 else 0
theorem uc {x:List UInt8} (h:dI x≠0):ct (dI x)=x/\1<=dI x/\dI x<=9:=by
 unfold dI at h ⊢
 repeat' split
 all_goals first
  | (next e=>exact ⟨e.symm,by decide,by decide⟩)
  | (simp only[*,if_false] at h;exact absurd rfl h)
theorem ub {k:Int} (h:1<=k/\k<=9):dI (ct k)=k:=by
 have:k=1\/k=2\/k=3\/k=4\/k=5\/k=6\/k=7\/k=8\/k=9:=by omega
 rcases this with rfl|rfl|rfl|rfl|rfl|rfl|rfl|rfl|rfl<;>rfl
def di (s:Stp) (p:UInt8) (x:List UInt8):Option Stp :=
 if p=79 then (if dm x=0 then none else some { s with o:=dm x })
 else if p=76 then (match jK x with
  | none=>none
  | some l=>some { s with l:=l })
 else match eu x with
  | none=>none
  | some n=>some (if p=65 then { s with a:=n } else if p=66 then { s with b:=n } else if p=67 then { s with c:=n } else { s with v:=n })
def dY (s:Stp):List UInt8->List (List UInt8)->Option Stp
 | [],[]=>some s
 | p::ps,x::xs=>match di s p x with
  | none=>none
  | some t=>dY t ps xs
 | [],_::_=>none
 | _::_,[]=>none
def gi (k:Int):Stp:=⟨k,0,0,0,0,0,none,0,[]⟩
def gw (x:List UInt8):Option Stp:=match ac 32 x with
 | []=>none
 | y::r=>if dI y=0\/r.length≠(aV (dI y)).length then none else dY (gi (dI y)) (aV (dI y)) r
theorem Ai {k:Int}:(∀p∈aV k,p∈([65,66,67,79,86,76]:List UInt8))/\(aV k).Nodup:=by
 unfold aV
 repeat' split
 all_goals decide

def clr (s:Stp):Stp:={ s with p:=none,n:=0 }
def nz:List (List UInt8)->Option (List Stp)
 | []=>none
 | [x]=>if x=[] then some [] else none
 | x::y::r=>match gw x with
  | none=>none
  | some s=>match nz (y::r) with
   | none=>none
   | some q=>some (s::q)
def iC (x:List UInt8):Option (List Stp):=nz (ac 10 x)
end Go.Proofs.YtjmmpnmgpgaagaaGreatDoor

namespace Go.Proofs
open Go.Shelf
def Tryz.lays101_ren:Go.Shelf.Ren:=⟨fun|101=>53|208=>75|206=>18|n=>n,fun|9=>9|4=>4|3=>3|n=>n,fun|n=>n⟩
theorem Tryz.lays101:Go.Proofs.Lays.n101 V Tryz.lays101_ren:={
 mixed:=by kernel_rfl
 f101:=Tryz.func53.trans (congrArg some (by kernel_rfl))
 f206:=Tryz.func18.trans (congrArg some (by kernel_rfl))
 f208:=Tryz.func75.trans (congrArg some (by kernel_rfl))
 t3:=Tryz.underlying3
 a3:=Tryz.isAgg3
 z3:=Tryz.sizeOf3
 v3:=Tryz.zeroValue3
 t4:=Tryz.underlying4
 a4:=Tryz.isAgg4
 z4:=Tryz.sizeOf4
 v4:=Tryz.zeroValue4
 t9:=Tryz.underlying9
 a9:=Tryz.isAgg9
 z9:=Tryz.sizeOf9
 v9:=Tryz.zeroValue9 }
def Tryz.lays145_ren:Go.Shelf.Ren:=⟨fun|145=>78|220=>109|219=>32|217=>46|225=>47|224=>48|267=>49|266=>67|314=>68|n=>n,fun|9=>9|4=>4|59=>133|3=>3|5=>5|46=>101|146=>122|51=>121|n=>n,fun|1=>0|n=>n⟩
theorem Tryz.lays145:Go.Proofs.LaysM.n145 V Tryz.lays145_ren:={
 mixed:=by kernel_rfl
 f145:=Tryz.func78.trans (congrArg some (by kernel_rfl))
 f217:=Tryz.func46.trans (congrArg some (by kernel_rfl))
 f219:=Tryz.func32.trans (congrArg some (by kernel_rfl))
 f220:=Tryz.func109.trans (congrArg some (by kernel_rfl))
 f224:=Tryz.func48.trans (congrArg some (by kernel_rfl))
 f225:=Tryz.func47.trans (congrArg some (by kernel_rfl))
 f266:=Tryz.func67.trans (congrArg some (by kernel_rfl))
 f267:=Tryz.func49.trans (congrArg some (by kernel_rfl))
 f314:=Tryz.func68.trans (congrArg some (by kernel_rfl))
 t3:=Tryz.underlying3
 a3:=Tryz.isAgg3
 z3:=Tryz.sizeOf3
 v3:=Tryz.zeroValue3
 t4:=Tryz.underlying4
 a4:=Tryz.isAgg4
 z4:=Tryz.sizeOf4
 v4:=Tryz.zeroValue4
 t5:=Tryz.underlying5
 a5:=Tryz.isAgg5
 z5:=Tryz.sizeOf5
 v5:=Tryz.zeroValue5
 t9:=Tryz.underlying9
 a9:=Tryz.isAgg9
 z9:=Tryz.sizeOf9
 v9:=Tryz.zeroValue9
 t46:=Tryz.underlying101
 a46:=Tryz.isAgg101
 z46:=Tryz.sizeOf101
 v46:=Tryz.zeroValue101
 t51:=Tryz.underlying121
 a51:=Tryz.isAgg121
 z51:=Tryz.sizeOf121
 v51:=Tryz.zeroValue121
 t59:=Tryz.underlying133
 a59:=Tryz.isAgg133
 z59:=Tryz.sizeOf133
 v59:=Tryz.zeroValue133
 t146:=Tryz.underlying122
 a146:=Tryz.isAgg122
 z146:=Tryz.sizeOf122
 v146:=Tryz.zeroValue122
 g1:=by kernel_rfl
 i3:=by kernel_rfl
 i4:=by kernel_rfl
 i5:=by kernel_rfl
 i9:=by kernel_rfl
 i46:=by kernel_rfl
 i51:=by kernel_rfl
 i59:=by kernel_rfl
 i146:=by kernel_rfl
 m1:=by kernel_rfl
 s1_3:=fun w h=>Go.Proofs.cell_of_shapedOpen_int (zero:= #[J H 0]) (t:=3) h (of_decide_eq_true (by kernel_rfl)) (by kernel_rfl) rfl (by kernel_rfl) (by kernel_rfl) Tryz.underlying3 }
def Tryz.lays146_ren:Go.Shelf.Ren:=⟨fun|146=>23|221=>34|268=>51|138=>9|143=>21|195=>19|197=>73|218=>20|219=>32|260=>102|217=>46|225=>47|224=>48|267=>49|266=>67|314=>68|n=>n,fun|9=>9|31=>23|3=>3|4=>4|0=>0|105=>130|21=>21|5=>5|46=>101|119=>214|139=>217|138=>216|146=>122|51=>121|n=>n,fun|1=>0|3=>2|4=>3|n=>n⟩
theorem Tryz.lays146:Go.Proofs.LaysM.n146 V Tryz.lays146_ren:={
 mixed:=by kernel_rfl
 f138:=Tryz.func9.trans (congrArg some (by kernel_rfl))
 f143:=Tryz.func21.trans (congrArg some (by kernel_rfl))
 f146:=Tryz.func23.trans (congrArg some (by kernel_rfl))
 f195:=Tryz.func19.trans (congrArg some (by kernel_rfl))
 f197:=Tryz.func73.trans (congrArg some (by kernel_rfl))
 f217:=Tryz.func46.trans (congrArg some (by kernel_rfl))
 f218:=Tryz.func20.trans (congrArg some (by kernel_rfl))
 f219:=Tryz.func32.trans (congrArg some (by kernel_rfl))
 f221:=Tryz.func34.trans (congrArg some (by kernel_rfl))
 f224:=Tryz.func48.trans (congrArg some (by kernel_rfl))
 f225:=Tryz.func47.trans (congrArg some (by kernel_rfl))
 f260:=Tryz.func102.trans (congrArg some (by kernel_rfl))
 f266:=Tryz.func67.trans (congrArg some (by kernel_rfl))
 f267:=Tryz.func49.trans (congrArg some (by kernel_rfl))
 f268:=Tryz.func51.trans (congrArg some (by kernel_rfl))
 f314:=Tryz.func68.trans (congrArg some (by kernel_rfl))
 t0:=Tryz.underlying0
 a0:=Tryz.isAgg0
 z0:=Tryz.sizeOf0
 v0:=Tryz.zeroValue0
 t3:=Tryz.underlying3
 a3:=Tryz.isAgg3
 z3:=Tryz.sizeOf3
 v3:=Tryz.zeroValue3
 t4:=Tryz.underlying4
 a4:=Tryz.isAgg4
 z4:=Tryz.sizeOf4
 v4:=Tryz.zeroValue4
 t5:=Tryz.underlying5
 a5:=Tryz.isAgg5
 z5:=Tryz.sizeOf5
 v5:=Tryz.zeroValue5
 t9:=Tryz.underlying9
 a9:=Tryz.isAgg9
 z9:=Tryz.sizeOf9
 v9:=Tryz.zeroValue9
 t21:=Tryz.underlying21
 a21:=Tryz.isAgg21
 z21:=Tryz.sizeOf21
 v21:=Tryz.zeroValue21
 t31:=Tryz.underlying23
 a31:=Tryz.isAgg23
 z31:=Tryz.sizeOf23
 v31:=Tryz.zeroValue23
 t46:=Tryz.underlying101
 a46:=Tryz.isAgg101
 z46:=Tryz.sizeOf101
 v46:=Tryz.zeroValue101
 t51:=Tryz.underlying121
 a51:=Tryz.isAgg121
 z51:=Tryz.sizeOf121
 v51:=Tryz.zeroValue121
 t105:=Tryz.underlying130
 a105:=Tryz.isAgg130
 z105:=Tryz.sizeOf130
 v105:=Tryz.zeroValue130
 t119:=Tryz.underlying214
 a119:=Tryz.isAgg214
 z119:=Tryz.sizeOf214
 t138:=Tryz.underlying216
 a138:=Tryz.isAgg216
 z138:=Tryz.sizeOf216
 v138:=Tryz.zeroValue216
 t139:=Tryz.underlying217
 a139:=Tryz.isAgg217
 z139:=Tryz.sizeOf217
 v139:=Tryz.zeroValue217
 t146:=Tryz.underlying122
 a146:=Tryz.isAgg122
 z146:=Tryz.sizeOf122
 v146:=Tryz.zeroValue122
 g1:=by kernel_rfl
 g3:=by kernel_rfl
 g4:=by kernel_rfl
 i0:=by kernel_rfl
 i3:=by kernel_rfl
 i4:=by kernel_rfl
 i5:=by kernel_rfl
 i9:=by kernel_rfl
 i21:=by kernel_rfl
 i31:=by kernel_rfl
 i46:=by kernel_rfl
 i51:=by kernel_rfl
 i105:=by kernel_rfl
 i138:=by kernel_rfl
 i139:=by kernel_rfl
 i146:=by kernel_rfl
 m1:=by kernel_rfl
 s1_3:=fun w h=>Go.Proofs.cell_of_shapedOpen_int (zero:= #[J H 0]) (t:=3) h (of_decide_eq_true (by kernel_rfl)) (by kernel_rfl) rfl (by kernel_rfl) (by kernel_rfl) Tryz.underlying3
 m3:=by kernel_rfl
 m4:=by kernel_rfl }
def Tryz.lays172_ren:Go.Shelf.Ren:=⟨fun|172=>54|244=>76|245=>77|247=>104|279=>105|280=>106|281=>107|282=>108|287=>139|316=>140|171=>22|205=>141|321=>172|322=>173|243=>33|246=>50|283=>69|284=>70|285=>71|286=>72|129=>98|317=>97|318=>99|319=>100|320=>101|337=>137|338=>138|n=>n,fun|9=>9|3=>3|75=>40|76=>41|4=>4|5=>5|167=>169|37=>36|0=>0|85=>170|2=>2|168=>172|53=>125|175=>218|46=>101|210=>221|127=>83|145=>254|143=>252|21=>21|171=>124|173=>128|212=>165|51=>121|20=>20|213=>166|232=>249|233=>250|80=>44|n=>n,fun|15=>4|16=>5|17=>1|18=>6|19=>7|n=>n⟩
theorem Tryz.lays172:Go.Proofs.LaysC.n172 V Tryz.lays172_ren:={
 mixed:=by kernel_rfl
 f129:=Tryz.func98.trans (congrArg some (by kernel_rfl))
 f171:=Tryz.func22.trans (congrArg some (by kernel_rfl))
 f172:=Tryz.func54.trans (congrArg some (by kernel_rfl))
 f205:=Tryz.func141.trans (congrArg some (by kernel_rfl))
 f243:=Tryz.func33.trans (congrArg some (by kernel_rfl))
 f244:=Tryz.func76.trans (congrArg some (by kernel_rfl))
 f245:=Tryz.func77.trans (congrArg some (by kernel_rfl))
 f246:=Tryz.func50.trans (congrArg some (by kernel_rfl))
 f247:=Tryz.func104.trans (congrArg some (by kernel_rfl))
 f279:=Tryz.func105.trans (congrArg some (by kernel_rfl))
 f280:=Tryz.func106.trans (congrArg some (by kernel_rfl))
 f281:=Tryz.func107.trans (congrArg some (by kernel_rfl))
 f282:=Tryz.func108.trans (congrArg some (by kernel_rfl))
 f283:=Tryz.func69.trans (congrArg some (by kernel_rfl))
 f284:=Tryz.func70.trans (congrArg some (by kernel_rfl))
 f285:=Tryz.func71.trans (congrArg some (by kernel_rfl))
 f286:=Tryz.func72.trans (congrArg some (by kernel_rfl))
 f287:=Tryz.func139.trans (congrArg some (by kernel_rfl))
 f316:=Tryz.func140.trans (congrArg some (by kernel_rfl))
 f317:=Tryz.func97.trans (congrArg some (by kernel_rfl))
 f318:=Tryz.func99.trans (congrArg some (by kernel_rfl))
 f319:=Tryz.func100.trans (congrArg some (by kernel_rfl))
 f320:=Tryz.func101.trans (congrArg some (by kernel_rfl))
 f321:=Tryz.func172.trans (congrArg some (by kernel_rfl))
 f322:=Tryz.func173.trans (congrArg some (by kernel_rfl))
 f337:=Tryz.func137.trans (congrArg some (by kernel_rfl))
 f338:=Tryz.func138.trans (congrArg some (by kernel_rfl))
 t0:=Tryz.underlying0
 a0:=Tryz.isAgg0
 z0:=Tryz.sizeOf0
 v0:=Tryz.zeroValue0
 t2:=Tryz.underlying2
 a2:=Tryz.isAgg2
 z2:=Tryz.sizeOf2
 v2:=Tryz.zeroValue2
 t3:=Tryz.underlying3
 a3:=Tryz.isAgg3
 z3:=Tryz.sizeOf3
 v3:=Tryz.zeroValue3
 t4:=Tryz.underlying4
 a4:=Tryz.isAgg4
 z4:=Tryz.sizeOf4
 v4:=Tryz.zeroValue4
 t5:=Tryz.underlying5
 a5:=Tryz.isAgg5
 z5:=Tryz.sizeOf5
 v5:=Tryz.zeroValue5
 t9:=Tryz.underlying9
 a9:=Tryz.isAgg9
 z9:=Tryz.sizeOf9
 v9:=Tryz.zeroValue9
 t20:=Tryz.underlying20
 a20:=Tryz.isAgg20
 z20:=Tryz.sizeOf20
 v20:=Tryz.zeroValue20
 t21:=Tryz.underlying21
 a21:=Tryz.isAgg21
 z21:=Tryz.sizeOf21
 v21:=Tryz.zeroValue21
 t37:=Tryz.underlying36
 a37:=Tryz.isAgg36
 z37:=Tryz.sizeOf36
 v37:=Tryz.zeroValue36
 t46:=Tryz.underlying101
 a46:=Tryz.isAgg101
 z46:=Tryz.sizeOf101
 v46:=Tryz.zeroValue101
 t51:=Tryz.underlying121
 a51:=Tryz.isAgg121
 z51:=Tryz.sizeOf121
 v51:=Tryz.zeroValue121
 t53:=Tryz.underlying125
 a53:=Tryz.isAgg125
 z53:=Tryz.sizeOf125
 v53:=Tryz.zeroValue125
 t75:=Tryz.underlying40
 a75:=Tryz.isAgg40
 z75:=Tryz.sizeOf40
 v75:=Tryz.zeroValue40
 t76:=Tryz.underlying41
 a76:=Tryz.isAgg41
 z76:=Tryz.sizeOf41
 v76:=Tryz.zeroValue41
 t85:=Tryz.underlying170
 a85:=Tryz.isAgg170
 z85:=Tryz.sizeOf170
 v85:=Tryz.zeroValue170
 t127:=Tryz.underlying83
 a127:=Tryz.isAgg83
 z127:=Tryz.sizeOf83
 v127:=Tryz.zeroValue83
 t143:=Tryz.underlying252
 a143:=Tryz.isAgg252
 z143:=Tryz.sizeOf252
 v143:=Tryz.zeroValue252
 t145:=Tryz.underlying254
 a145:=Tryz.isAgg254
 z145:=Tryz.sizeOf254
 v145:=Tryz.zeroValue254
 t167:=Tryz.underlying169
 a167:=Tryz.isAgg169
 z167:=Tryz.sizeOf169
 v167:=Tryz.zeroValue169
 t168:=Tryz.underlying172
 a168:=Tryz.isAgg172
 z168:=Tryz.sizeOf172
 v168:=Tryz.zeroValue172
 t171:=Tryz.underlying124
 a171:=Tryz.isAgg124
 z171:=Tryz.sizeOf124
 v171:=Tryz.zeroValue124
 t173:=Tryz.underlying128
 a173:=Tryz.isAgg128
 z173:=Tryz.sizeOf128
 v173:=Tryz.zeroValue128
 t175:=Tryz.underlying218
 a175:=Tryz.isAgg218
 z175:=Tryz.sizeOf218
 v175:=Tryz.zeroValue218
 t210:=Tryz.underlying221
 a210:=Tryz.isAgg221
 z210:=Tryz.sizeOf221
 v210:=Tryz.zeroValue221
 t212:=Tryz.underlying165
 a212:=Tryz.isAgg165
 z212:=Tryz.sizeOf165
 v212:=Tryz.zeroValue165
 t213:=Tryz.underlying166
 a213:=Tryz.isAgg166
 z213:=Tryz.sizeOf166
 t232:=Tryz.underlying249
 a232:=Tryz.isAgg249
 z232:=Tryz.sizeOf249
 v232:=Tryz.zeroValue249
 t233:=Tryz.underlying250
 a233:=Tryz.isAgg250
 z233:=Tryz.sizeOf250
 v233:=Tryz.zeroValue250
 g15:=by kernel_rfl
 g16:=by kernel_rfl
 g17:=by kernel_rfl
 g18:=by kernel_rfl
 g19:=by kernel_rfl
 t80:=Tryz.underlying44
 a80:=Tryz.isAgg44
 z80:=Tryz.sizeOf44
 v80:=Tryz.zeroValue44
 i0:=by kernel_rfl
 i2:=by kernel_rfl
 i3:=by kernel_rfl
 i4:=by kernel_rfl
 i5:=by kernel_rfl
 i9:=by kernel_rfl
 i20:=by kernel_rfl
 i21:=by kernel_rfl
 i37:=by kernel_rfl
 i46:=by kernel_rfl
 i51:=by kernel_rfl
 i53:=by kernel_rfl
 i75:=by kernel_rfl
 i76:=by kernel_rfl
 i80:=by kernel_rfl
 i85:=by kernel_rfl
 i127:=by kernel_rfl
 i143:=by kernel_rfl
 i145:=by kernel_rfl
 i167:=by kernel_rfl
 i168:=by kernel_rfl
 i171:=by kernel_rfl
 i173:=by kernel_rfl
 i175:=by kernel_rfl
 i210:=by kernel_rfl
 i212:=by kernel_rfl
 i232:=by kernel_rfl
 i233:=by kernel_rfl
 m15:=by kernel_rfl
 m16:=by kernel_rfl
 m17:=by kernel_rfl
 m18:=by kernel_rfl
 m19:=by kernel_rfl
 c0:=by kernel_rfl
 c2:=by kernel_rfl
 c3:=by kernel_rfl
 c4:=by kernel_rfl
 c5:=by kernel_rfl
 c9:=by kernel_rfl
 c20:=by kernel_rfl
 c21:=by kernel_rfl
 c37:=by kernel_rfl
 c46:=by kernel_rfl
 c51:=by kernel_rfl
 c53:=by kernel_rfl
 c75:=by kernel_rfl
 c76:=by kernel_rfl
 c80:=by kernel_rfl
 c85:=by kernel_rfl
 c127:=by kernel_rfl
 c143:=by kernel_rfl
 c145:=by kernel_rfl
 c167:=by kernel_rfl
 c168:=by kernel_rfl
 c171:=by kernel_rfl
 c173:=by kernel_rfl
 c175:=by kernel_rfl
 c210:=by kernel_rfl
 c212:=by kernel_rfl
 c213:=by kernel_rfl
 c232:=by kernel_rfl
 c233:=by kernel_rfl }
end Go.Proofs
