import Derived.Test.YtjmmpnmgpgaagaaGreatDoorM31
set_option maxRecDepth 100000
set_option maxHeartbeats 8000000
open Go.Ending renaming returned → S
open Go.Proofs.Tryz renaming prog → V
open Go.Value renaming string → I
namespace Go.Proofs.YtjmmpnmgpgaagaaGreatDoor
open Go.RowKit Go.Sort

theorem BS {y p:List UInt8} (h:p <+: y):fr y p=true:=by
 obtain ⟨t,rfl⟩:=h
 unfold fr
 simp
theorem qz (x y:List UInt8) (w:World) (hr:Reads w) (hs:x.length+y.length<=8000000000000000000) :
  Calls V 3 #[I ⟨x.toArray⟩,I ⟨y.toArray⟩] w fun e w'=>e= S (.bool true)/\Below w.heap.size w w':=by
 have F:=kP De w hr (by unfold maxLen;decide)
 rw[BF] at F
 have g:=ja1 F
 have a3:=ja1 hr
 obtain ⟨X1,n⟩:∃X,x++[10]=X:=⟨_,rfl⟩
 obtain ⟨a5,hZ⟩:∃X,X1++y=X:=⟨_,rfl⟩
 have a1:∀w,(Op.stringOp .add ⟨x.toArray⟩ ⟨#[10]⟩).run V w= .ok (I ⟨X1.toArray⟩) w:=by rw[<-n];exact l6 (y:=[10]) rfl rfl rfl (by simp;omega)
 have a2:∀w,(Op.stringOp .add ⟨X1.toArray⟩ ⟨y.toArray⟩).run V w= .ok (I ⟨a5.toArray⟩) w:=by rw[<-hZ,<-n];exact l6 rfl rfl rfl (by simp;omega)
 have a0:Hid (a5=x++10::y):=by show a5=_;rw[<-hZ,<-n];simp
 have hP:Hid (a5.length<=65536->(dy a5).length<=200->fr (cP a5) (cP x)=true):=fun h1 h2=>by
  rw[a0.out] at h1 h2 ⊢
  exact BS (Aw h1 h2)
 have ad:x.length<=a5.length:=by rw[a0.out,List.length_append];omega
 clear F hr n hZ hs
 by_cases h1:65536<a5.length
 ·have a4:(65536:Int)<(a5.length:Int):=by omega
  clear h1 hP ad
  go_enter Tryz.func3,Tryz.ntmps3
  go_wp2_with fail
  refine ja0 g ?_
  rintro e w1 ⟨rfl,r⟩
  have C:=ja1 r
  clear r g
  go_wp2
  go_ret
  exact ⟨rfl,C.out⟩
 have a4:¬(65536:Int)<(a5.length:Int):=by omega
 have h:a5.length<=65536:=by omega
 have j:Hid (∀W,Calls V 6 #[I ⟨a5.toArray⟩] W fun e w'=>(∃A cap,e= S (.slice A (dy a5).length cap)/\cw w' A (dy a5))/\Below W.heap.size W w'):=fun W=>nY a5 W h
 by_cases h2:200<(dy a5).length
 ·have ah:(200:Int)<((dy a5).length:Int):=by omega
  clear h1 h2 h hP ad
  go_enter Tryz.func3,Tryz.ntmps3
  go_wp2_with fail
  refine ja0 g ?_
  rintro e w1 ⟨rfl,r⟩
  have C:=ja1 r
  clear r g
  go_wp2_with fail
  refine cM (j.out _) ?_
  rintro e w2 ⟨⟨A,cap,rfl,_⟩,f⟩
  have hG:=ja1 (C.out.trans (f.mono C.out.size))
  clear f j
  go_wp2
  go_ret
  exact ⟨rfl,hG.out⟩
 have ah:¬(200:Int)<((dy a5).length:Int):=by omega
 have ap:Hid (fr (cP a5) (cP x)=true):=hP.out h (by omega)
 have hm:x.length<=maxLen/\a5.length<=maxLen:=by unfold maxLen;omega
 have L:Hid (∀W,Below w.heap.size w W->Calls V 5 #[I ⟨a5.toArray⟩] W fun e w'=>e= S (I ⟨(cP a5).toArray⟩)/\Below W.heap.size W w'):=fun W hW=>kP a5 W (a3.out.below hW) hm.2
 have R:Hid (∀W,Below w.heap.size w W->Calls V 5 #[I ⟨x.toArray⟩] W fun e w'=>e= S (I ⟨(cP x).toArray⟩)/\Below W.heap.size W w'):=fun W hW=>kP x W (a3.out.below hW) hm.1
 have k:Hid (∀W,Calls V 7 #[I ⟨(cP a5).toArray⟩,I ⟨(cP x).toArray⟩] W fun e w'=>e= S (.bool true)/\Gr W w'):=fun W=>by rw[<-ap.out];exact gW _ _ W
 obtain ⟨O1,an⟩:∃O,cP a5=O:=⟨_,rfl⟩
 obtain ⟨O2,ao⟩:∃O,cP x=O:=⟨_,rfl⟩
 obtain ⟨LL,E⟩:∃O,(dy a5).length=O:=⟨_,rfl⟩
 rw[an] at L k
 rw[ao] at R k
 have u:Hid (∀W,Calls V 6 #[I ⟨a5.toArray⟩] W fun e w'=>(∃A cap,e= S (.slice A LL cap))/\Below W.heap.size W w'):=fun W=>by
  refine (j.out W).mono ?_
  rintro e w' ⟨⟨A,cap,rfl,_⟩,f⟩
  exact ⟨⟨A,cap,by rw[E]⟩,f⟩
 rw[E] at ah
 clear h1 h2 h hP ad ap hm an ao j E
 go_enter Tryz.func3,Tryz.ntmps3
 go_wp2_with fail
 refine ja0 g ?_
 rintro e w1 ⟨rfl,r⟩
 have C:=ja1 r
 clear r g
 go_wp2_with fail
 refine cM (u.out _) ?_
 rintro e w2 ⟨⟨A,cap,rfl⟩,f⟩
 have hG:=ja1 (C.out.trans (f.mono C.out.size))
 clear f u
 go_wp2_with fail
 refine cM (L.out _ hG.out) ?_
 rintro e w3 ⟨rfl,f⟩
 have hI:=ja1 (hG.out.trans (f.mono hG.out.size))
 clear f L
 go_wp2_with fail
 refine cM (R.out _ hI.out) ?_
 rintro e w4 ⟨rfl,f⟩
 have hJ:=ja1 (hI.out.trans (f.mono hI.out.size))
 clear f R
 go_wp2_with fail
 refine cM (k.out _) ?_
 rintro e w5 ⟨rfl,f⟩
 have hK:=ja1 (hJ.out.trans (f.below.mono hJ.out.size))
 clear f k
 go_wp2
 go_ret
 exact ⟨rfl,hK.out⟩
end Go.Proofs.YtjmmpnmgpgaagaaGreatDoor
