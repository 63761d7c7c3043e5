/-
  Proved: whatever two texts are handed in, DeskHead returns true (what is answered to the first lines is what begins the answer to all), and each text reads afterwards as it read before; the listed package variables (the library's tables and errors) start as the program's text lays them, and the card ties that to the text.
-/
import Derived.Test.YtjmmpnmgpgaagaaGreatDoorM33
import Derived.Test.YtjmmpnmgpgaagaaGreatDoorM32
set_option maxRecDepth 100000
set_option maxHeartbeats 8000000
open Go.Proofs.Tryz renaming prog → I
namespace Go.Proofs.YtjmmpnmgpgaagaaGreatDoor
open Go.ChangeShapes Go.WideShapes Go.ChangeAt Go.RowKit

theorem mo (os:Os) (r:os.Started) (H:Type) (enc:TypeId×Value->H) :
  ReturnsInHanded {} Tryz.checked os 3 .any (fun w f=>(Rows.deskHeadSpec.pre enc I Tryz.f3 [] false w f/\laidMetH I Rows.deskHeadRow.laid w)/\sizedMet enc I Tryz.f3 (OpenSpec.ofChange Rows.deskHeadSpec) false w f)
   (Rows.deskHeadSpec.post enc I Tryz.f3 false true false false):=by
 refine gk (C:=Tryz.checked) (X:=fun w _=>laidMetH I Rows.deskHeadRow.laid w) (fun _ _ _ hh h=>h.of_heap hh) Ee r (by kernel_rfl) Tryz.func3
  (ChangeSpec.witness_shaped (enc:=enc) (C:=Tryz.checked) (os:=os) (X:=fun w _=>laidMetH I Rows.deskHeadRow.laid w) false (World.laidAll I os Rows.deskHeadRow.laid) #[.string ⟨#[]⟩,.string ⟨#[]⟩] 8 rfl (World.shaped_of_ZipB (by kernel_rfl) (by kernel_rfl)) (by kernel_rfl) (by kernel_rfl) (by kernel_rfl) (by rw[MakeChecks.laidMetH_plain _ _ _ (by kernel_rfl)];exact laidMet_laidAll _ (by kernel_rfl) (by kernel_rfl))) ?_
 intro W F f ds gs ad k hW hL ao R
 have g:∀(j:Nat) t v,Tryz.f3.params[j]? = some t->f[j]? = some v->Value.okWide I W .any F t v:=k
 have ah:=hW
 have E:(DataW.weightsEach I (Tryz.f3.params.toList++Rows.deskHeadSpec.plain.varTypes I) (ds++gs)).all (· <= reachBytes)=true:=R
 obtain ⟨p,q,L,hV,rfl,a3,a4⟩:=hW
 have hA:DataW.TrodAll enc I W 0 (fun _=>true) true Tryz.f3.params.toList f.toList ds p:=L
 rw[Tryz.params3] at hA g E
 obtain ⟨v0,a7,d0,a1,p0,q0,an,rfl,rfl,h0,r0⟩:=trodAll_cons hA
 obtain ⟨v1,a8,d1,a2,p1,q1,rfl,rfl,rfl,h1,r1⟩:=trodAll_cons r0
 obtain ⟨rfl,rfl,rfl⟩:=trodAll_nil r1
 obtain rfl:f= #[v0,v1]:=by cases f;simp_all
 obtain ⟨rfl,rfl⟩:=trodVars_none hV
 have ap:∀x∈p0,x.block<W.heap.size:=by obtain ⟨m,hm⟩:=h0;exact DataW.trod_lt m _ _ _ hm
 have a0:∀x∈p1,x.block<W.heap.size:=by obtain ⟨m,hm⟩:=h1;exact DataW.trod_lt m _ _ _ hm
 have k0:=h0
 have k1:=h1
 obtain ⟨n0,rfl,rfl,rfl,w0⟩:=Go.ChangeMaps.open_string Tryz.underlying9 (g 0 9 v0 rfl rfl) h0
 obtain ⟨n1,rfl,rfl,rfl,w1⟩:=Go.ChangeMaps.open_string Tryz.underlying9 (g 1 9 v1 rfl rfl) h1
 have a5:=lM (fun n hn=>by
  have:=List.all_eq_true.1 E n (DataW.weights_mem_each (j:=0) (t:=9)  rfl rfl n hn)
  simpa using this)
 have a6:=lM (fun n hn=>by
  have:=List.all_eq_true.1 E n (DataW.weights_mem_each (j:=1) (t:=9)  rfl rfl n hn)
  simpa using this)
 clear L k
 refine (qz n0.data.toList n1.data.toList W (sN ao hL) (by omega)).mono fun e W' ⟨he,u⟩=> ?_
 subst he
 exact ⟨_,rfl,_,_,_,[],_,[],ah,trodAll_mk1 (shut_bool Tryz.underlying4 _),(trodAll_cons_mk (Below.trod laidAll (by kernel_rfl) (of_decide_eq_true (by kernel_rfl)) k0 u ap) (trodAll_cons_mk (Below.trod laidAll (by kernel_rfl) (of_decide_eq_true (by kernel_rfl)) k1 u a0) trodAll_mk0)),rfl,u.frame _,fun h=>by cases h⟩

theorem qA:Rows.DeskHeadSaid :=
 OpenClaim.holds_of_wide 3 Tryz.f3 rfl rfl rfl rfl rfl rfl rfl ⟨rfl,rfl,rfl,rfl,rfl⟩ rfl rfl rfl rfl rfl (by kernel_rfl) Tryz.func3 (by kernel_rfl)
  (of_decide_eq_true (by kernel_rfl)) (by unfold Func.isWrapper;first|(rw[if_pos (by decide +kernel)];kernel_rfl)|(rw[if_neg (by decide +kernel)];exact ⟨rfl,rfl⟩))
  (fun g f H enc _=>mo g f H enc)

theorem deskHead_card:Rows.DeskHeadCardSaid :=
 Claim7.holds_tied_plain_at .later [] Rows.deskHeadCard.laidKinds true Rows.deskHeadCard.stood.harness true
  qA (fun _ h=>by cases h) (by kernel_rfl) (fun _ h=>by cases h) deskHead_row_tie rfl ⟨rfl,rfl⟩ (by kernel_rfl) rfl
  (fun f r C k=>by
   obtain rfl:f=3:=sI ((show Tryz.prog.funcNamed Rows.deskHeadRow.func=some 3 by kernel_rfl).symm.trans C) |>.symm
   obtain rfl:r=Tryz.f3:=(sI (Tryz.func3.symm.trans k)).symm
   exact ⟨by kernel_rfl,fun j t n=>by
    rw[Tryz.params3] at n
    have E:t∈[9,9]:=by simpa using Array.mem_of_getElem? n
    have g:([9,9].all fun u=> !Tryz.prog.wantsStandIn u)=true:=by kernel_rfl
    exact (show Tryz.prog.wantsStandIn t=false by simpa using List.all_eq_true.1 g t E)⟩)
  (by kernel_rfl)

#print axioms deskHead_card
end Go.Proofs.YtjmmpnmgpgaagaaGreatDoor
