/-
  Proved: whatever text is handed in, DeskCounts returns true (each line that has an answer has one line of it at least), and the text reads afterwards as it read before; the listed package variables (the library's tables and errors) start as the program's text lays them, and the card ties that to the text.
-/
import Derived.Test.YtjmmpnmgpgaagaaGreatDoorM34
import Derived.Test.YtjmmpnmgpgaagaaGreatDoorM32
set_option maxRecDepth 100000
set_option maxHeartbeats 8000000
open Go.Proofs.Tryz renaming prog → I
namespace Go.Proofs.YtjmmpnmgpgaagaaGreatDoor
open Go.ChangeShapes Go.WideShapes Go.ChangeAt Go.RowKit

theorem ky (os:Os) (k:os.Started) (H:Type) (enc:TypeId×Value->H) :
  ReturnsInHanded {} Tryz.checked os 4 .any (fun w f=>(Rows.deskCountsSpec.pre enc I Tryz.f4 [] false w f/\laidMetH I Rows.deskCountsRow.laid w)/\sizedMet enc I Tryz.f4 (OpenSpec.ofChange Rows.deskCountsSpec) false w f)
   (Rows.deskCountsSpec.post enc I Tryz.f4 false true false false):=by
 refine gk (C:=Tryz.checked) (X:=fun w _=>laidMetH I Rows.deskCountsRow.laid w) (fun _ _ _ hh h=>h.of_heap hh) Ee k (by kernel_rfl) Tryz.func4
  (ChangeSpec.witness_shaped (enc:=enc) (C:=Tryz.checked) (os:=os) (X:=fun w _=>laidMetH I Rows.deskCountsRow.laid w) false (World.laidAll I os Rows.deskCountsRow.laid) #[.string ⟨#[]⟩] 8 rfl (World.shaped_of_ZipB (by kernel_rfl) (by kernel_rfl)) (by kernel_rfl) (by kernel_rfl) (by kernel_rfl) (by rw[MakeChecks.laidMetH_plain _ _ _ (by kernel_rfl)];exact laidMet_laidAll _ (by kernel_rfl) (by kernel_rfl))) ?_
 intro W u f ds gs ad g hW hL ao R
 have r:∀(j:Nat) t v,Tryz.f4.params[j]? = some t->f[j]? = some v->Value.okWide I W .any u t v:=g
 have ah:=hW
 have L:(DataW.weightsEach I (Tryz.f4.params.toList++Rows.deskCountsSpec.plain.varTypes I) (ds++gs)).all (· <= reachBytes)=true:=R
 obtain ⟨p,q,F,hV,rfl,a1,a2⟩:=hW
 have hA:DataW.TrodAll enc I W 0 (fun _=>true) true Tryz.f4.params.toList f.toList ds p:=F
 rw[Tryz.params4] at hA r L
 obtain ⟨v0,a4,d0,a0,p0,q0,an,rfl,rfl,h0,r0⟩:=trodAll_cons hA
 obtain ⟨rfl,rfl,rfl⟩:=trodAll_nil r0
 obtain rfl:f= #[v0]:=by cases f;simp_all
 obtain ⟨rfl,rfl⟩:=trodVars_none hV
 have ap:∀x∈p0,x.block<W.heap.size:=by obtain ⟨m,hm⟩:=h0;exact DataW.trod_lt m _ _ _ hm
 have k0:=h0
 obtain ⟨n0,rfl,rfl,rfl,w0⟩:=Go.ChangeMaps.open_string Tryz.underlying9 (r 0 9 v0 rfl rfl) h0
 have a3:=lM (fun n hn=>by
  have:=List.all_eq_true.1 L n (DataW.weights_mem_each (j:=0) (t:=9)  rfl rfl n hn)
  simpa using this)
 clear F g
 refine (mP n0.data.toList W (sN ao hL) (by simpa using w0)).mono fun e W' ⟨he,E⟩=> ?_
 subst he
 exact ⟨_,rfl,_,_,_,[],_,[],ah,trodAll_mk1 (shut_bool Tryz.underlying4 _),(trodAll_cons_mk (Below.trod laidAll (by kernel_rfl) (of_decide_eq_true (by kernel_rfl)) k0 E ap) trodAll_mk0),rfl,E.frame _,fun h=>by cases h⟩

theorem mQ:Rows.DeskCountsSaid :=
 OpenClaim.holds_of_wide 4 Tryz.f4 rfl rfl rfl rfl rfl rfl rfl ⟨rfl,rfl,rfl,rfl,rfl⟩ rfl rfl rfl rfl rfl (by kernel_rfl) Tryz.func4 (by kernel_rfl)
  (of_decide_eq_true (by kernel_rfl)) (by unfold Func.isWrapper;first|(rw[if_pos (by decide +kernel)];kernel_rfl)|(rw[if_neg (by decide +kernel)];exact ⟨rfl,rfl⟩))
  (fun g f H enc _=>ky g f H enc)

theorem deskCounts_card:Rows.DeskCountsCardSaid :=
 Claim7.holds_tied_plain_at .later [] Rows.deskCountsCard.laidKinds true Rows.deskCountsCard.stood.harness true
  mQ (fun _ h=>by cases h) (by kernel_rfl) (fun _ h=>by cases h) deskCounts_row_tie rfl ⟨rfl,rfl⟩ (by kernel_rfl) rfl
  (fun f r C k=>by
   obtain rfl:f=4:=sI ((show Tryz.prog.funcNamed Rows.deskCountsRow.func=some 4 by kernel_rfl).symm.trans C) |>.symm
   obtain rfl:r=Tryz.f4:=(sI (Tryz.func4.symm.trans k)).symm
   exact ⟨by kernel_rfl,fun j t n=>by
    rw[Tryz.params4] at n
    have E:t∈[9]:=by simpa using Array.mem_of_getElem? n
    have g:([9].all fun u=> !Tryz.prog.wantsStandIn u)=true:=by kernel_rfl
    exact (show Tryz.prog.wantsStandIn t=false by simpa using List.all_eq_true.1 g t E)⟩)
  (by kernel_rfl)

#print axioms deskCounts_card
end Go.Proofs.YtjmmpnmgpgaagaaGreatDoor
