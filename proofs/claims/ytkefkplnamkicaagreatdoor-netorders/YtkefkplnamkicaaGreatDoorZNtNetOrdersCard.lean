/-
  Proved: whatever list of happenings and numbers are handed in, NetOrders returns true (packets that were sent may come in any order, and more than once: a node has the same in the end), and each argument reads afterwards as it read before; the listed package variables (the library's tables and errors) start as the program's text lays them, and the card ties that to the text.
-/
import Derived.Test.YtkefkplnamkicaaGreatDoorM55
import Derived.Test.YtkefkplnamkicaaGreatDoorM43
set_option maxRecDepth 100000
set_option maxHeartbeats 8000000
open Go.Proofs.Tryz renaming prog → I
namespace Go.Proofs.YtkefkplnamkicaaGreatDoor
open Go.ChangeShapes Go.WideShapes Go.ChangeAt Go.RowKit

theorem kC (os:Os) (started:os.Started) (H:Type) (enc:TypeId×Value→H) :
  ReturnsInHanded {} Tryz.checked os 3 .any (fun w args=>(Rows.netOrdersSpec.pre enc I Tryz.f3 [] false w args∧laidMetH I Rows.netOrdersRow.laid w)∧sizedMet enc I Tryz.f3 (OpenSpec.ofChange Rows.netOrdersSpec) false w args)
   (Rows.netOrdersSpec.post enc I Tryz.f3 false true false false):=by
 refine bW (C:=Tryz.checked) (X:=fun w _=>laidMetH I Rows.netOrdersRow.laid w) (fun _ _ _ hh h=>h.of_heap hh) vg started (by kernel_rfl) Tryz.func3
  (ChangeSpec.witness_shaped (enc:=enc) (C:=Tryz.checked) (os:=os) (X:=fun w _=>laidMetH I Rows.netOrdersRow.laid w) false (World.laidAll I os Rows.netOrdersRow.laid) #[.slice none 0 0,.slice none 0 0] 8 rfl (World.shaped_of_ZipB (by kernel_rfl) (by kernel_rfl)) (by kernel_rfl) (by kernel_rfl) (by kernel_rfl) (by rw[MakeChecks.laidMetH_plain _ _ _ (by kernel_rfl)];exact laidMet_laidAll _ (by kernel_rfl) (by kernel_rfl))) ?_
 intro W base args ds gs before hval0 hW hL hsh
 have hval:∀(j:Nat) t v,Tryz.f3.params[j]? = some t→args[j]? = some v→Value.okWide I W .any base t v:=hval0
 have hW':=hW
 obtain ⟨p,q,hA0,hV,rfl,hfz,hnd⟩:=hW
 have hA:DataW.TrodAll enc I W 0 (fun _=>true) true Tryz.f3.params.toList args.toList ds p:=hA0
 rw[Tryz.params3] at hA hval
 obtain ⟨v0,vs0,d0,ds0,p0,q0,hargs,rfl,rfl,h0,r0⟩:=trodAll_cons hA
 obtain ⟨v1,vs1,d1,ds1,p1,q1,rfl,rfl,rfl,h1,r1⟩:=trodAll_cons r0
 obtain ⟨rfl,rfl,rfl⟩:=trodAll_nil r1
 obtain rfl:args= #[v0,v1]:=by cases args;simp_all
 obtain ⟨rfl,rfl⟩:=trodVars_none hV
 have lt0:∀x∈p0,x.block<W.heap.size:=by obtain ⟨m,hm⟩:=h0;exact DataW.trod_lt m _ _ _ hm
 have lt1:∀x∈p1,x.block<W.heap.size:=by obtain ⟨m,hm⟩:=h1;exact DataW.trod_lt m _ _ _ hm
 have k0:=h0
 have k1:=h1
 obtain ⟨A0,cap0,l0,rfl,row0,ll0,lx0⟩:=fe (hval 0 22 v0 rfl rfl) h0
 obtain ⟨A1,cap1,l1,rfl,row1⟩:=mN (hval 1 23 v1 rfl rfl) h1
 clear hA0 hval0
 refine (nG A0 cap0 l0 A1 cap1 l1 W (gj hsh hL) row0 lx0 row1).mono fun e W' ⟨he,bel⟩=> ?_
 subst he
 exact ⟨_,rfl,_,_,_,[],_,[],hW',trodAll_mk1 (shut_bool Tryz.underlying4 _),(trodAll_cons_mk (Below.trod laidAll (by kernel_rfl) (of_decide_eq_true (by kernel_rfl)) k0 bel lt0) (trodAll_cons_mk (Below.trod laidAll (by kernel_rfl) (of_decide_eq_true (by kernel_rfl)) k1 bel lt1) trodAll_mk0)),rfl,bel.frame _,fun h=>by cases h⟩

theorem nH:Rows.NetOrdersSaid :=
 OpenClaim.holds_of_wide 3 Tryz.f3 rfl rfl rfl rfl rfl rfl rfl ⟨rfl,rfl,rfl,rfl,rfl⟩ rfl rfl rfl rfl rfl (by kernel_rfl) Tryz.func3 (by kernel_rfl)
  (of_decide_eq_true (by kernel_rfl)) (by unfold Func.isWrapper;first|(rw[if_pos (by decide +kernel)];kernel_rfl)|(rw[if_neg (by decide +kernel)];exact ⟨rfl,rfl⟩))
  (fun os started H enc _=>kC os started H enc)

theorem netOrders_card:Rows.NetOrdersCardSaid :=
 Claim7.holds_tied_plain_at .later [] Rows.netOrdersCard.laidKinds true Rows.netOrdersCard.stood.harness true
  nH (fun _ h=>by cases h) (by kernel_rfl) (fun _ h=>by cases h) netOrders_row_tie rfl ⟨rfl,rfl⟩ (by kernel_rfl) rfl
  (fun f fn hf hfn=>by
   obtain rfl:f=3:=sI ((show Tryz.prog.funcNamed Rows.netOrdersRow.func=some 3 by kernel_rfl).symm.trans hf) |>.symm
   obtain rfl:fn=Tryz.f3:=(sI (Tryz.func3.symm.trans hfn)).symm
   exact ⟨by kernel_rfl,fun j t ht=>by
    rw[Tryz.params3] at ht
    have hm:t∈[22,23]:=by simpa using Array.mem_of_getElem? ht
    have hall:([22,23].all fun u=> !Tryz.prog.wantsStandIn u)=true:=by kernel_rfl
    exact (show Tryz.prog.wantsStandIn t=false by simpa using List.all_eq_true.1 hall t hm)⟩)
  (by kernel_rfl)

#print axioms netOrders_card
end Go.Proofs.YtkefkplnamkicaaGreatDoor
