/-
  Proved: whatever number and list of acts are handed in, NodePlays returns true (a node does what the program's second telling does, act by act, and its views tell the same), and each argument reads afterwards as it read before; the listed package variables (the library's tables) start as the program's text lays them, and the card ties that to the text.
-/
import Derived.Test.YtbkjgjjpnfhkhaaGreatDoorM39
import Derived.Test.YtbkjgjjpnfhkhaaGreatDoorCards
import Derived.Test.YtbkjgjjpnfhkhaaGreatDoorTie
import Derived.LaidMore
import Derived.Stop.Joined
import Derived.SevenTiedAt
import Derived.HandedShaped
import Derived.Lay
set_option maxRecDepth 100000
set_option maxHeartbeats 8000000
open Go.Proofs.Tryz renaming prog → I
namespace Go.Proofs.YtbkjgjjpnfhkhaaGreatDoor
open Go.ChangeShapes Go.WideShapes Go.ChangeAt Go.RowKit Go.Deep

theorem Ba : ((Tryz.prog.globalNamed "internal/strconv.uint64pow10").bind fun g => (Tryz.prog.globals[g]?).map (·.type)) = some 271 := by kernel_rfl
theorem uo {H:Type}:(Rows.laid_internal_strconv_uint64pow10:DataW H)=Lib.tabData .u64 Lib.pow10Tab:=rfl
theorem yL {W:World} (h:laidMetH I Rows.nodePlaysRow.laid W):fC W:=by rw[MakeChecks.laidMetH_plain _ _ _ (by kernel_rfl)] at h;obtain ⟨ps,⟨g0,t0,k,f0,p0,q0,u,D,F,n,⟨g1,t1,l,f1,p1,q1,C,E,R,r,⟨g2,t2,m,f2,p2,q2,d,f,g,c,_,_⟩,_⟩,_⟩,_,_⟩:=h;have j:=Ba;rw[d] at j;obtain rfl:=sI (f.symm.trans j);rw[uo] at c;have:=Lib.cells_of_tab Tryz.underlying271 Tryz.underlying175 (by kernel_rfl) (by kernel_rfl) c;show W.var? I _=some _;rw[g,<-this]

theorem jO (os:Os) (g:os.Started) (H:Type) (enc:TypeId×Value->H) :
  ReturnsInHanded {} Tryz.checked os 3 .any (fun w c=>(Rows.nodePlaysSpec.pre enc I Tryz.f3 [] false w c/\laidMetH I Rows.nodePlaysRow.laid w)/\sizedMet enc I Tryz.f3 (OpenSpec.ofChange Rows.nodePlaysSpec) false w c)
   (Rows.nodePlaysSpec.post enc I Tryz.f3 false true false false):=by
 refine returnsInHanded_of_change_and (C:=Tryz.checked) (X:=fun w _=>laidMetH I Rows.nodePlaysRow.laid w) (fun _ _ _ hh h=>h.of_heap hh) Bo g (by kernel_rfl) Tryz.func3
  (ChangeSpec.witness_shaped (enc:=enc) (C:=Tryz.checked) (os:=os) (X:=fun w _=>laidMetH I Rows.nodePlaysRow.laid w) false (World.laidAll I os Rows.nodePlaysRow.laid) #[.int .i64 0,.slice none 0 0] 8 rfl (World.shaped_of_ZipB (by kernel_rfl) (by kernel_rfl)) (by kernel_rfl) (by kernel_rfl) (by kernel_rfl) (by rw[MakeChecks.laidMetH_plain _ _ _ (by kernel_rfl)];exact laidMet_laidAll _ (by kernel_rfl) (by kernel_rfl))) ?_
 intro W n c ds gs u f hW _ _ hL _;have d:∀(j:Nat) t v,Tryz.f3.params[j]? = some t->c[j]? = some v->Value.okWide I W .any n t v:=f;have R:=hW;obtain ⟨p,q,r,hV,rfl,ap,aL⟩:=hW;have hA:DataW.TrodAll enc I W 0 (fun _=>true) true Tryz.f3.params.toList c.toList ds p:=r;rw[Tryz.params3] at hA d;obtain ⟨v0,a0,d0,an,p0,q0,ad,rfl,rfl,D,r0⟩:=trodAll_cons hA;obtain ⟨v1,a1,d1,ao,p1,q1,rfl,rfl,rfl,E,r1⟩:=trodAll_cons r0;obtain ⟨rfl,rfl,rfl⟩:=trodAll_nil r1;obtain rfl:c= #[v0,v1]:=by cases c;simp_all
 obtain ⟨rfl,rfl⟩:=trodVars_none hV;have ah:∀x∈p0,x.block<W.heap.size:=by obtain ⟨m,hm⟩:=D;exact DataW.trod_lt m _ _ _ hm
 have ak:∀x∈p1,x.block<W.heap.size:=by obtain ⟨m,hm⟩:=E;exact DataW.trod_lt m _ _ _ hm
 have k0:=D;have k1:=E;obtain ⟨z0,rfl,rfl,rfl,_⟩:=open_int Tryz.underlying3 (d 0 3 v0 rfl rfl) D;obtain ⟨A,cap,l,rfl,F,_⟩:=tE (d 1 22 v1 rfl rfl) E;clear r f;refine (mJ z0 l A cap W F (yL hL)).mono fun e W' ⟨he,k⟩=> ?_;subst he
 exact ⟨_,rfl,_,_,_,[],_,[],R,trodAll_mk1 (shut_bool Tryz.underlying4 _),
  (trodAll_cons_mk (Below.trod laidAll (by kernel_rfl) (of_decide_eq_true (by kernel_rfl)) k0 k ah)
   (trodAll_cons_mk (Below.trod laidAll (by kernel_rfl) (of_decide_eq_true (by kernel_rfl)) k1 k ak) trodAll_mk0)),rfl,k.frame _,fun h=>by cases h⟩

theorem mK:Rows.NodePlaysSaid :=
 OpenClaim.holds_of_wide 3 Tryz.f3 rfl rfl rfl rfl rfl rfl rfl ⟨rfl,rfl,rfl,rfl,rfl⟩ rfl rfl rfl rfl rfl (by kernel_rfl) Tryz.func3 (by kernel_rfl)
  (of_decide_eq_true (by kernel_rfl)) (by unfold Func.isWrapper;first|(rw[if_pos (by decide +kernel)];kernel_rfl)|(rw[if_neg (by decide +kernel)];exact ⟨rfl,rfl⟩))
  (fun d c H enc _=>jO d c H enc)

theorem nodePlays_card:Rows.NodePlaysCardSaid :=
 Claim7.holds_tied_plain_at .later [] Rows.nodePlaysCard.laidKinds true Rows.nodePlaysCard.stood.harness false
  mK (fun _ h=>by cases h) (by kernel_rfl) (fun _ h=>by cases h) nodePlays_row_tie rfl ⟨rfl,rfl⟩ (by kernel_rfl) rfl
  (fun f k l d=>by
   obtain rfl:f=3:=sI ((show Tryz.prog.funcNamed Rows.nodePlaysRow.func=some 3 by kernel_rfl).symm.trans l) |>.symm
   obtain rfl:k=Tryz.f3:=(sI (Tryz.func3.symm.trans d)).symm
   exact ⟨by kernel_rfl,fun j t g=>by
    rw[Tryz.params3] at g
    have m:t∈[3,22]:=by simpa using Array.mem_of_getElem? g
    have c:([3,22].all fun u=> !Tryz.prog.wantsStandIn u)=true:=by kernel_rfl
    exact (show Tryz.prog.wantsStandIn t=false by simpa using List.all_eq_true.1 c t m)⟩)
  (by kernel_rfl)

#print axioms nodePlays_card
end Go.Proofs.YtbkjgjjpnfhkhaaGreatDoor
