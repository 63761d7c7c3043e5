/-
  From what the rows lay and from the world's shape: what the library's texts read.
-/
import Derived.Test.YtkefkplnamkicaaGreatDoorM42
import Derived.Test.YtkefkplnamkicaaGreatDoorCards
import Derived.Test.YtkefkplnamkicaaGreatDoorTie
import Derived.LaidMore
import Derived.Stop.Joined
import Derived.SevenTiedAt
import Derived.HandedShaped
import Derived.Stop.LaidErr
import Derived.Lay
set_option maxRecDepth 100000
set_option maxHeartbeats 8000000
namespace Go.Proofs.YtkefkplnamkicaaGreatDoor
open Go.ChangeShapes Go.WideShapes Go.ChangeAt Go.RowKit

theorem Br : ((Tryz.prog.globalNamed "internal/strconv.uint64pow10").bind fun g => (Tryz.prog.globals[g]?).map (·.type)) = some 317 := by kernel_rfl
theorem vE {H:Type}:(Rows.laid_internal_strconv_uint64pow10:DataW H)=Lib.tabData .u64 Lib.pow10Tab:=rfl
theorem gES : Tryz.prog.globalNamed "strconv.ErrSyntax" = some (Tryz.lays172_ren.g 15) := by kernel_rfl
theorem zi:(Tryz.prog.globals[Tryz.lays172_ren.g 15]?).map (·.type)=some 195:=by kernel_rfl
theorem tT {W:World} (h:laidMetH Tryz.prog Rows.topAlikeRow.laid W):pz W∧∃ev,W.cell? ⟨Tryz.lays172_ren.g 15,0,none⟩=some ev∧(ev= .nilIface∨∃te pe,ev= .iface te pe):=by
 rw[MakeChecks.laidMetH_plain _ _ _ (by kernel_rfl)] at h
 obtain ⟨ps,⟨g0,t0,cs0,f0,p0,q0,hg0,ht0,hv0,hd0,⟨g1,t1,cs1,f1,p1,q1,hg1,ht1,hv1,hd1,⟨g2,t2,cs2,f2,p2,q2,hg2,ht2,hv2,hd2,⟨g3,t3,cs3,f3,p3,q3,hg3,ht3,hv3,hd3,⟨g4,t4,cs4,f4,p4,q4,hg4,ht4,hv4,hd4,h5,_⟩,_⟩,_⟩,_⟩,_⟩,_,_⟩:=h
 constructor
 ·have hT:=Br
  rw[hg2] at hT
  obtain rfl:=sI (ht2.symm.trans hT)
  rw[vE] at hd2
  have:=Lib.cells_of_tab Tryz.underlying317 Tryz.underlying229 (by kernel_rfl) (by kernel_rfl) hd2
  show W.var? Tryz.prog _=some _
  rw[hv2,←this]
 ·obtain ⟨g5,t5,cs5,f5,p5,q5,hg5,ht5,hv5,hd5,_,_⟩:=h5
  rw[←Option.some.inj (gES.symm.trans hg5),zi] at ht5
  obtain rfl:=sI ht5
  obtain ⟨_,u,v,hcs,_,_⟩:=iface_of_trod Tryz.underlying195 hd5
  refine ⟨.iface u v,?_,oR ⟨u,v,rfl⟩⟩
  rw[World.var?_cell gES hv5 0]
  have h1:cs5.toList[0]? = some (.iface u v):=by rw[hcs];rfl
  simpa using h1
theorem gj {W:World} (h:W.ShapedOpen Tryz.prog) (hL:laidMetH Tryz.prog Rows.topAlikeRow.laid W):Reads W:=⟨Tryz.lays145.s1_3 W h,(tT hL).2,(tT hL).1⟩
theorem bW {H:Type} {enc:TypeId×Value→H} {a:Assume} {C:Checked} {os:Os} {f:FuncId} {fn:Func} {s:ChangeSpec} {conds:List PathCond} {apart fresh handsOn again:Bool} {X:World→Array Value→Prop}
  (hX:∀(w w':World) (args:Array Value),w.heap=w'.heap→X w args→X w' args)
  (own:ownKnob C.prog.godebug=none) (started:os.Started) (noInit:C.prog.inits.idxOf? f=none) (hfn:C.prog.funcs[f]? = some fn)
  (witness:∃(w:World) (tape:Tape) (i:Input),w.os=os∧(w.forCall tape i).Shaped C.prog∧i.vars=[]∧Input.okWide C.prog (w.forCall tape i) .any w.heap.size f i ∧
   ((s.pre enc C.prog fn conds apart (w.forCall tape i).memory i.args∧X (w.forCall tape i).memory i.args)∧sizedMet enc C.prog fn (OpenSpec.ofChange s) apart (w.forCall tape i).memory i.args)∧a.holds C.prog (lone (Frame.enter C.prog f i.args .normal) [] (w.forCall tape i)))
  (contract:∀(W:World) (base:Nat) (args:Array Value) (ds gs:List (DataW H)) (before:List MemPlace),
   (∀(j:Nat) t v,fn.params[j]? = some t→args[j]? = some v→Value.okWide C.prog W .any base t v) →
   DataW.Whole enc C.prog fn.params.toList s.vars apart W args.toList ds gs before→X W args→W.ShapedOpen C.prog →
   Calls C.prog f args W fun e W'=>∃v,e= .returned v∧s.post enc C.prog fn apart fresh handsOn again W args v W') :
  ReturnsInHanded a C os f .any (fun w args=>(s.pre enc C.prog fn conds apart w args∧X w args)∧sizedMet enc C.prog fn (OpenSpec.ofChange s) apart w args) (s.post enc C.prog fn apart fresh handsOn again):=by
 refine returnsInHanded_of_calls own started noInit witness ?_
 intro w tape i _ hsh _ hok hpre _
 obtain ⟨_,_,_,fn',hfn',_,_,_,_,hval⟩:=hok
 obtain rfl:fn'=fn:=sI (hfn'.symm.trans hfn)
 obtain ⟨⟨⟨ds,gs,before,hw,hc⟩,hx⟩,hz⟩:=hpre
 refine (contract (w.forCall tape i) w.heap.size i.args ds gs before hval (DataW.Whole.of_heap (w':=w.forCall tape i) (by rfl) hw) (hX _ _ _ (by rfl) hx) hsh).mono fun e W' ⟨v,he,hp⟩=> ?_
 subst he
 exact ChangeSpec.post_blind hp
end Go.Proofs.YtkefkplnamkicaaGreatDoor
