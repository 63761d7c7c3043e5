import Derived.Test.YtjmmpnmgpgaagaaGreatDoorM30
import Derived.ChangeMaps5
import Derived.Test.YtjmmpnmgpgaagaaGreatDoorCards
import Derived.Test.YtjmmpnmgpgaagaaGreatDoorTie
import Derived.LaidMore
import Derived.Stop.Joined
import Derived.SevenTiedAt
import Derived.HandedShaped
import Derived.Stop.LaidErr
import Derived.Lay
set_option maxRecDepth 100000
set_option maxHeartbeats 8000000
namespace Go.Proofs.YtjmmpnmgpgaagaaGreatDoor
open Go.ChangeShapes Go.WideShapes Go.ChangeAt Go.RowKit

theorem Ev : ((Tryz.prog.globalNamed "internal/strconv.uint64pow10").bind fun g => (Tryz.prog.globals[g]?).map (·.type)) = some 165 := by kernel_rfl
theorem yh {H:Type}:(Rows.laid_internal_strconv_uint64pow10:DataW H)=Lib.tabData .u64 Lib.pow10Tab:=rfl
theorem gES : Tryz.prog.globalNamed "strconv.ErrSyntax" = some (Tryz.lays172_ren.g 15) := by kernel_rfl
theorem Bz:(Tryz.prog.globals[Tryz.lays172_ren.g 15]?).map (·.type)=some 40:=by kernel_rfl
theorem vF {W:World} (h:laidMetH Tryz.prog Rows.deskCountsRow.laid W):dK W/\∃n,W.cell? ⟨Tryz.lays172_ren.g 15,0,none⟩=some n/\(n= .nilIface\/∃te pe,n= .iface te pe):=by
 rw[MakeChecks.laidMetH_plain _ _ _ (by kernel_rfl)] at h
 obtain ⟨ps,⟨g0,t0,ah,f0,p0,q0,a5,a9,bd,a1,⟨g1,t1,an,f1,p1,q1,a6,ba,be,a2,⟨g2,t2,ao,f2,p2,q2,E,L,R,f,⟨g3,t3,ap,f3,p3,q3,a7,bb,bh,a3,⟨g4,t4,a0,f4,p4,q4,a8,bc,bl,a4,h5,_⟩,_⟩,_⟩,_⟩,_⟩,_,_⟩:=h
 constructor
 ·have hT:=Ev
  rw[E] at hT
  obtain rfl:=sI (L.symm.trans hT)
  rw[yh] at f
  have:=Lib.cells_of_tab Tryz.underlying165 Tryz.underlying125 (by kernel_rfl) (by kernel_rfl) f
  show W.var? Tryz.prog _=some _
  rw[R,<-this]
 ·obtain ⟨g5,t5,k,f5,p5,q5,F,j,ad,C,_,_⟩:=h5
  rw[<-Option.some.inj (gES.symm.trans F),Bz] at j
  obtain rfl:=sI j
  obtain ⟨_,u,v,r,_,_⟩:=iface_of_trod Tryz.underlying40 C
  refine ⟨.iface u v,?_,oR ⟨u,v,rfl⟩⟩
  rw[World.var?_cell gES ad 0]
  have h1:k.toList[0]? = some (.iface u v):=by rw[r];rfl
  simpa using h1
theorem sN {W:World} (h:W.ShapedOpen Tryz.prog) (f:laidMetH Tryz.prog Rows.deskCountsRow.laid W):Reads W:=⟨Tryz.lays145.s1_3 W h,(vF f).2,(vF f).1⟩
theorem gk {H:Type} {enc:TypeId×Value->H} {a:Assume} {C:Checked} {os:Os} {f:FuncId} {L:Func} {s:ChangeSpec} {F:List PathCond} {h R r E:Bool} {X:World->Array Value->Prop}
  (hX:∀(w w':World) (g:Array Value),w.heap=w'.heap->X w g->X w' g)
  (own:ownKnob C.prog.godebug=none) (ad:os.Started) (an:C.prog.inits.idxOf? f=none) (a3:C.prog.funcs[f]? = some L)
  (ah:∃(w:World) (k:Tape) (i:Input),w.os=os/\(w.forCall k i).Shaped C.prog/\i.vars=[]/\Input.okWide C.prog (w.forCall k i) .any w.heap.size f i /\
   ((s.pre enc C.prog L F h (w.forCall k i).memory i.args/\X (w.forCall k i).memory i.args)/\sizedMet enc C.prog L (OpenSpec.ofChange s) h (w.forCall k i).memory i.args)/\a.holds C.prog (lone (Frame.enter C.prog f i.args .normal) [] (w.forCall k i)))
  (u:∀(W:World) (ao:Nat) (g:Array Value) (ds gs:List (DataW H)) (n:List MemPlace),
   (∀(j:Nat) t v,L.params[j]? = some t->g[j]? = some v->Value.okWide C.prog W .any ao t v) ->
   DataW.Whole enc C.prog L.params.toList s.vars h W g.toList ds gs n->X W g->W.ShapedOpen C.prog ->
   (DataW.weightsEach C.prog (L.params.toList++s.plain.varTypes C.prog) (ds++gs)).all (· <= reachBytes)=true ->
   Calls C.prog f g W fun e W'=>∃v,e= .returned v/\s.post enc C.prog L h R r E W g v W') :
  ReturnsInHanded a C os f .any (fun w g=>(s.pre enc C.prog L F h w g/\X w g)/\sizedMet enc C.prog L (OpenSpec.ofChange s) h w g) (s.post enc C.prog L h R r E):=by
 refine returnsInHanded_of_calls own ad an ah ?_
 intro w k i _ a5 _ a4 a0 _
 obtain ⟨_,_,_,a2,ap,_,_,_,_,a1⟩:=a4
 obtain rfl:a2=L:=sI (ap.symm.trans a3)
 obtain ⟨⟨⟨ds,gs,n,hw,hc⟩,hx⟩,hz⟩:=a0
 refine (u (w.forCall k i) w.heap.size i.args ds gs n a1 (DataW.Whole.of_heap (w':=w.forCall k i) (by rfl) hw) (hX _ _ _ (by rfl) hx) a5 (sizedMet.weights hz hw)).mono fun e W' ⟨v,he,hp⟩=> ?_
 subst he
 exact ChangeSpec.post_blind hp
theorem lM {H:Type} {l:List UInt8} (h:∀n∈(DataW.lit (H:=H) (.string l)).weights Tryz.prog 9,n<=reachBytes):l.length<=140737488351232:=by
 have f:=h l.length (by simp[DataW.weights])
 have g:reachBytes<=140737488351232:=by decide
 omega
end Go.Proofs.YtjmmpnmgpgaagaaGreatDoor
