import Derived.Test.YtkefkplnamkicabGreatDoorM29
import Derived.Test.YtkefkplnamkicabGreatDoorCards
import Derived.Test.YtkefkplnamkicabGreatDoorTie
import Derived.LaidMore
import Derived.Stop.Joined
import Derived.SevenTiedAt
import Derived.HandedShaped
import Derived.Stop.LaidErr
import Derived.Lay
set_option maxRecDepth 100000
set_option maxHeartbeats 8000000
open Go.Proofs.Tryz renaming prog → I
namespace Go.Proofs.YtkefkplnamkicabGreatDoor
open Go.ChangeShapes Go.WideShapes Go.ChangeAt Go.RowKit

theorem zG : ((Tryz.prog.globalNamed "internal/strconv.uint64pow10").bind fun g => (Tryz.prog.globals[g]?).map (·.type)) = some 306 := by kernel_rfl
theorem tG {H:Type}:(Rows.laid_internal_strconv_uint64pow10:DataW H)=Lib.tabData .u64 Lib.pow10Tab:=rfl
theorem gES : Tryz.prog.globalNamed "strconv.ErrSyntax" = some (Tryz.lays172_ren.g 15) := by kernel_rfl
theorem xe:(Tryz.prog.globals[Tryz.lays172_ren.g 15]?).map (·.type)=some 213:=by kernel_rfl
theorem rO {W:World} (h:laidMetH I Rows.topWinsRow.laid W):nJ W∧∃ev,W.cell? ⟨Tryz.lays172_ren.g 15,0,none⟩=some ev∧(ev= .nilIface∨∃te pe,ev= .iface te pe):=by
 rw[MakeChecks.laidMetH_plain _ _ _ (by kernel_rfl)] at h
 obtain ⟨ps,⟨g0,t0,cs0,f0,p0,q0,hg0,ht0,hv0,hd0,⟨g1,t1,cs1,f1,p1,q1,hg1,ht1,hv1,hd1,⟨g2,t2,cs2,f2,p2,q2,hg2,ht2,hv2,hd2,⟨g3,t3,cs3,f3,p3,q3,hg3,ht3,hv3,hd3,⟨g4,t4,cs4,f4,p4,q4,hg4,ht4,hv4,hd4,h5,_⟩,_⟩,_⟩,_⟩,_⟩,_,_⟩:=h
 constructor
 ·have hT:=zG
  rw[hg2] at hT
  obtain rfl:=sI (ht2.symm.trans hT)
  rw[tG] at hd2
  have:=Lib.cells_of_tab Tryz.underlying306 Tryz.underlying169 (by kernel_rfl) (by kernel_rfl) hd2
  show W.var? I _=some _
  rw[hv2,←this]
 ·obtain ⟨g5,t5,cs5,f5,p5,q5,hg5,ht5,hv5,hd5,_,_⟩:=h5
  rw[←Option.some.inj (gES.symm.trans hg5),xe] at ht5
  obtain rfl:=sI ht5
  obtain ⟨_,u,v,hcs,_,_⟩:=iface_of_trod Tryz.underlying213 hd5
  refine ⟨.iface u v,?_,oR ⟨u,v,rfl⟩⟩
  rw[World.var?_cell gES hv5 0]
  have h1:cs5.toList[0]? = some (.iface u v):=by rw[hcs];rfl
  simpa using h1
theorem px {W:World} (h:W.ShapedOpen I) (hL:laidMetH I Rows.topWinsRow.laid W):Reads W:=⟨Tryz.lays145.s1_3 W h,(rO hL).2,(rO hL).1⟩
theorem fc {H:Type} {enc:TypeId×Value→H} {a:Assume} {C:Checked} {os:Os} {f:FuncId} {fn:Func} {s:ChangeSpec} {conds:List PathCond} {apart fresh handsOn again:Bool} {X:World→Array Value→Prop}
  (hX:∀(w w':World) (args:Array Value),w.heap=w'.heap→X w args→X w' args)
  (own:ownKnob C.prog.godebug=none) (started:os.Started) (noInit:C.prog.inits.idxOf? f=none) (hfn:C.prog.funcs[f]? = some fn)
  (witness:∃(w:World) (tape:Tape) (i:Input),w.os=os∧(w.forCall tape i).Shaped C.prog∧i.vars=[]∧Input.okWide C.prog (w.forCall tape i) .any w.heap.size f i ∧
   ((s.pre enc C.prog fn conds apart (w.forCall tape i).memory i.args∧X (w.forCall tape i).memory i.args)∧sizedMet enc C.prog fn (OpenSpec.ofChange s) apart (w.forCall tape i).memory i.args)∧a.holds C.prog (lone (Frame.enter C.prog f i.args .normal) [] (w.forCall tape i)))
  (contract:∀(W:World) (base:Nat) (args:Array Value) (ds gs:List (DataW H)) (before:List MemPlace),
   (∀(j:Nat) t v,fn.params[j]? = some t→args[j]? = some v→Value.okWide C.prog W .any base t v) →
   DataW.Whole enc C.prog fn.params.toList s.vars apart W args.toList ds gs before→X W args→W.ShapedOpen C.prog →
   Calls C.prog f args W fun e W'=>∃v,e= .returned v∧s.post enc C.prog fn apart fresh handsOn again W args v W') :
  ReturnsInHanded a C os f .any (fun w args=>(s.pre enc C.prog fn conds apart w args∧X w args)∧sizedMet enc C.prog fn (OpenSpec.ofChange s) apart w args) (s.post enc C.prog fn apart fresh handsOn again):=by
 refine returnsInHanded_of_calls own started noInit witness ?_
 intro w tape i _ hsh _ hok hpre _
 obtain ⟨_,_,_,fn',hfn',_,_,_,_,hval⟩:=hok
 obtain rfl:fn'=fn:=sI (hfn'.symm.trans hfn)
 obtain ⟨⟨⟨ds,gs,before,hw,hc⟩,hx⟩,hz⟩:=hpre
 refine (contract (w.forCall tape i) w.heap.size i.args ds gs before hval (DataW.Whole.of_heap (w':=w.forCall tape i) (by rfl) hw) (hX _ _ _ (by rfl) hx) hsh).mono fun e W' ⟨v,he,hp⟩=> ?_
 subst he
 exact ChangeSpec.post_blind hp
section
open Go.Sort

section
variable {w wr w':World} {X Y:Nat} {M M' N:NetM} {Q Q' R:Nat→List (List Stp)}
end
theorem xB (n:Int) (m:Nat) (w:World) (hm:0<m∧m≤1000000):Calls I 14 #[.int .i64 n,.int .i64 m] w fun e w'=>(∃r:Nat,e= .returned (.int .i64 r)∧r<m)∧w'=w:=by
 have hm0:(m:Int)≠0:=by omega
 have h1:=Int.tmod_lt_of_pos n (b:=(m:Int)) (by omega)
 have h2: -(m:Int)<n.tmod m:=by
  have:=Int.tmod_lt_of_pos (-n) (b:=(m:Int)) (by omega)
  rw[Int.neg_tmod] at this
  omega
 by_cases h:n.tmod m<0
 ·obtain ⟨r,hr⟩:∃r:Nat,n.tmod m+m=r:=⟨(n.tmod m+m).toNat,by omega⟩
  have hrm:r<m:=by omega
  go_enter Tryz.func14,Tryz.ntmps14
  go_wp2
  go_ret
  exact ⟨⟨r,rfl,hrm⟩,rfl⟩
 ·obtain ⟨r,hr⟩:∃r:Nat,n.tmod m=r:=⟨(n.tmod m).toNat,by omega⟩
  go_enter Tryz.func14,Tryz.ntmps14
  go_wp2
  go_ret
  exact ⟨⟨r,rfl,by omega⟩,rfl⟩
end
section
open Go.Sort

def kw (l:List Int) (x:Int):Bool:=decide (x∈l)

theorem qv (l:List Int) (A:Option Addr) (cap:Nat) (x:Int) (w:World) (hl:l.length≤maxLen) (hr:ar w A l) :
  Calls I 28 #[.slice A l.length cap,.int .i64 x] w fun e w'=>∃r:Int,e= .returned (.int .i64 r)∧Hid (decide (0≤r)=kw l x)∧Gr w w':=by
 unfold maxLen at hl
 go_enter Tryz.func28,Tryz.ntmps28
 go_wp2
 go_loopw [8] (fun i wr=>∃k:Nat,k≤l.length∧i= .int .i64 k∧Hid (∀j (h:j<l.length),j<k→l[j]≠x)∧Gr w wr) (fun i _=>l.length-(intOf i).toNat)
 case atStart=>exact ⟨0,nZ _,rfl,fun j _ hj=>absurd hj (Nat.not_lt_zero _),gR _⟩
 case round =>
  obtain ⟨k,hk,rfl,hno,hgr⟩:=hrel
  by_cases hlt:k<l.length
  ·have hltz:(k:Int)<(l.length:Int):=by omega
   obtain ⟨bb,off,rfl,hb,hcs⟩:=(hr.gr hgr).at hlt
   have e0:=hcs k hlt 0 (by omega)
   obtain ⟨y,hy⟩:∃y,l[k]=y:=⟨_,rfl⟩
   rw[hy] at e0
   have e1:wr.cell? ⟨bb,off+k,none⟩=some (.int .i64 y):=by simpa[eM] using e0
   have hyH:Hid (l[k]=y):=hy
   clear hcs e0 hy
   cases hq:(x==y)
   ·have hne:Hid (l[k]≠x):=by
     intro h
     rw[hyH.out] at h
     rw[h] at hq
     simp at hq
    go_wp2
    go_roundw
    case rel =>
     refine ⟨k+1,by omega,by go_num,?_,hgr⟩
     intro j hj hjk
     by_cases e:j=k
     ·subst e;exact hne
     ·exact hno j hj (by omega)
    case measure=>simp[intOf];omega
   ·have hfin:Hid (decide ((0:Int)≤(k:Int))=kw l x):=by
     have hm:x∈l:=by
      have:x=l[k]:=by rw[hyH.out];exact beq_iff_eq.1 hq
      rw[this];exact gM hlt
     show decide _=_
     simp[kw,hm]
    go_wp2
    go_ret
    exact ⟨_,rfl,hfin,hgr⟩
  ·have hltz:¬(k:Int)<(l.length:Int):=by omega
   have hfin:Hid (decide ((0:Int)≤ -1)=kw l x):=by
    have hm:x ∉ l:=by
     intro h
     obtain ⟨j,hj,e⟩:=List.getElem_of_mem h
     exact hno j hj (by omega) e
    show decide _=_
    simp[kw,hm]
   go_wp2
   go_ret
   exact ⟨_,rfl,hfin,hgr⟩
theorem m7 (l:List Int) (A:Option Addr) (cap:Nat) (x:Int) (w:World) (hl:l.length≤maxLen) (hr:ar w A l) :
  Calls I 15 #[.slice A l.length cap,.int .i64 x] w fun e w'=>e= .returned (.bool (kw l x))∧Gr w w':=by
 go_enter Tryz.func15,Tryz.ntmps15
 go_wp2_with fail
 refine (qv l A cap x _ hl hr).mono ?_
 rintro e w' ⟨r,rfl,hrr,hg⟩
 go_wp2
 go_ret
 exact ⟨by rw[←hrr.out];rfl,hg⟩

end
end Go.Proofs.YtkefkplnamkicabGreatDoor
