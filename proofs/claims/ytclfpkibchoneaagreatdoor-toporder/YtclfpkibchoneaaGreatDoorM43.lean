/-
  What is handed in, opened: a list of happenings.
  From what the rows lay and from the world's shape: what the library's texts read.
-/
import Derived.Test.YtclfpkibchoneaaGreatDoorM41
import Derived.ChangeMaps5
import Derived.Test.YtclfpkibchoneaaGreatDoorCards
import Derived.Test.YtclfpkibchoneaaGreatDoorTie
import Derived.LaidMore
import Derived.Stop.Joined
import Derived.SevenTiedAt
import Derived.HandedShaped
import Derived.Stop.LaidErr
import Derived.Lay
set_option maxRecDepth 100000
set_option maxHeartbeats 8000000
open Go.Proofs.Tryz renaming prog → I
namespace Go.Proofs.YtclfpkibchoneaaGreatDoor
open Go.ChangeShapes Go.WideShapes Go.ChangeAt Go.RowKit Go.Deep

variable {H:Type} {enc:TypeId×Value→H} {W:World}

theorem mD {r:Reach} {b0:Nat} {v:Value} {d:DataW H} {p:List MemPlace} (hv:Value.okWide I W r b0 23 v) (h:DataW.Trod enc I W 0 (fun _=>true) true 23 v d p):∃A cap l,v= .slice A (l:List Int).length cap∧ar W A l:=by
 obtain ⟨aL,lenL,capL,rfl⟩:=okWide_slice Tryz.underlying23 hv
 obtain ⟨fuel,hf⟩:=h
 obtain ⟨A,cap,l,hcs,_,hr,_⟩:=xj hf
 simp[Value.cells] at hcs
 obtain ⟨rfl,rfl,rfl⟩:=hcs
 exact ⟨aL,capL,l,rfl,hr⟩
theorem zZ {cs:List Value} (h:cs.length=10):∃a b c d e f g h i j,cs=[a,b,c,d,e,f,g,h,i,j]:=by
 match cs,h with
 | [a,b,c,d,e,f,g,h,i,j],_=>exact ⟨a,b,c,d,e,f,g,h,i,j,rfl⟩
theorem yP {fuel:Nat} {v0 v1 v2 v3 v4:Value} {x:DataW H×List MemPlace} (h:DataW.trod enc I W 0 (fun _=>true) true fuel 28 [v0,v1,v2,v3,v4]=some x):∃z0 z1 z2 z3 z4:Int,[v0,v1,v2,v3,v4]=[.int .i64 z0,.int .i64 z1,.int .i64 z2,.int .i64 z3,.int .i64 z4]:=by
 obtain ⟨xs,n,_,_,_,hxl,hf⟩:=DataW.trod_struct Tryz.underlying28 h
 have c1:Tryz.prog.cellsOf 3=1:=by kernel_rfl
 have hx5:xs.length=5:=hxl
 match xs,hx5 with
 | [y0,y1,y2,y3,y4],_ =>
  have g0:=hf 0 _ rfl
  have g1:=hf 1 _ rfl
  have g2:=hf 2 _ rfl
  have g3:=hf 3 _ rfl
  have g4:=hf 4 _ rfl
  simp[c1] at g0 g1 g2 g3 g4
  obtain ⟨z0,e0,_⟩:=DataW.trod_int Tryz.underlying3 g0
  obtain ⟨z1,e1,_⟩:=DataW.trod_int Tryz.underlying3 g1
  obtain ⟨z2,e2,_⟩:=DataW.trod_int Tryz.underlying3 g2
  obtain ⟨z3,e3,_⟩:=DataW.trod_int Tryz.underlying3 g3
  obtain ⟨z4,e4,_⟩:=DataW.trod_int Tryz.underlying3 g4
  simp only[List.cons.injEq,and_true] at e0 e1 e2 e3 e4
  exact ⟨z0,z1,z2,z3,z4,by rw[e0,e1,e2,e3,e4]⟩
theorem xi {fuel:Nat} {cs:List Value} {x:DataW H×List MemPlace} (hl:cs.length=10) (h:DataW.trod enc I W 0 (fun _=>true) true fuel 30 cs=some x):∃y:Hap×List UInt8,cs=bY y∧y.2.length≤maxLen:=by
 obtain ⟨v0,v1,v2,v3,v4,v5,v6,v7,v8,v9,rfl⟩:=zZ hl
 obtain ⟨xs,n,_,_,_,hxl,hf⟩:=DataW.trod_struct Tryz.underlying30 h
 have c1:Tryz.prog.cellsOf 3=1:=by kernel_rfl
 have c5:Tryz.prog.cellsOf 28=5:=by kernel_rfl
 have cs:Tryz.prog.cellsOf 9=1:=by kernel_rfl
 have hx6:xs.length=6:=hxl
 match xs,hx6 with
 | [y0,y1,y2,y3,y4,y5],_ =>
  have g0:=hf 0 _ rfl
  have g1:=hf 1 _ rfl
  have g2:=hf 2 _ rfl
  have g3:=hf 3 _ rfl
  have g4:=hf 4 _ rfl
  have g5:=hf 5 _ rfl
  simp[c1,c5,cs] at g0 g1 g2 g3 g4 g5
  obtain ⟨z0,e0,_⟩:=DataW.trod_int Tryz.underlying3 g0
  obtain ⟨z1,e1,_⟩:=DataW.trod_int Tryz.underlying3 g1
  obtain ⟨z2,e2,_⟩:=DataW.trod_int Tryz.underlying3 g2
  obtain ⟨z3,e3,_⟩:=DataW.trod_int Tryz.underlying3 g3
  obtain ⟨k1,k2,k3,k4,k5,e4⟩:=yP g4
  obtain ⟨s,e5,_,hs⟩:=DataW.trod_string Tryz.underlying9 g5
  simp only[List.cons.injEq,and_true] at e0 e1 e2 e3 e4 e5
  refine ⟨(⟨z0,z1,z2,z3,k1,k2,k3,k4,k5⟩,s.data.toList),?_,by simpa using hs⟩
  rw[e0,e1,e2,e3,e4.1,e4.2.1,e4.2.2.1,e4.2.2.2.1,e4.2.2.2.2,e5]
  rfl
theorem ge {r:Reach} {b0:Nat} {v:Value} {d:DataW H} {p:List MemPlace} (hv:Value.okWide I W r b0 22 v) (h:DataW.Trod enc I W 0 (fun _=>true) true 22 v d p) :
  ∃A cap l,v= .slice A (l:List (Hap×List UInt8)).length cap∧ax bY 10 W A l∧l.length≤maxLen∧∀x∈l,x.2.length≤maxLen:=by
 obtain ⟨aL,lenL,capL,rfl⟩:=okWide_slice Tryz.underlying22 hv
 obtain ⟨fuel,hf⟩:=h
 rcases open_slice Tryz.underlying22 hf with ⟨hcs,_⟩|⟨a,len,cap,m,n,D,Pl,hcs,_,hl,hm,hmm,hx,hi⟩
 ·simp[Value.cells] at hcs
  obtain ⟨rfl,rfl,rfl⟩:=hcs
  exact ⟨none,0,[],rfl,oL rfl,by simp,fun x hx=>by cases hx⟩
 ·simp[Value.cells] at hcs
  obtain ⟨rfl,rfl,rfl⟩:=hcs
  have c2:Tryz.prog.cellsOf 30=10:=by kernel_rfl
  have hlm:lenL≤m:=by rw[hmm];simp;exact hl
  haveI:Inhabited (Hap×List UInt8):=⟨(⟨0,0,0,0,0,0,0,0,0⟩,[])⟩
  obtain ⟨Z,hZ⟩:=choose_lt (α := Hap×List UInt8) (n:=lenL) (p:=fun i z=>(∀j,j<10→W.cell? (a.add (i*10+j))=(bY z)[j]?)∧z.2.length≤maxLen) (fun i hi'=>by
   obtain ⟨cs',h1,h2⟩:=hi i (by omega)
   rw[c2] at h1
   obtain ⟨_,hlen,hcell⟩:=World.cells?_some h1
   obtain ⟨y,hy,hy2⟩:=xi hlen h2
   refine ⟨y,fun j hj=> ?_,hy2⟩
   have:=hcell j (by omega)
   rw[add_add] at this
   rw[this,←hy,List.getElem?_eq_getElem (by omega)])
  refine ⟨some a,capL,(List.range lenL).map Z,by simp,?_,by simp;omega,fun x hx=> ?_⟩
  ·by_cases h0:lenL=0
   ·exact oL (by rw[h0];rfl)
   ·have hc0:=(hZ 0 (by omega)).1 0 (by omega)
    obtain ⟨b,off,spot⟩:=a
    have hc1:W.cell? (Addr.add ⟨b,off,spot⟩ (0*10+0))=some (.int .i64 (Z 0).1.k):=hc0
    have hspot:spot=none:=by simpa[Addr.add] using World.cell?_spot hc1
    subst hspot
    refine oR ⟨b,off,rfl,?_,fun j hj i hi5=> ?_⟩
    ·have:=World.block_lt_of_cell? W _ hc1
     simpa[Addr.add_lit] using this
    ·have hj':j<lenL:=by simpa using hj
     have:=(hZ j hj').1 i hi5
     simp only[Addr.add_lit,←Nat.add_assoc] at this
     simpa using this
  ·obtain ⟨i,hi',rfl⟩:=List.mem_map.1 hx
   exact (hZ i (by simpa using hi')).2
end Go.Proofs.YtclfpkibchoneaaGreatDoor

namespace Go.Proofs.YtclfpkibchoneaaGreatDoor
open Go.ChangeShapes Go.WideShapes Go.ChangeAt Go.RowKit

theorem AY : ((Tryz.prog.globalNamed "internal/strconv.uint64pow10").bind fun g => (Tryz.prog.globals[g]?).map (·.type)) = some 314 := by kernel_rfl
theorem uY {H:Type}:(Rows.laid_internal_strconv_uint64pow10:DataW H)=Lib.tabData .u64 Lib.pow10Tab:=rfl
theorem gES : Tryz.prog.globalNamed "strconv.ErrSyntax" = some (Tryz.lays172_ren.g 15) := by kernel_rfl
theorem yz:(Tryz.prog.globals[Tryz.lays172_ren.g 15]?).map (·.type)=some 221:=by kernel_rfl
theorem tm {W:World} (h:laidMetH I Rows.topWinsRow.laid W):oY W∧∃ev,W.cell? ⟨Tryz.lays172_ren.g 15,0,none⟩=some ev∧(ev= .nilIface∨∃te pe,ev= .iface te pe):=by
 rw[MakeChecks.laidMetH_plain _ _ _ (by kernel_rfl)] at h
 obtain ⟨ps,⟨g0,t0,cs0,f0,p0,q0,hg0,ht0,hv0,hd0,⟨g1,t1,cs1,f1,p1,q1,hg1,ht1,hv1,hd1,⟨g2,t2,cs2,f2,p2,q2,hg2,ht2,hv2,hd2,⟨g3,t3,cs3,f3,p3,q3,hg3,ht3,hv3,hd3,⟨g4,t4,cs4,f4,p4,q4,hg4,ht4,hv4,hd4,h5,_⟩,_⟩,_⟩,_⟩,_⟩,_,_⟩:=h
 constructor
 ·have hT:=AY
  rw[hg2] at hT
  obtain rfl:=sI (ht2.symm.trans hT)
  rw[uY] at hd2
  have:=Lib.cells_of_tab Tryz.underlying314 Tryz.underlying177 (by kernel_rfl) (by kernel_rfl) hd2
  show W.var? I _=some _
  rw[hv2,←this]
 ·obtain ⟨g5,t5,cs5,f5,p5,q5,hg5,ht5,hv5,hd5,_,_⟩:=h5
  rw[←Option.some.inj (gES.symm.trans hg5),yz] at ht5
  obtain rfl:=sI ht5
  obtain ⟨_,u,v,hcs,_,_⟩:=iface_of_trod Tryz.underlying221 hd5
  refine ⟨.iface u v,?_,oR ⟨u,v,rfl⟩⟩
  rw[World.var?_cell gES hv5 0]
  have h1:cs5.toList[0]? = some (.iface u v):=by rw[hcs];rfl
  simpa using h1
theorem iq {W:World} (h:W.ShapedOpen I) (hL:laidMetH I Rows.topWinsRow.laid W):Reads W:=⟨Tryz.lays145.s1_3 W h,(tm hL).2,(tm hL).1⟩
theorem cN {H:Type} {enc:TypeId×Value→H} {a:Assume} {C:Checked} {os:Os} {f:FuncId} {fn:Func} {s:ChangeSpec} {conds:List PathCond} {apart fresh handsOn again:Bool} {X:World→Array Value→Prop}
  (hX:∀(w w':World) (args:Array Value),w.heap=w'.heap→X w args→X w' args)
  (own:ownKnob C.prog.godebug=none) (started:os.Started) (noInit:C.prog.inits.idxOf? f=none) (hfn:C.prog.funcs[f]? = some fn)
  (witness:∃(w:World) (tape:Tape) (i:Input),w.os=os∧(w.forCall tape i).Shaped C.prog∧i.vars=[]∧Input.okWide C.prog (w.forCall tape i) .any w.heap.size f i ∧
   ((s.pre enc C.prog fn conds apart (w.forCall tape i).memory i.args∧X (w.forCall tape i).memory i.args)∧sizedMet enc C.prog fn (OpenSpec.ofChange s) apart (w.forCall tape i).memory i.args)∧a.holds C.prog (lone (Frame.enter C.prog f i.args .normal) [] (w.forCall tape i)))
  (contract:∀(W:World) (base:Nat) (args:Array Value) (ds gs:List (DataW H)) (before:List MemPlace),
   (∀(j:Nat) t v,fn.params[j]? = some t→args[j]? = some v→Value.okWide C.prog W .any base t v) →
   DataW.Whole enc C.prog fn.params.toList s.vars apart W args.toList ds gs before→X W args→W.ShapedOpen C.prog →
   Calls C.prog f args W fun e W'=>∃v,e= .returned v∧s.post enc C.prog fn apart fresh handsOn again W args v W') :
  ReturnsInHanded a C os f .any (fun w args=>(s.pre enc C.prog fn conds apart w args∧X w args)∧sizedMet enc C.prog fn (OpenSpec.ofChange s) apart w args) (s.post enc C.prog fn apart fresh handsOn again):=by
 refine returnsInHanded_of_calls own started noInit witness ?_
 intro w tape i _ hsh _ hok hpre _
 obtain ⟨_,_,_,fn',hfn',_,_,_,_,hval⟩:=hok
 obtain rfl:fn'=fn:=sI (hfn'.symm.trans hfn)
 obtain ⟨⟨⟨ds,gs,before,hw,hc⟩,hx⟩,hz⟩:=hpre
 refine (contract (w.forCall tape i) w.heap.size i.args ds gs before hval (DataW.Whole.of_heap (w':=w.forCall tape i) (by rfl) hw) (hX _ _ _ (by rfl) hx) hsh).mono fun e W' ⟨v,he,hp⟩=> ?_
 subst he
 exact ChangeSpec.post_blind hp
end Go.Proofs.YtclfpkibchoneaaGreatDoor
